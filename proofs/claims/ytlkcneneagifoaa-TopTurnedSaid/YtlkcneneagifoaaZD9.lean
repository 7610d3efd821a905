/- Texts of a claim, joined. -/
import Derived.Test.YtlkcneneagifoaaZD8
import Derived.Test.YtlkcneneagifoaaProg
import Derived.WalkKit
import Derived.BigQuiet
import Derived.Lib.QuietBelow
import Derived.WalkSpells
import Derived.WalkLawsBesides
import Derived.IntWalk
import Derived.Lib.Hide
import Derived.Outline
import Derived.StillTail
import Derived.Laws.OwnMore
import Derived.Maps.AppendAt
import Derived.RangeFuncBox
import Derived.Defers
import Derived.Recover
set_option linter.unusedVariables false
set_option linter.unusedSimpArgs false
section
namespace Go.Proofs.Ytlkcneneagifoaa
namespace Ev
namespace K
open Go Go.RowKit
set_option linter.unusedVariables false
set_option linter.unusedSimpArgs false
section
variable {E : Env} {n : Nat} {F : KF} {ks : KS} {V : Vl} {f : Nat → D} {h : Heap} {G : KG} {D0 : Nat}
theorem load_ptr {k i j bz : Nat} {ag : Bool} {sz : Nat} {es : List (List C)} {e cs : List C} {d : D} (hg : getBlk h k = some (bz, es)) (he : es[i]? = some e) (hc : Ev.cut e j sz = some cs) (hv : ofCells ag cs = some d) : load h ag sz (.one (.ptr k i j)) = some d := by
 simp only [load, hg, Option.bind_eq_bind, Option.bind_some, he, hc, hv]
theorem kLoad_ok (hr : Rel F ks V f h) {z : Nat × Bool} {a : KD} {a' : D} {R : Type} {r : R} {κ : KD → Option R} (hs : kLoad F ks z a κ = some r) (ha : RD (getB F ks) V a a') : ∃ d d', κ d = some r ∧ load h z.2 (if z.2 then z.1 else 1) a' = some d' ∧ RD (getB F ks) V d d' ∧ ScD ks.nx d := by
 have hz : wd z = if z.2 then z.1 else 1 := by unfold wd; cases z.2 <;> rfl
 cases a with
 | tup ts => simp [kLoad] at hs
 | agg cs => simp [kLoad] at hs
 | one c =>
  obtain ⟨c', rfl, hc⟩ := ha
  cases c with
  | ptr p j =>
   simp only [kLoad] at hs
   split at hs
   ·rename_i cs hp
    simp only [Option.bind_eq_some_iff] at hs
    obtain ⟨d2, ⟨cs2, g1, g2⟩, g3⟩ := hs
    obtain ⟨g4, g5, sz, cs', g6, g7⟩ := hr.bl p _ hp
    obtain ⟨c2, g8, g9⟩ := g7.cut g1
    obtain ⟨d3, k1, k2, k3⟩ := kOf_some g2 (scs_cut g5 g1) g9
    rw [show c' = _ from hc]
    exact ⟨_, d3, g3, load_ptr g6 rfl (by rw [← hz]; exact g8) k1, k2, k3⟩
   ·simp at hs
  | ip e fr x i y j =>
   simp only [kLoad, Option.bind_eq_some_iff] at hs
   obtain ⟨d2, ⟨cs2, g1, g2⟩, g3⟩ := hs
   obtain ⟨fl, e1, e2, e3⟩ := hc
   obtain ⟨c2, g8, g9⟩ := (kcells_rel (B := getB F ks) (V := V) e3 e y).cut g1
   obtain ⟨d3, k1, k2, k3⟩ := kOf_some g2 (scs_cut (kcells_sc ks.nx fr e y) g1) g9
   refine ⟨_, d3, g3, ?_, k2, k3⟩
   rw [e1]
   simp only [load, Option.bind_eq_bind, map_get (r := e.row) e2, Option.bind_some]
   rw [← hz, g8]
   exact k1
  | pe p i j =>
   simp only [kLoad] at hs
   rw [hc.2]
   split at hs
   ·rename_i e ne l hp
    simp only [Option.bind_eq_some_iff] at hs
    obtain ⟨y, g0, d2, ⟨cs2, g1, g2⟩, g3⟩ := hs
    obtain ⟨g4, g5, g6, _⟩ := hr.bl p _ hp
    obtain ⟨c2, g8, g9⟩ := (kcells_rel (B := getB F ks) (V := V) (fun _ => rfl) e y).cut g1
    obtain ⟨d3, k1, k2, k3⟩ := kOf_some g2 (scs_cut (kcells_sc ks.nx true e y) g1) g9
    exact ⟨_, d3, g3, load_ptr g6 (row_get g0).2 (by rw [← hz]; exact g8) k1, k2, k3⟩
   ·rename_i e l hp
    simp only [Option.bind_eq_some_iff] at hs
    obtain ⟨y, g0, d2, ⟨cs2, g1, g2⟩, g3⟩ := hs
    obtain ⟨g4, g5, g6⟩ := hr.bl p _ hp
    obtain ⟨c2, g8, g9⟩ := (kcells_rel (B := getB F ks) (V := V) (fun _ => rfl) e y).cut g1
    obtain ⟨d3, k1, k2, k3⟩ := kOf_some g2 (scs_cut (kcells_sc ks.nx true e y) g1) g9
    exact ⟨_, d3, g3, load_ptr (g6 (atL_ne g0)) (row_get g0).2 (by rw [← hz]; exact g8) k1, k2, k3⟩
   ·simp at hs
  | _ => simp [kLoad] at hs
theorem resK_ok (hG : GOk G E D0) (hr : Rel F ks V f h) : ∀ {rv : List ResultVar} {R : Type} {r : R} {κ : List KD → Option R}, resK G F ks rv κ = some r → ∃ ds ds', rv.mapM (resultD E { t := tab F.nt f, h := h }) = some ds' ∧ RDl (getB F ks) V ds ds' ∧ (∀ d ∈ ds, ScD ks.nx d) ∧ κ ds = some r
 | [], R, r, κ, hs => ⟨[], [], rfl, rfl, by simp, hs⟩
 | .tmp t :: rv, R, r, κ, hs => by
  simp only [resK, Option.bind_eq_some_iff] at hs
  obtain ⟨d, g1, g2⟩ := hs
  obtain ⟨k1, k2, k3⟩ := hr.sl t d g1
  obtain ⟨ds, ds', e1, e2, e3, e4⟩ := resK_ok hG hr g2
  refine ⟨d :: ds, f t :: ds', ?_, ⟨_, _, rfl, k3, e2⟩, fun x hx => ?_, e4⟩
  ·rw [List.mapM_cons, e1]
   show ((tab F.nt f)[t]?).bind _ = _
   rw [tab_get, if_pos k1]; rfl
  ·rcases List.mem_cons.1 hx with rfl | hx
   ·exact k2
   ·exact e3 x hx
 | .cell a ty :: rv, R, r, κ, hs => by
  simp only [resK] at hs
  split at hs
  ·rename_i z d hz hd
   have hz' := sz_some hG hz
   obtain ⟨k1, k2, k3⟩ := hr.sl a d hd
   obtain ⟨v, v', g1, g2, g3, g4⟩ := kLoad_ok hr hs k3
   obtain ⟨ds, ds', e1, e2, e3, e4⟩ := resK_ok hG hr g1
   refine ⟨v :: ds, v' :: ds', ?_, ⟨_, _, rfl, g3, e2⟩, fun x hx => ?_, e4⟩
   ·unfold sizeAt at hz'
    simp only [Option.bind_eq_some_iff, Option.some.injEq] at hz'
    obtain ⟨ti, w1, w2⟩ := hz'
    rw [List.mapM_cons, e1]
    show (((E.ti ty).bind fun t' => ((tab F.nt f)[a]?).bind fun d => load h (isAggD t'.desc) (if isAggD t'.desc then t'.size else 1) d).bind _) = _
    rw [w1, tab_get, if_pos k1]
    subst w2
    simp only [Option.bind_some]
    rw [g2]; rfl
   ·rcases List.mem_cons.1 hx with rfl | hx
    ·exact g4
    ·exact e3 x hx
  ·simp at hs
theorem tups_ok : ∀ {ds : List KD} {ds' : List D} {ts : List (Bool × List KC)}, tupK.tups ds = some ts → RDl (getB F ks) V ds ds' → (∀ d ∈ ds, ScD ks.nx d) → RTs (getB F ks) V ts ds' ∧ ∀ x ∈ ts, Scs ks.nx x.2
 | [], ds', ts, h, hr, hs => by
  have := Option.some.inj (show some [] = some ts from h)
  subst this
  exact ⟨hr, by simp⟩
 | .one c :: r, ds', ts, h, ⟨d, s, e, h1, h2⟩, hs => by
  simp only [tupK.tups, Option.map_eq_some_iff] at h
  obtain ⟨ts', g1, rfl⟩ := h
  obtain ⟨k1, k2⟩ := tups_ok g1 h2 fun x hx => hs x (by simp [hx])
  refine ⟨⟨d, s, e, h1, k1⟩, fun x hx => ?_⟩
  rcases List.mem_cons.1 hx with rfl | hx
  ·exact fun y hy => by rw [List.mem_singleton.1 hy]; exact hs (.one c) (by simp)
  ·exact k2 x hx
 | .agg cs :: r, ds', ts, h, ⟨d, s, e, h1, h2⟩, hs => by
  simp only [tupK.tups, Option.map_eq_some_iff] at h
  obtain ⟨ts', g1, rfl⟩ := h
  obtain ⟨k1, k2⟩ := tups_ok g1 h2 fun x hx => hs x (by simp [hx])
  refine ⟨⟨d, s, e, h1, k1⟩, fun x hx => ?_⟩
  rcases List.mem_cons.1 hx with rfl | hx
  ·exact hs (.agg cs) (by simp)
  ·exact k2 x hx
 | .tup ts' :: r, ds', ts, h, hr, hs => by simp [tupK.tups] at h
theorem tupK_ok {ds : List KD} {ds' : List D} {d : KD} (h : tupK ds = some d) (hr : RDl (getB F ks) V ds ds') (hs : ∀ d ∈ ds, ScD ks.nx d) : RD (getB F ks) V d (tupD ds') ∧ ScD ks.nx d := by
 match ds, h, hr, hs with
 | [x], h, ⟨d', s, e, h1, h2⟩, hs =>
  cases h
  rw [e, show s = [] from h2]
  exact ⟨h1, hs d (by simp)⟩
 | [], h, hr, hs =>
  cases h
  rw [show ds' = [] from hr]
  exact ⟨⟨[], rfl, rfl⟩, fun x hx => by simp at hx⟩
 | x :: x' :: r, h, hr, hs =>
  have h' : (tupK.tups (x :: x' :: r)).map KD.tup = some d := h
  rw [Option.map_eq_some_iff] at h'
  obtain ⟨ts, g1, rfl⟩ := h'
  obtain ⟨k1, k2⟩ := tups_ok g1 hr hs
  obtain ⟨d1, s1, e1, _, d2, s2, e2, _, _⟩ := hr
  refine ⟨⟨ds', ?_, k1⟩, k2⟩
  rw [e1, e2]; rfl
theorem numS_look : ∀ {l : List KD} {q i : Nat} {d : KD}, look (numS q l) i = some d → ∃ j, i = q + j ∧ l[j]? = some d
 | [], q, i, d, h => by simp [numS, look] at h
 | a :: l, q, i, d, h => by
  unfold numS at h
  rw [look_cons] at h
  split at h
  ·rename_i hi; cases h; exact ⟨0, by omega, rfl⟩
  ·obtain ⟨j, h1, h2⟩ := numS_look h; exact ⟨j + 1, by omega, by simpa using h2⟩
theorem rdl_get {B : BK} : ∀ {l : List KD} {l' : List D} {j : Nat} {d : KD}, RDl B V l l' → l[j]? = some d → ∃ d', l'[j]? = some d' ∧ RD B V d d'
 | [], l', j, d, h, hj => by simp at hj
 | a :: l, l', 0, d, ⟨x, s, e, h1, h2⟩, hj => by simp at hj; subst hj e; exact ⟨x, rfl, h1⟩
 | a :: l, l', j + 1, d, ⟨x, s, e, h1, h2⟩, hj => by subst e; simpa using rdl_get h2 (by simpa using hj)
theorem rdl_len {B : BK} : ∀ {l : List KD} {l' : List D}, RDl B V l l' → l'.length = l.length
 | [], l', h => by rw [show l' = [] from h]; rfl
 | a :: l, l', ⟨x, s, e, h1, h2⟩ => by rw [e, List.length_cons, List.length_cons, rdl_len h2]
theorem frame_rel {nt nx : Nat} {bl : List (Nat × KB)} {args : List KD} {args' : List D} (hb : RelB F { sl := [], bl := bl, nx := nx } V h) (hs : ∀ d ∈ args, ScD nx d) (hr : RDl (getB F { sl := [], bl := bl, nx := nx }) V args args') (hl : args.length ≤ nt) : Rel { F with sl := [], nt := nt } { sl := numS 0 args, bl := bl, nx := nx } V (fA args') h := by
 refine ⟨?_, hb.bl, hb.inj⟩
 intro i d hd
 have hd' : lookF (numS 0 args) [] i = some d := hd
 unfold lookF at hd'
 cases hl' : look (numS 0 args) i with
 | none => rw [hl'] at hd'; simp [look] at hd'
 | some d0 =>
  rw [hl'] at hd'
  cases hd'
  obtain ⟨j, h1, h2⟩ := numS_look hl'
  rw [Nat.zero_add] at h1
  subst h1
  obtain ⟨d', h3, h4⟩ := rdl_get hr h2
  have hi : i < args.length := (List.getElem?_eq_some_iff.1 h2).1
  refine ⟨Nat.lt_of_lt_of_le hi hl, hs d (List.mem_of_getElem? h2), ?_⟩
  show RD _ _ d (args'.getD i undefD)
  rw [List.getD_eq_getElem?_getD, h3]
  exact h4
theorem isRet_of {e : Ex} (h : isRet e = true) : e = .normal ∨ e = .ret := by
 cases e with
 | normal => exact .inl rfl
 | ret => exact .inr rfl
 | exit id => simp [isRet] at h
theorem callK_ok (hG : GOk G E D0) (A : AnnK) : ∀ (c n : Nat), D0 + c ≤ n → CallOk E n (callK G A c)
 | 0, n, hn => fun R F k args ks κ r V h args' hs hb hsc hr => by simp [callK] at hs
 | c + 1, n, hn => fun R F k args ks κ r V h args' hs hb hsc hr => by
  unfold callK at hs
  split at hs
  ·rename_i fi hfi
   obtain ⟨g1, g2⟩ := hG.fi k fi hfi
   split at hs
   ·rename_i hlen
    match n, hn with
    | n0 + 1, hn =>
     refine ⟨n0, fi, rfl, g1, g2, by rw [rdl_len hr]; exact hlen, ?_⟩
     have hrel : Rel { F with sl := [], nt := fi.nt } { ks with sl := numS 0 args } V (fA args') h := frame_rel ⟨hb.bl, hb.inj⟩ hsc hr hlen
     refine (codeK_ok (y := nY) hG (by omega) (callK_ok hG A c n0 (by omega)) fi.body R _ _ _ r V _ h hs hrel).mono fun e s hp => ?_
     obtain ⟨ks', V', f', h1, h2, h3, h4⟩ := hp
     obtain ⟨t, hh⟩ := s
     simp only at h1 h2
     subst h1
     dsimp only at h3
     cases he : isRet e with
     | false => rw [he] at h3; simp at h3
     | true =>
      rw [he] at h3
      obtain ⟨ds, ds', e1, e2, e3, e4⟩ := resK_ok hG h2 h3
      rw [Option.bind_eq_some_iff] at e4
      obtain ⟨d, e5, e6⟩ := e4
      obtain ⟨k1, k2⟩ := tupK_ok e5 e2 e3
      exact ⟨isRet_of he, ds', e1, ks', V', d, e6, k2, k1, ⟨h2.bl, h2.inj⟩, ⟨h4.nx, h4.agree, h4.le, h4.dom⟩⟩
   ·simp at hs
  ·simp at hs
theorem plainB_row : ∀ {e : Ty} (x : e.val), e.plain = true → (rowC e.row x).all plainB = true
 | .I _, _, _ => rfl
 | .B, _, _ => rfl
 | .S _, _, hp => by simp [Ty.plain] at hp
 | .U, _, _ => rfl
 | .C a b, x, hp => by
  simp only [Ty.plain, Bool.and_eq_true] at hp
  unfold rowC
  show ((a.row x.1 ++ b.row x.2).map (pC true)).all plainB = true
  rw [List.map_append, List.all_append]
  have h1 := plainB_row x.1 hp.1
  have h2 := plainB_row x.2 hp.2
  unfold rowC at h1 h2
  rw [h1, h2]; rfl
theorem rds_of_rts {B : BK} : ∀ {l : List (Bool × List KC)} {ds : List D}, RTs B V l ds → RDl B V (l.map mkD) ds
 | [], ds, h => h
 | x :: l, ds, ⟨d, s, e, h1, h2⟩ => ⟨d, s, e, rd_of1 h1, rds_of_rts h2⟩
theorem kds_len (fr : Bool) : ∀ (ts : List TyD) (x : vals ts), (kdsOf fr ts x).length = ts.length
 | [], _ => rfl
 | [t], x => rfl
 | t :: t' :: r, x => by show (kdsOf fr (t' :: r) x.2).length + 1 = _; rw [kds_len fr (t' :: r)]; rfl
theorem tds_len : ∀ (ts : List TyD) (x : vals ts), (tdsOf ts x).length = ts.length
 | [], _ => rfl
 | [t], x => rfl
 | t :: t' :: r, x => by show (tdsOf (t' :: r) x.2).length + 1 = _; rw [tds_len (t' :: r)]; rfl
theorem ownRes_no {B : BK} {ts : List TyD} {ds : List KD} {ds' : List D} {x : vals ts} (hd : decDs B ts ds = some x) (hr : RDl B V ds ds') (hno : oneOwn ds = false) : ownRes h ds' = false := by
 unfold ownRes
 split
 ·rename_i k m
  match ds, hr, hno, hd with
  | [d], ⟨y, s, e, h1, h2⟩, hno, hd =>
   rw [show s = [] from h2] at e
   simp only [List.cons.injEq, and_true] at e
   subst e
   match ts, x, hd with
   | [t], x, hd =>
    have hd' : decD B t d = some x := hd
    cases d with
    | one c =>
     obtain ⟨c', e1, e2⟩ := h1
     cases e1
     cases c with
     | o e p => simp [oneOwn] at hno
     | m e p => simp [oneOwn] at hno
     | n k y => exact absurd (show C.own _ 0 _ = _ from e2) (by simp)
     | b v => exact absurd (show C.own _ 0 _ = _ from e2) (by simp)
     | p t P d => exact absurd e2.1 (by simp)
     | bv y => exact absurd (show C.own _ 0 _ = _ from e2) (by simp)
     | v y => exact absurd (show C.own _ 0 _ = _ from e2) (by simp)
     | nil => exact absurd (show C.own _ 0 _ = _ from e2) (by simp)
     | s e fr y => obtain ⟨fl, e3, _⟩ := e2; exact absurd e3 (by simp)
     | ptr p j => exact absurd (show C.own _ 0 _ = _ from e2) (by simp)
     | pe p i j => exact absurd e2.2 (by simp)
     | ip e fr y i z j => obtain ⟨fl, e3, _⟩ := e2; exact absurd e3 (by simp)
     | clo fn ps => exact absurd (show C.own _ 0 _ = _ from e2) (by simp)
     | yld p => exact absurd (show C.own _ 0 _ = _ from e2) (by simp)
    | agg cs => obtain ⟨c', e1, _⟩ := h1; simp at e1
    | tup ts => simp [decD] at hd'
   | [], x, hd => simp [decDs] at hd
   | _ :: _ :: _, x, hd => simp [decDs] at hd
  | [], hr, _, _ => exact absurd (show [_] = _ from hr) (by simp)
  | _ :: _ :: _, ⟨y, s, e, h1, y2, s2, e2, _, _⟩, _, _ => rw [e2] at e; simp at e
 ·rfl
theorem end_own {rv : List ResultVar} {e : Ty} {l : List e.val} {k : Nat} {ex : Ex} {s : St} (he : ex = .normal ∨ ex = .ret) (hres : rv.mapM (resultD E s) = some [.one (.own k 0 l.length)]) (hg : getBlk s.h k = some (e.size, l.map (rowC e.row))) (hp : e.plain = true) : endQ E rv (.own, [.one (.s true e.size (l.map e.row))]) ex s := by
 have ho : ownRes s.h [.one (.own k 0 l.length)] = true := by
  simp only [ownRes, hg, List.length_map, BEq.rfl, Bool.true_and, List.all_map]
  rw [List.all_eq_true]
  exact fun x _ => plainB_row x hp
 have hv : viewD s.h (.one (.own k 0 l.length)) = some (true, .one (.s true e.size (l.map e.row))) := by
  show (view s.h 6 _).bind _ = _
  rw [vc_own (r := e.row) (L := [[(k, e.size, l.map (rowC e.row))]]) 0 rfl (fun x h m => view_row m) s.h (HB_one hg) 4]; rfl
 have key : holdsQ (fun q : Kind × List TD => q = (.own, [.one (.s true e.size (l.map e.row))])) ((rv.mapM (resultD E s)).bind fun rs => (rs.mapM (viewD s.h)).map fun l => (if ownRes s.h rs then .own else if l.all (·.1) then .fresh else .any, l.map (·.2))) := by
  rw [hres]
  simp only [Option.bind_some, List.mapM_cons, hv, List.mapM_nil, Option.pure_def, Option.bind_eq_bind, Option.map_some, ho]
  rfl
 rcases he with rfl | rfl <;> exact key
theorem end_data {rv : List ResultVar} {ds' : List D} {l : List (Bool × TD)} {ex : Ex} {s : St} (he : ex = .normal ∨ ex = .ret) (hres : rv.mapM (resultD E s) = some ds') (hv : ds'.mapM (viewD s.h) = some l) (ho : ownRes s.h ds' = false) : endQ E rv (cond (l.all (·.1)) .fresh .any, l.map (·.2)) ex s := by
 have key : holdsQ (fun q : Kind × List TD => q = (cond (l.all (·.1)) .fresh .any, l.map (·.2))) ((rv.mapM (resultD E s)).bind fun rs => (rs.mapM (viewD s.h)).map fun l => (if ownRes s.h rs then .own else if l.all (·.1) then .fresh else .any, l.map (·.2))) := by
  rw [hres]
  simp only [Option.bind_some, hv, Option.map_some, ho]
  show (_, _) = (_, _)
  cases l.all (·.1) <;> rfl
 rcases he with rfl | rfl <;> exact key
theorem funK_ok (hG : GOk G E D0) (A : AnnK) {fi : FI} {k : FuncId} {c : Nat} {ins : List TyD} {ok : OutK} {x : vals ins} {out : ok.val} (hax : E.ax k = none) (hf : E.fn k = some fi) (hl : ins.length ≤ fi.nt) (hs : funK G A fi k c ins ok x = some out) (m : Nat) : OutRuns E (m + (D0 + c) + 1) k (tdsOf ins x) ok out := by
 unfold funK at hs
 have hb : RelB { nt := fi.nt } { sl := [], bl := [], nx := 0 } ⟨fun _ => 0, fun _ => false⟩ [] := ⟨fun p b hb => by simp [getB, lookF, look] at hb, fun p q b b' hb => by simp [getB, lookF, look] at hb⟩
 have hargs : RDl (getB { nt := fi.nt } { sl := [], bl := [], nx := 0 }) ⟨fun _ => 0, fun _ => false⟩ ((kdsOf false ins x).map mkD) ((tdsOf ins x).map (unview false)) := rds_of_rts (kds_rel (fun h => h) ins x)
 have hsc : ∀ d ∈ (kdsOf false ins x).map mkD, ScD 0 d := fun d hd => by
  obtain ⟨y, h1, rfl⟩ := List.mem_map.1 hd
  exact mkD_scs (kds_sc 0 false ins x y h1)
 have hrel : Rel { nt := fi.nt } { sl := argsK ins x, bl := [], nx := 0 } ⟨fun _ => 0, fun _ => false⟩ (fA ((tdsOf ins x).map (unview false))) [] := frame_rel (F := { nt := fi.nt }) hb hsc hargs (by rw [List.length_map, kds_len]; exact hl)
 have hw := codeK_ok (y := nY) (n := m + (D0 + c)) hG (by omega) (callK_ok hG A c _ (by omega)) fi.body ok.val _ _ _ out _ _ [] hs hrel
 have hend : ∀ r, (∀ e s, PostC { nt := fi.nt } { sl := argsK ins x, bl := [], nx := 0 } ⟨fun _ => 0, fun _ => false⟩ (fun e ks => cond (isRet e) (resK G { nt := fi.nt } ks fi.results fun ds => endK (getB { nt := fi.nt } ks) ok ds) none) out e s → endQ E fi.results r e s) → RunsP E (m + (D0 + c) + 1) k (tdsOf ins x) r := fun r hq => runs_tab hax hf (by rw [tds_len]; exact hl) (hw.mono hq)
 have hopen : ∀ e s, PostC { nt := fi.nt } { sl := argsK ins x, bl := [], nx := 0 } ⟨fun _ => 0, fun _ => false⟩ (fun e ks => cond (isRet e) (resK G { nt := fi.nt } ks fi.results fun ds => endK (getB { nt := fi.nt } ks) ok ds) none) out e s → ∃ ks' V' f' ds ds', (e = .normal ∨ e = .ret) ∧ Rel { nt := fi.nt } ks' V' f' s.h ∧ fi.results.mapM (resultD E s) = some ds' ∧ RDl (getB { nt := fi.nt } ks') V' ds ds' ∧ endK (getB { nt := fi.nt } ks') ok ds = some out := by
  intro e s hp
  obtain ⟨ks', V', f', h1, h2, h3, h4⟩ := hp
  obtain ⟨t, hh⟩ := s
  simp only at h1 h2
  subst h1
  dsimp only at h3
  cases he : isRet e with
  | false => rw [he] at h3; simp at h3
  | true =>
   rw [he] at h3
   obtain ⟨ds, ds', e1, e2, e3, e4⟩ := resK_ok hG h2 h3
   exact ⟨ks', V', f', ds, ds', isRet_of he, h2, e1, e2, e4⟩
 cases ok with
 | data fr ts =>
  have hdata : ∀ (ks' : KS) (V' : Vl) (ds : List KD) (ds' : List D) (hh : Heap) (f' : Nat → D), Rel { nt := fi.nt } ks' V' f' hh → RDl (getB { nt := fi.nt } ks') V' ds ds' → endK (getB { nt := fi.nt } ks') (.data fr ts) ds = some out → ∃ l, ds'.mapM (viewD hh) = some l ∧ l.map (·.2) = tdsOf ts out ∧ (fr = true → l.all (·.1) = true) ∧ ownRes hh ds' = false := by
   intro ks' V' ds ds' hh f' h2 e2 e4
   unfold endK at e4
   simp only at e4
   split at e4
   ·simp at e4
   ·rename_i hc
    obtain ⟨l, l1, l2, l3⟩ := viewDs_dec h2.bls e4 e2
    have hno : oneOwn ds = false := by cases ho : oneOwn ds with | true => simp [ho] at hc | false => rfl
    refine ⟨l, l1, l2, fun hfr => l3 ?_, ownRes_no e4 e2 hno⟩
    cases ha : ds.all frD with
    | true => rfl
    | false => simp [hfr, ha] at hc
  cases fr with
  | true =>
   refine hend _ fun e s hp => ?_
   obtain ⟨ks', V', f', ds, ds', he, h2, e1, e2, e4⟩ := hopen e s hp
   obtain ⟨l, l1, l2, l3, l4⟩ := hdata ks' V' ds ds' s.h f' h2 e2 e4
   have := end_data (E := E) he e1 l1 l4
   rw [l3 rfl, l2] at this
   exact this
  | false =>
   -- is it new? that is settled when it has run
   obtain ⟨e, s, hrun, hp⟩ := hw
   obtain ⟨ks', V', f', ds, ds', he, h2, e1, e2, e4⟩ := hopen e s hp
   obtain ⟨l, l1, l2, _, l4⟩ := hdata ks' V' ds ds' s.h f' h2 e2 e4
   have := end_data (E := E) he e1 l1 l4
   rw [l2] at this
   exact ⟨l.all (·.1), runs_tab hax hf (by rw [tds_len]; exact hl) ⟨e, s, hrun, this⟩⟩
 | own ty =>
  refine hend _ fun e s hp => ?_
  obtain ⟨ks', V', f', ds, ds', he, h2, e1, e2, e4⟩ := hopen e s hp
  unfold endK at e4
  simp only at e4
  unfold endOwn at e4
  split at e4
  ·rename_i e0 p
   split at e4
   ·rename_i e' ne l hB
    split at e4
    ·rename_i hpl
     rw [Option.map_eq_some_iff] at e4
     obtain ⟨l2, g0, rfl⟩ := e4
     obtain ⟨hty, g0⟩ := castV_some g0
     cases hty
     subst g0
     obtain ⟨y, s', e5, ⟨c', e6, e7⟩, e8⟩ := e2
     rw [show s' = [] from e8] at e5
     rw [e5, e6, e7 _ _ _ hB] at e1
     exact end_own he e1 (h2.bl p _ hB).2.2.1 hpl
    ·simp at e4
   ·simp at e4
  ·simp at e4
 | mown ty =>
  refine hend _ fun e s hp => ?_
  obtain ⟨ks', V', f', ds, ds', he, h2, e1, e2, e4⟩ := hopen e s hp
  have hnil : ∀ {ds'' : List D}, RDl (getB { nt := fi.nt } ks') V' [.one .nil] ds'' → fi.results.mapM (resultD E s) = some ds'' → endQ E fi.results (resM ty.size ty.row []) e s := by
   intro ds'' e2 e1
   obtain ⟨y, s', e5, ⟨c', e6, e7⟩, e8⟩ := e2
   rw [show s' = [] from e8] at e5
   rw [e5, e6, show c' = _ from e7] at e1
   exact end_data (E := E) (l := [(true, .one (.s false 0 []))]) he e1 rfl rfl
  unfold endK at e4
  simp only at e4
  unfold endMown at e4
  split at e4
  ·cases e4
   exact hnil e2 e1
  ·rename_i e0 p
   split at e4
   ·rename_i e' l hB
    split at e4
    ·rename_i hpl
     rw [Option.map_eq_some_iff] at e4
     obtain ⟨l2, g0, rfl⟩ := e4
     obtain ⟨hty, g0⟩ := castV_some g0
     cases hty
     subst g0
     obtain ⟨y, s', e5, ⟨c', e6, e7⟩, e8⟩ := e2
     rw [show s' = [] from e8] at e5
     rw [e5, e6, e7 _ _ hB] at e1
     cases l with
     | nil => exact end_data (E := E) (l := [(true, .one (.s false 0 []))]) he e1 rfl rfl
     | cons a l => exact end_own he e1 ((h2.bl p _ hB).2.2 (by simp)) hpl
    ·simp at e4
   ·simp at e4
  ·rename_i e0 p
   split at e4
   ·rename_i e' ne l hB
    split at e4
    ·rename_i hpl
     rw [Bool.and_eq_true] at hpl
     rw [Option.map_eq_some_iff] at e4
     obtain ⟨l2, g0, rfl⟩ := e4
     obtain ⟨hty, g0⟩ := castV_some g0
     cases hty
     subst g0
     obtain ⟨y, s', e5, ⟨c', e6, e7⟩, e8⟩ := e2
     rw [show s' = [] from e8] at e5
     rw [e5, e6, e7 _ _ _ hB] at e1
     obtain ⟨w1, w2, w3, w4⟩ := h2.bl p _ hB
     cases l with
     | nil => exact absurd rfl (w4 hpl.2)
     | cons a l => exact end_own he e1 w3 hpl.1
    ·simp at e4
   ·simp at e4
  ·simp at e4
 | gown ty =>
  refine hend _ fun e s hp => ?_
  obtain ⟨ks', V', f', ds, ds', he, h2, e1, e2, e4⟩ := hopen e s hp
  unfold endK at e4
  simp only at e4
  unfold endGown at e4
  split at e4
  ·cases e4
   obtain ⟨y, s', e5, ⟨c', e6, e7⟩, e8⟩ := e2
   rw [show s' = [] from e8] at e5
   rw [e5, e6, show c' = _ from e7] at e1
   exact end_data (E := E) (l := [(true, .one (.s false 0 []))]) he e1 rfl rfl
  ·rename_i e0 p
   split at e4
   ·rename_i e' l hB
    split at e4
    ·rename_i hpl
     rw [Option.map_eq_some_iff] at e4
     obtain ⟨l2, g0, rfl⟩ := e4
     obtain ⟨hty, g0⟩ := castV_some g0
     cases hty
     subst g0
     obtain ⟨y, s', e5, ⟨c', e6, e7⟩, e8⟩ := e2
     rw [show s' = [] from e8] at e5
     rw [e5, e6, e7 _ _ hB] at e1
     cases l with
     | nil => exact end_data (E := E) (l := [(true, .one (.s false 0 []))]) he e1 rfl rfl
     | cons a l => exact end_own he e1 ((h2.bl p _ hB).2.2 (by simp)) hpl
    ·simp at e4
   ·simp at e4
  ·rename_i e0 p
   split at e4
   ·rename_i e' ne l hB
    split at e4
    ·rename_i hpl
     rw [Option.map_eq_some_iff] at e4
     obtain ⟨l2, g0, rfl⟩ := e4
     obtain ⟨hty, g0⟩ := castV_some g0
     cases hty
     subst g0
     obtain ⟨y, s', e5, ⟨c', e6, e7⟩, e8⟩ := e2
     rw [show s' = [] from e8] at e5
     rw [e5, e6, e7 _ _ _ hB] at e1
     exact end_own he e1 (h2.bl p _ hB).2.2.1 hpl
    ·simp at e4
   ·simp at e4
  ·simp at e4
end
end K
end Ev
end Go.Proofs.Ytlkcneneagifoaa
end
section
namespace Go.Proofs.Ytlkcneneagifoaa
namespace Ev
namespace K
open Go Go.RowKit
set_option linter.unusedVariables false
set_option linter.unusedSimpArgs false
def AllE (E : Env) (D : Nat) : List Entry → Prop
 | [] => True
 | e :: r => (e.d ≤ D ∧ EntryOk E e) ∧ AllE E D r
def AllF (E : Env) : List (FuncId × FI) → Prop
 | [] => True
 | x :: r => (E.fn x.1 = some x.2 ∧ E.ax x.1 = some fun _ => none) ∧ AllF E r
def AllT (E : Env) : List (Nat × TI) → Prop
 | [] => True
 | x :: r => E.ti x.1 = some x.2 ∧ AllT E r
def AllQ (P : Program) : List (Nat × List IntKind) → Prop
 | [] => True
 | x :: r => EqOk P x.1 x.2 ∧ AllQ P r
theorem allE_mem {E : Env} {D : Nat} : ∀ {l : List Entry}, AllE E D l → ∀ e ∈ l, e.d ≤ D ∧ EntryOk E e
 | [], _, e, h => by simp at h
 | a :: l, ⟨h1, h2⟩, e, h => by
  rcases List.mem_cons.1 h with rfl | h
  ·exact h1
  ·exact allE_mem h2 e h
theorem allF_look {E : Env} : ∀ {l : List (FuncId × FI)}, AllF E l → ∀ k f, look l k = some f → E.fn k = some f ∧ E.ax k = some fun _ => none
 | [], _, k, f, h => by simp [look] at h
 | a :: l, ⟨h1, h2⟩, k, f, h => by
  rw [show a :: l = (a.1, a.2) :: l from rfl, look_cons] at h
  split at h
  ·rename_i hk; cases h; subst hk; exact h1
  ·exact allF_look h2 k f h
theorem allT_look {E : Env} : ∀ {l : List (Nat × TI)}, AllT E l → ∀ k f, look l k = some f → E.ti k = some f
 | [], _, k, f, h => by simp [look] at h
 | a :: l, ⟨h1, h2⟩, k, f, h => by
  rw [show a :: l = (a.1, a.2) :: l from rfl, look_cons] at h
  split at h
  ·rename_i hk; cases h; subst hk; exact h1
  ·exact allT_look h2 k f h
theorem allQ_look {P : Program} : ∀ {l : List (Nat × List IntKind)}, AllQ P l → ∀ k f, look l k = some f → EqOk P k f
 | [], _, k, f, h => by simp [look] at h
 | a :: l, ⟨h1, h2⟩, k, f, h => by
  rw [show a :: l = (a.1, a.2) :: l from rfl, look_cons] at h
  split at h
  ·rename_i hk; cases h; subst hk; exact h1
  ·exact allQ_look h2 k f h
theorem gok {E : Env} {D : Nat} {tt : List (Nat × TI)} {eqs : List (Nat × List IntKind)} {fns : List Entry} {fi : List (FuncId × FI)} (hE : E.Ok) (ht : AllT E tt) (hq : AllQ E.P eqs) (hf : AllE E D fns) (hi : AllF E fi) : GOk ⟨tt, eqs, fns, fi⟩ E D := ⟨hE, allT_look ht, allQ_look hq, allE_mem hf, allF_look hi⟩
noncomputable def mkE (G : KG) (A : AnnK) (fi : FI) (k : FuncId) (c : Nat) (ins : List TyD) (out : OutK) (d : Nat) : Entry := ⟨k, ins, out, funK G A fi k c ins out, d⟩
theorem mkE_ok {E : Env} {D : Nat} {G : KG} {A : AnnK} {fi : FI} {k : FuncId} {c : Nat} {ins : List TyD} {out : OutK} {d : Nat} (hG : GOk G E D) (hax : E.ax k = none) (hf : E.fn k = some fi) (hl : Nat.ble ins.length fi.nt = true) (hd : D + c + 1 = d) : EntryOk E (mkE G A fi k c ins out d) := fun m a o h => by
 subst hd
 exact funK_ok hG A hax hf (Nat.le_of_ble_eq_true hl) h m
def fiF (f : Func) : FI := ⟨f.ntmps, f.results.toList, f.body.getD .skip⟩
theorem fn_of {P : Program} {k : FuncId} {f : Func} {b : Code} (h : P.funcs[k]? = some f) (hb : f.body = some b) : fiOf P k = some (fiF f) := by
 unfold fiOf fiF
 rw [h]
 simp only [hb]
 rfl
theorem eqOk2 {P : Program} {ty : TypeId} {k0 k1 : IntKind} (h : ∀ (x y : Operand) (a0 b0 a1 b1 : Int), pureOf P (do eqGuard .eql ty x y (.agg #[.int k0 a0, .int k1 a1]) (.agg #[.int k0 b0, .int k1 b1]); binOp .eql ty (.agg #[.int k0 a0, .int k1 a1]) (.agg #[.int k0 b0, .int k1 b1])) = some (.bool (a0 == b0 && (a1 == b1 && true))))
  (h' : ∀ (x y : Operand) (a0 b0 a1 b1 : Int), pureOf P (do eqGuard .neq ty x y (.agg #[.int k0 a0, .int k1 a1]) (.agg #[.int k0 b0, .int k1 b1]); binOp .neq ty (.agg #[.int k0 a0, .int k1 a1]) (.agg #[.int k0 b0, .int k1 b1])) = some (.bool (!(a0 == b0 && (a1 == b1 && true))))) : EqOk P ty [k0, k1] := fun x y l hl => by
 match l, hl with
 | [(a0, b0), (a1, b1)], _ =>
  have e : (a0 == b0 && (a1 == b1 && true)) = @decide (eqP [(a0, b0), (a1, b1)]) (eqD [(a0, b0), (a1, b1)]) := dec_iff (by simp [eqP])
  exact ⟨(h x y a0 b0 a1 b1).trans (by rw [e]), (h' x y a0 b0 a1 b1).trans (by rw [e])⟩
theorem eqOk3 {P : Program} {ty : TypeId} {k0 k1 k2 : IntKind} (h : ∀ (x y : Operand) (a0 b0 a1 b1 a2 b2 : Int), pureOf P (do eqGuard .eql ty x y (.agg #[.int k0 a0, .int k1 a1, .int k2 a2]) (.agg #[.int k0 b0, .int k1 b1, .int k2 b2]); binOp .eql ty (.agg #[.int k0 a0, .int k1 a1, .int k2 a2]) (.agg #[.int k0 b0, .int k1 b1, .int k2 b2])) = some (.bool (a0 == b0 && (a1 == b1 && (a2 == b2 && true)))))
  (h' : ∀ (x y : Operand) (a0 b0 a1 b1 a2 b2 : Int), pureOf P (do eqGuard .neq ty x y (.agg #[.int k0 a0, .int k1 a1, .int k2 a2]) (.agg #[.int k0 b0, .int k1 b1, .int k2 b2]); binOp .neq ty (.agg #[.int k0 a0, .int k1 a1, .int k2 a2]) (.agg #[.int k0 b0, .int k1 b1, .int k2 b2])) = some (.bool (!(a0 == b0 && (a1 == b1 && (a2 == b2 && true)))))) : EqOk P ty [k0, k1, k2] := fun x y l hl => by
 match l, hl with
 | [(a0, b0), (a1, b1), (a2, b2)], _ =>
  have e : (a0 == b0 && (a1 == b1 && (a2 == b2 && true))) = @decide (eqP [(a0, b0), (a1, b1), (a2, b2)]) (eqD [(a0, b0), (a1, b1), (a2, b2)]) := dec_iff (by simp [eqP])
  exact ⟨(h x y a0 b0 a1 b1 a2 b2).trans (by rw [e]), (h' x y a0 b0 a1 b1 a2 b2).trans (by rw [e])⟩
end K
@[reducible] def nE {R : Type} (v : Empty) : Option R := K.afterX.match_1 (fun _ => Option R) v
end Ev
end Go.Proofs.Ytlkcneneagifoaa
end
section
namespace Go.Proofs.Ytlkcneneagifoaa
namespace Ev
namespace K
open Go Go.RowKit
set_option linter.unusedVariables false
set_option linter.unusedSimpArgs false
set_option maxRecDepth 100000
set_option maxHeartbeats 1000000
noncomputable def i1 : TI := (⟨.func #[] #[] false, [.nilFunc], 1, 8⟩ : TI)
noncomputable def i4 : TI := (⟨.bool, [.bool false], 1, 1⟩ : TI)
noncomputable def i7 : TI := (⟨.struct (flds Try.prog 7), [.int .i64 0, .int .i64 0, .bool false, .int .u8 0], 4, 24⟩ : TI)
noncomputable def i8 : TI := (⟨.struct (flds Try.prog 8), [.int .i64 0, .int .i64 0, .bool false, .int .u8 0], 4, 24⟩ : TI)
noncomputable def i15 : TI := (⟨.pointer 168, [.pointer none], 1, 8⟩ : TI)
noncomputable def i16 : TI := (⟨.pointer 171, [.pointer none], 1, 8⟩ : TI)
noncomputable def i17 : TI := (⟨.pointer 180, [.pointer none], 1, 8⟩ : TI)
noncomputable def i18 : TI := (⟨.struct (flds Try.prog 18), [.pointer none], 1, 8⟩ : TI)
noncomputable def i19 : TI := (⟨.struct (flds Try.prog 19), [.pointer none], 1, 8⟩ : TI)
noncomputable def i23 : TI := (⟨.array 2 3, [.int .i64 0, .int .i64 0], 2, 16⟩ : TI)
noncomputable def i24 : TI := (⟨.slice 60, [.slice none 0 0], 1, 24⟩ : TI)
noncomputable def i25 : TI := (⟨.func #[24] #[24] false, [.nilFunc], 1, 8⟩ : TI)
noncomputable def i26 : TI := (⟨.slice 3, [.slice none 0 0], 1, 24⟩ : TI)
noncomputable def i27 : TI := (⟨.slice 2, [.slice none 0 0], 1, 24⟩ : TI)
noncomputable def i28 : TI := (⟨.struct (flds Try.prog 28), [.int .i64 0, .int .i64 0, .slice none 0 0, .slice none 0 0, .slice none 0 0], 5, 88⟩ : TI)
noncomputable def i29 : TI := (⟨.struct (flds Try.prog 29), [.int .i64 0, .int .i64 0, .slice none 0 0, .slice none 0 0, .slice none 0 0], 5, 88⟩ : TI)
noncomputable def i32 : TI := (⟨.func #[22, 3, 3, 24] #[29, 30] false, [.nilFunc], 1, 8⟩ : TI)
noncomputable def i33 : TI := (⟨.func #[] #[4] false, [.nilFunc], 1, 8⟩ : TI)
noncomputable def i34 : TI := (⟨.func #[29, 29] #[4] false, [.nilFunc], 1, 8⟩ : TI)
noncomputable def i35 : TI := (⟨.func #[22, 23, 24] #[4] false, [.nilFunc], 1, 8⟩ : TI)
noncomputable def i37 : TI := (⟨.func #[29, 3, 3] #[2, 4] false, [.nilFunc], 1, 8⟩ : TI)
noncomputable def i38 : TI := (⟨.func #[29] #[4] false, [.nilFunc], 1, 8⟩ : TI)
noncomputable def i39 : TI := (⟨.func #[29] #[3] false, [.nilFunc], 1, 8⟩ : TI)
noncomputable def i40 : TI := (⟨.func #[41, 41] #[4] false, [.nilFunc], 1, 8⟩ : TI)
noncomputable def i41 : TI := (⟨.slice 94, [.slice none 0 0], 1, 24⟩ : TI)
noncomputable def i42 : TI := (⟨.func #[29, 3] #[41] false, [.nilFunc], 1, 8⟩ : TI)
noncomputable def i43 : TI := (⟨.func #[24, 24] #[4] false, [.nilFunc], 1, 8⟩ : TI)
noncomputable def i44 : TI := (⟨.func #[29] #[24] false, [.nilFunc], 1, 8⟩ : TI)
noncomputable def i45 : TI := (⟨.func #[29] #[29] false, [.nilFunc], 1, 8⟩ : TI)
noncomputable def i46 : TI := (⟨.func #[29, 23, 23] #[29] false, [.nilFunc], 1, 8⟩ : TI)
noncomputable def i47 : TI := (⟨.func #[29, 23, 23] #[4] false, [.nilFunc], 1, 8⟩ : TI)
noncomputable def i48 : TI := (⟨.slice 55, [.slice none 0 0], 1, 24⟩ : TI)
noncomputable def i49 : TI := (⟨.struct (flds Try.prog 49), [.int .i64 0, .slice none 0 0], 2, 32⟩ : TI)
noncomputable def i50 : TI := (⟨.struct (flds Try.prog 50), [.int .i64 0, .slice none 0 0], 2, 32⟩ : TI)
noncomputable def i51 : TI := (⟨.func #[50] #[29, 30] false, [.nilFunc], 1, 8⟩ : TI)
noncomputable def i52 : TI := (⟨.func #[50] #[30] false, [.nilFunc], 1, 8⟩ : TI)
noncomputable def i53 : TI := (⟨.func #[50] #[50] false, [.nilFunc], 1, 8⟩ : TI)
noncomputable def i54 : TI := (⟨.struct (flds Try.prog 54), [.int .i64 0, .int .i64 0, .int .i64 0], 3, 24⟩ : TI)
noncomputable def i55 : TI := (⟨.struct (flds Try.prog 55), [.int .i64 0, .int .i64 0, .int .i64 0], 3, 24⟩ : TI)
noncomputable def i56 : TI := (⟨.func #[50] #[4] false, [.nilFunc], 1, 8⟩ : TI)
noncomputable def i57 : TI := (⟨.array 2 5, [.int .u8 0, .int .u8 0], 2, 2⟩ : TI)
noncomputable def i58 : TI := (⟨.func #[57, 24] #[29] false, [.nilFunc], 1, 8⟩ : TI)
noncomputable def i59 : TI := (⟨.struct (flds Try.prog 59), [.int .i64 0, .int .i64 0, .int .i64 0], 3, 24⟩ : TI)
noncomputable def i60 : TI := (⟨.struct (flds Try.prog 60), [.int .i64 0, .int .i64 0, .int .i64 0], 3, 24⟩ : TI)
noncomputable def i61 : TI := (⟨.func #[22] #[4] false, [.nilFunc], 1, 8⟩ : TI)
noncomputable def i62 : TI := (⟨.func #[57, 24, 22] #[4] false, [.nilFunc], 1, 8⟩ : TI)
noncomputable def i63 : TI := (⟨.func #[5] #[3] false, [.nilFunc], 1, 8⟩ : TI)
noncomputable def i64 : TI := (⟨.func #[57, 24, 57] #[4] false, [.nilFunc], 1, 8⟩ : TI)
noncomputable def i65 : TI := (⟨.array 4 5, [.int .u8 0, .int .u8 0, .int .u8 0, .int .u8 0], 4, 4⟩ : TI)
noncomputable def i66 : TI := (⟨.func #[57, 24, 65] #[4] false, [.nilFunc], 1, 8⟩ : TI)
noncomputable def i67 : TI := (⟨.struct (flds Try.prog 67), [.int .i64 0, .int .i64 0, .slice none 0 0, .slice none 0 0, .slice none 0 0, .slice none 0 0], 6, 112⟩ : TI)
noncomputable def i68 : TI := (⟨.struct (flds Try.prog 68), [.int .i64 0, .int .i64 0, .slice none 0 0, .slice none 0 0, .slice none 0 0, .slice none 0 0], 6, 112⟩ : TI)
noncomputable def i69 : TI := (⟨.func #[68, 3] #[41] false, [.nilFunc], 1, 8⟩ : TI)
noncomputable def i70 : TI := (⟨.func #[68, 68] #[4] false, [.nilFunc], 1, 8⟩ : TI)
noncomputable def i71 : TI := (⟨.func #[29] #[68] false, [.nilFunc], 1, 8⟩ : TI)
noncomputable def i72 : TI := (⟨.func #[68] #[4] false, [.nilFunc], 1, 8⟩ : TI)
noncomputable def i73 : TI := (⟨.func #[68] #[29] false, [.nilFunc], 1, 8⟩ : TI)
noncomputable def i74 : TI := (⟨.func #[68] #[3] false, [.nilFunc], 1, 8⟩ : TI)
noncomputable def i75 : TI := (⟨.func #[68] #[68] false, [.nilFunc], 1, 8⟩ : TI)
noncomputable def i76 : TI := (⟨.func #[68, 26] #[3] false, [.nilFunc], 1, 8⟩ : TI)
noncomputable def i77 : TI := (⟨.func #[29, 68, 26] #[4] false, [.nilFunc], 1, 8⟩ : TI)
noncomputable def i78 : TI := (⟨.func #[57, 24] #[4] false, [.nilFunc], 1, 8⟩ : TI)
noncomputable def i79 : TI := (⟨.func #[57, 24, 5] #[4] false, [.nilFunc], 1, 8⟩ : TI)
noncomputable def i80 : TI := (⟨.func #[50] #[26] false, [.nilFunc], 1, 8⟩ : TI)
noncomputable def i81 : TI := (⟨.func #[3] #[4] false, [.nilFunc], 1, 8⟩ : TI)
noncomputable def i83 : TI := (⟨.func #[22, 24] #[24, 30] false, [.nilFunc], 1, 8⟩ : TI)
noncomputable def i84 : TI := (⟨.func #[3, 3, 24] #[29] false, [.nilFunc], 1, 8⟩ : TI)
noncomputable def i86 : TI := (⟨.func #[22, 48] #[48, 30] false, [.nilFunc], 1, 8⟩ : TI)
noncomputable def i87 : TI := (⟨.func #[26, 26] #[4] false, [.nilFunc], 1, 8⟩ : TI)
noncomputable def i88 : TI := (⟨.func #[27, 27] #[4] false, [.nilFunc], 1, 8⟩ : TI)
noncomputable def i90 : TI := (⟨.func #[29, 3] #[26, 27] false, [.nilFunc], 1, 8⟩ : TI)
noncomputable def i92 : TI := (⟨.func #[26, 3] #[3, 4] false, [.nilFunc], 1, 8⟩ : TI)
noncomputable def i93 : TI := (⟨.struct (flds Try.prog 93), [.int .i64 0, .int .i64 0], 2, 16⟩ : TI)
noncomputable def i94 : TI := (⟨.struct (flds Try.prog 94), [.int .i64 0, .int .i64 0], 2, 16⟩ : TI)
noncomputable def i95 : TI := (⟨.func #[26, 3] #[4] false, [.nilFunc], 1, 8⟩ : TI)
noncomputable def i96 : TI := (⟨.func #[26] #[] false, [.nilFunc], 1, 8⟩ : TI)
noncomputable def i97 : TI := (⟨.func #[26] #[26] false, [.nilFunc], 1, 8⟩ : TI)
noncomputable def i98 : TI := (⟨.func #[23, 3] #[23] false, [.nilFunc], 1, 8⟩ : TI)
noncomputable def i99 : TI := (⟨.func #[3, 3] #[29] false, [.nilFunc], 1, 8⟩ : TI)
noncomputable def i101 : TI := (⟨.func #[68, 3] #[3, 3] false, [.nilFunc], 1, 8⟩ : TI)
noncomputable def i104 : TI := (⟨.func #[26] #[103] false, [.nilFunc], 1, 8⟩ : TI)
noncomputable def i105 : TI := (⟨.func #[3, 3] #[3] false, [.nilFunc], 1, 8⟩ : TI)
noncomputable def i106 : TI := (⟨.func #[50, 107, 108] #[50] false, [.nilFunc], 1, 8⟩ : TI)
noncomputable def i107 : TI := (⟨.func #[55] #[4] false, [.nilFunc], 1, 8⟩ : TI)
noncomputable def i108 : TI := (⟨.func #[55] #[55] false, [.nilFunc], 1, 8⟩ : TI)
noncomputable def i109 : TI := (⟨.func #[50, 110] #[26] false, [.nilFunc], 1, 8⟩ : TI)
noncomputable def i110 : TI := (⟨.func #[55] #[3] false, [.nilFunc], 1, 8⟩ : TI)
noncomputable def i111 : TI := (⟨.func #[24] #[4] false, [.nilFunc], 1, 8⟩ : TI)
noncomputable def i114 : TI := (⟨.struct (flds Try.prog 114), [.int .i64 0, .int .u64 0], 2, 16⟩ : TI)
noncomputable def i115 : TI := (⟨.struct (flds Try.prog 115), [.int .i64 0, .int .u64 0], 2, 16⟩ : TI)
noncomputable def i117 : TI := (⟨.func #[22, 115, 115] #[115] false, [.nilFunc], 1, 8⟩ : TI)
noncomputable def i118 : TI := (⟨.func #[2] #[115] false, [.nilFunc], 1, 8⟩ : TI)
noncomputable def i119 : TI := (⟨.func #[22, 115] #[2, 4] false, [.nilFunc], 1, 8⟩ : TI)
noncomputable def i120 : TI := (⟨.func #[24, 121] #[] false, [.nilFunc], 1, 8⟩ : TI)
noncomputable def i121 : TI := (⟨.func #[60, 60] #[3] false, [.nilFunc], 1, 8⟩ : TI)
noncomputable def i122 : TI := (⟨.slice 115, [.slice none 0 0], 1, 24⟩ : TI)
noncomputable def i123 : TI := (⟨.func #[55, 55] #[4] false, [.nilFunc], 1, 8⟩ : TI)
noncomputable def i124 : TI := (⟨.func #[115] #[2, 4] false, [.nilFunc], 1, 8⟩ : TI)
noncomputable def i126 : TI := (⟨.func #[3, 3] #[4] false, [.nilFunc], 1, 8⟩ : TI)
noncomputable def i127 : TI := (⟨.func #[48, 107] #[4] false, [.nilFunc], 1, 8⟩ : TI)
noncomputable def i128 : TI := (⟨.func #[48] #[4] false, [.nilFunc], 1, 8⟩ : TI)
noncomputable def i129 : TI := (⟨.func #[48] #[48] false, [.nilFunc], 1, 8⟩ : TI)
noncomputable def i130 : TI := (⟨.func #[48, 131] #[] false, [.nilFunc], 1, 8⟩ : TI)
noncomputable def i131 : TI := (⟨.func #[55, 55] #[3] false, [.nilFunc], 1, 8⟩ : TI)
noncomputable def i132 : TI := (⟨.func #[115, 115] #[115] false, [.nilFunc], 1, 8⟩ : TI)
noncomputable def i133 : TI := (⟨.func #[4] #[115] false, [.nilFunc], 1, 8⟩ : TI)
noncomputable def i134 : TI := (⟨.func #[24, 3, 3, 3, 121] #[] false, [.nilFunc], 1, 8⟩ : TI)
noncomputable def i135 : TI := (⟨.func #[125] #[3] false, [.nilFunc], 1, 8⟩ : TI)
noncomputable def i136 : TI := (⟨.func #[26] #[3] true, [.nilFunc], 1, 8⟩ : TI)
noncomputable def i137 : TI := (⟨.func #[115, 115] #[3] false, [.nilFunc], 1, 8⟩ : TI)
noncomputable def i138 : TI := (⟨.func #[48, 107] #[3] false, [.nilFunc], 1, 8⟩ : TI)
noncomputable def i139 : TI := (⟨.func #[48, 3, 3, 3, 131] #[] false, [.nilFunc], 1, 8⟩ : TI)
noncomputable def i140 : TI := (⟨.func #[24, 3, 3, 121] #[] false, [.nilFunc], 1, 8⟩ : TI)
noncomputable def i143 : TI := (⟨.func #[24, 3, 3, 121] #[3, 141] false, [.nilFunc], 1, 8⟩ : TI)
noncomputable def i144 : TI := (⟨.func #[24, 3, 3, 121] #[4] false, [.nilFunc], 1, 8⟩ : TI)
noncomputable def i145 : TI := (⟨.func #[24, 3, 3, 3, 121] #[3] false, [.nilFunc], 1, 8⟩ : TI)
noncomputable def i146 : TI := (⟨.func #[24, 3, 3, 3, 121] #[3, 4] false, [.nilFunc], 1, 8⟩ : TI)
noncomputable def i147 : TI := (⟨.func #[148] #[3] false, [.nilFunc], 1, 8⟩ : TI)
noncomputable def i148 : TI := (⟨.int .u32, [.int .u32 0], 1, 4⟩ : TI)
noncomputable def i149 : TI := (⟨.func #[113] #[3] false, [.nilFunc], 1, 8⟩ : TI)
noncomputable def i150 : TI := (⟨.func #[48, 3, 3, 131] #[] false, [.nilFunc], 1, 8⟩ : TI)
noncomputable def i151 : TI := (⟨.func #[48, 3, 3, 131] #[3, 141] false, [.nilFunc], 1, 8⟩ : TI)
noncomputable def i152 : TI := (⟨.func #[48, 3, 3, 131] #[4] false, [.nilFunc], 1, 8⟩ : TI)
noncomputable def i153 : TI := (⟨.func #[48, 3, 3, 3, 131] #[3] false, [.nilFunc], 1, 8⟩ : TI)
noncomputable def i154 : TI := (⟨.func #[48, 3, 3, 3, 131] #[3, 4] false, [.nilFunc], 1, 8⟩ : TI)
noncomputable def i156 : TI := (⟨.func #[3] #[125] false, [.nilFunc], 1, 8⟩ : TI)
noncomputable def i157 : TI := (⟨.func #[] #[113] false, [.nilFunc], 1, 8⟩ : TI)
noncomputable def i158 : TI := (⟨.func #[24, 3, 159, 121] #[3] false, [.nilFunc], 1, 8⟩ : TI)
noncomputable def i159 : TI := (⟨.pointer 3, [.pointer none], 1, 8⟩ : TI)
noncomputable def i160 : TI := (⟨.func #[24, 3, 3, 3, 159, 121] #[3] false, [.nilFunc], 1, 8⟩ : TI)
noncomputable def i161 : TI := (⟨.func #[48, 3, 159, 131] #[3] false, [.nilFunc], 1, 8⟩ : TI)
noncomputable def i162 : TI := (⟨.func #[48, 3, 3, 3, 159, 131] #[3] false, [.nilFunc], 1, 8⟩ : TI)
noncomputable def i163 : TI := (⟨.pointer 155, [.pointer none], 1, 8⟩ : TI)
noncomputable def i164 : TI := (⟨.func #[24, 3, 3, 159, 121] #[3, 3] false, [.nilFunc], 1, 8⟩ : TI)
noncomputable def i165 : TI := (⟨.func #[48, 3, 3, 159, 131] #[3, 3] false, [.nilFunc], 1, 8⟩ : TI)
noncomputable def i166 : TI := (⟨.func #[] #[9] false, [.nilFunc], 1, 8⟩ : TI)
noncomputable def i169 : TI := (⟨.array 0 16, [], 0, 0⟩ : TI)
noncomputable def i170 : TI := (⟨.struct (flds Try.prog 170), [], 0, 0⟩ : TI)
noncomputable def i171 : TI := (⟨.struct (flds Try.prog 171), [], 0, 0⟩ : TI)
noncomputable def i172 : TI := (⟨.func #[] #[3] false, [.nilFunc], 1, 8⟩ : TI)
noncomputable def i175 : TI := (⟨.func #[181, 181] #[4] false, [.nilFunc], 1, 8⟩ : TI)
noncomputable def i176 : TI := (⟨.pointer 5, [.pointer none], 1, 8⟩ : TI)
noncomputable def i179 : TI := (⟨.struct (flds Try.prog 179), [.int .u64 0, .int .u64 0, .int .u32 0, .int .u8 0, .int .u8 0, .int .u8 0, .int .u8 0, .nilFunc, .pointer none, .int .i32 0, .int .i32 0], 11, 48⟩ : TI)
noncomputable def i180 : TI := (⟨.struct (flds Try.prog 180), [.int .u64 0, .int .u64 0, .int .u32 0, .int .u8 0, .int .u8 0, .int .u8 0, .int .u8 0, .nilFunc, .pointer none, .int .i32 0, .int .i32 0], 11, 48⟩ : TI)
noncomputable def TT : List (Nat × TI) := [(1, i1),
 (2, (⟨.int .i64, [.int .i64 0], 1, 8⟩ : TI)),
 (3, (⟨.int .i64, [.int .i64 0], 1, 8⟩ : TI)),
 (4, i4),
 (5, (⟨.int .u8, [.int .u8 0], 1, 1⟩ : TI)),
 (6, (⟨.int .u8, [.int .u8 0], 1, 1⟩ : TI)),
 (7, i7),
 (8, i8),
 (12, (⟨.int .u64, [.int .u64 0], 1, 8⟩ : TI)),
 (15, i15),
 (16, i16),
 (17, i17),
 (18, i18),
 (19, i19),
 (21, (⟨.int .i32, [.int .i32 0], 1, 4⟩ : TI)),
 (22, (⟨.int .i64, [.int .i64 0], 1, 8⟩ : TI)),
 (23, i23),
 (24, i24),
 (25, i25),
 (26, i26),
 (27, i27),
 (28, i28),
 (29, i29),
 (30, (⟨.int .i64, [.int .i64 0], 1, 8⟩ : TI)),
 (32, i32),
 (33, i33),
 (34, i34),
 (35, i35),
 (37, i37),
 (38, i38),
 (39, i39),
 (40, i40),
 (41, i41),
 (42, i42),
 (43, i43),
 (44, i44),
 (45, i45),
 (46, i46),
 (47, i47),
 (48, i48),
 (49, i49),
 (50, i50),
 (51, i51),
 (52, i52),
 (53, i53),
 (54, i54),
 (55, i55),
 (56, i56),
 (57, i57),
 (58, i58),
 (59, i59),
 (60, i60),
 (61, i61),
 (62, i62),
 (63, i63),
 (64, i64),
 (65, i65),
 (66, i66),
 (67, i67),
 (68, i68),
 (69, i69),
 (70, i70),
 (71, i71),
 (72, i72),
 (73, i73),
 (74, i74),
 (75, i75),
 (76, i76),
 (77, i77),
 (78, i78),
 (79, i79),
 (80, i80),
 (81, i81),
 (83, i83),
 (84, i84),
 (86, i86),
 (87, i87),
 (88, i88),
 (90, i90),
 (92, i92),
 (93, i93),
 (94, i94),
 (95, i95),
 (96, i96),
 (97, i97),
 (98, i98),
 (99, i99),
 (101, i101),
 (102, (⟨.func #[126] #[] false, [.nilFunc], 1, 8⟩ : TI)),
 (103, (⟨.func #[126] #[] false, [.nilFunc], 1, 8⟩ : TI)),
 (104, i104),
 (105, i105),
 (106, i106),
 (107, i107),
 (108, i108),
 (109, i109),
 (110, i110),
 (111, i111),
 (113, (⟨.int .u64, [.int .u64 0], 1, 8⟩ : TI)),
 (114, i114),
 (115, i115),
 (117, i117),
 (118, i118),
 (119, i119),
 (120, i120),
 (121, i121),
 (122, i122),
 (123, i123),
 (124, i124),
 (125, (⟨.int .u64, [.int .u64 0], 1, 8⟩ : TI)),
 (126, i126),
 (127, i127),
 (128, i128),
 (129, i129),
 (130, i130),
 (131, i131),
 (132, i132),
 (133, i133),
 (134, i134),
 (135, i135),
 (136, i136),
 (137, i137),
 (138, i138),
 (139, i139),
 (140, i140),
 (141, (⟨.int .i64, [.int .i64 0], 1, 8⟩ : TI)),
 (143, i143),
 (144, i144),
 (145, i145),
 (146, i146),
 (147, i147),
 (148, i148),
 (149, i149),
 (150, i150),
 (151, i151),
 (152, i152),
 (153, i153),
 (154, i154),
 (155, (⟨.int .u64, [.int .u64 0], 1, 8⟩ : TI)),
 (156, i156),
 (157, i157),
 (158, i158),
 (159, i159),
 (160, i160),
 (161, i161),
 (162, i162),
 (163, i163),
 (164, i164),
 (165, i165),
 (166, i166),
 (169, i169),
 (170, i170),
 (171, i171),
 (172, i172),
 (173, (⟨.int .u8, [.int .u8 0], 1, 1⟩ : TI)),
 (174, (⟨.int .u8, [.int .u8 0], 1, 1⟩ : TI)),
 (175, i175),
 (176, i176),
 (177, (⟨.int .i32, [.int .i32 0], 1, 4⟩ : TI)),
 (178, (⟨.int .i32, [.int .i32 0], 1, 4⟩ : TI)),
 (179, i179),
 (180, i180)]
theorem tz1 : tiOf Try.prog 1 = some i1 := by kernel_rfl
theorem tz2 : tiOf Try.prog 2 = some (⟨.int .i64, [.int .i64 0], 1, 8⟩ : TI) := by kernel_rfl
theorem tz3 : tiOf Try.prog 3 = some (⟨.int .i64, [.int .i64 0], 1, 8⟩ : TI) := by kernel_rfl
theorem tz4 : tiOf Try.prog 4 = some i4 := by kernel_rfl
theorem tz5 : tiOf Try.prog 5 = some (⟨.int .u8, [.int .u8 0], 1, 1⟩ : TI) := by kernel_rfl
theorem tz6 : tiOf Try.prog 6 = some (⟨.int .u8, [.int .u8 0], 1, 1⟩ : TI) := by kernel_rfl
theorem tz7 : tiOf Try.prog 7 = some i7 := by kernel_rfl
theorem tz8 : tiOf Try.prog 8 = some i8 := by kernel_rfl
theorem tz12 : tiOf Try.prog 12 = some (⟨.int .u64, [.int .u64 0], 1, 8⟩ : TI) := by kernel_rfl
theorem tz15 : tiOf Try.prog 15 = some i15 := by kernel_rfl
theorem tz16 : tiOf Try.prog 16 = some i16 := by kernel_rfl
theorem tz17 : tiOf Try.prog 17 = some i17 := by kernel_rfl
theorem tz18 : tiOf Try.prog 18 = some i18 := by kernel_rfl
theorem tz19 : tiOf Try.prog 19 = some i19 := by kernel_rfl
theorem tz21 : tiOf Try.prog 21 = some (⟨.int .i32, [.int .i32 0], 1, 4⟩ : TI) := by kernel_rfl
theorem tz22 : tiOf Try.prog 22 = some (⟨.int .i64, [.int .i64 0], 1, 8⟩ : TI) := by kernel_rfl
theorem tz23 : tiOf Try.prog 23 = some i23 := by kernel_rfl
theorem tz24 : tiOf Try.prog 24 = some i24 := by kernel_rfl
theorem tz25 : tiOf Try.prog 25 = some i25 := by kernel_rfl
theorem tz26 : tiOf Try.prog 26 = some i26 := by kernel_rfl
theorem tz27 : tiOf Try.prog 27 = some i27 := by kernel_rfl
theorem tz28 : tiOf Try.prog 28 = some i28 := by kernel_rfl
theorem tz29 : tiOf Try.prog 29 = some i29 := by kernel_rfl
theorem tz30 : tiOf Try.prog 30 = some (⟨.int .i64, [.int .i64 0], 1, 8⟩ : TI) := by kernel_rfl
theorem tz32 : tiOf Try.prog 32 = some i32 := by kernel_rfl
theorem tz33 : tiOf Try.prog 33 = some i33 := by kernel_rfl
theorem tz34 : tiOf Try.prog 34 = some i34 := by kernel_rfl
theorem tz35 : tiOf Try.prog 35 = some i35 := by kernel_rfl
theorem tz37 : tiOf Try.prog 37 = some i37 := by kernel_rfl
theorem tz38 : tiOf Try.prog 38 = some i38 := by kernel_rfl
theorem tz39 : tiOf Try.prog 39 = some i39 := by kernel_rfl
theorem tz40 : tiOf Try.prog 40 = some i40 := by kernel_rfl
theorem tz41 : tiOf Try.prog 41 = some i41 := by kernel_rfl
theorem tz42 : tiOf Try.prog 42 = some i42 := by kernel_rfl
theorem tz43 : tiOf Try.prog 43 = some i43 := by kernel_rfl
theorem tz44 : tiOf Try.prog 44 = some i44 := by kernel_rfl
theorem tz45 : tiOf Try.prog 45 = some i45 := by kernel_rfl
theorem tz46 : tiOf Try.prog 46 = some i46 := by kernel_rfl
theorem tz47 : tiOf Try.prog 47 = some i47 := by kernel_rfl
theorem tz48 : tiOf Try.prog 48 = some i48 := by kernel_rfl
theorem tz49 : tiOf Try.prog 49 = some i49 := by kernel_rfl
theorem tz50 : tiOf Try.prog 50 = some i50 := by kernel_rfl
theorem tz51 : tiOf Try.prog 51 = some i51 := by kernel_rfl
theorem tz52 : tiOf Try.prog 52 = some i52 := by kernel_rfl
theorem tz53 : tiOf Try.prog 53 = some i53 := by kernel_rfl
theorem tz54 : tiOf Try.prog 54 = some i54 := by kernel_rfl
theorem tz55 : tiOf Try.prog 55 = some i55 := by kernel_rfl
theorem tz56 : tiOf Try.prog 56 = some i56 := by kernel_rfl
theorem tz57 : tiOf Try.prog 57 = some i57 := by kernel_rfl
theorem tz58 : tiOf Try.prog 58 = some i58 := by kernel_rfl
theorem tz59 : tiOf Try.prog 59 = some i59 := by kernel_rfl
theorem tz60 : tiOf Try.prog 60 = some i60 := by kernel_rfl
theorem tz61 : tiOf Try.prog 61 = some i61 := by kernel_rfl
theorem tz62 : tiOf Try.prog 62 = some i62 := by kernel_rfl
theorem tz63 : tiOf Try.prog 63 = some i63 := by kernel_rfl
theorem tz64 : tiOf Try.prog 64 = some i64 := by kernel_rfl
theorem tz65 : tiOf Try.prog 65 = some i65 := by kernel_rfl
theorem tz66 : tiOf Try.prog 66 = some i66 := by kernel_rfl
theorem tz67 : tiOf Try.prog 67 = some i67 := by kernel_rfl
theorem tz68 : tiOf Try.prog 68 = some i68 := by kernel_rfl
theorem tz69 : tiOf Try.prog 69 = some i69 := by kernel_rfl
theorem tz70 : tiOf Try.prog 70 = some i70 := by kernel_rfl
theorem tz71 : tiOf Try.prog 71 = some i71 := by kernel_rfl
theorem tz72 : tiOf Try.prog 72 = some i72 := by kernel_rfl
theorem tz73 : tiOf Try.prog 73 = some i73 := by kernel_rfl
theorem tz74 : tiOf Try.prog 74 = some i74 := by kernel_rfl
theorem tz75 : tiOf Try.prog 75 = some i75 := by kernel_rfl
theorem tz76 : tiOf Try.prog 76 = some i76 := by kernel_rfl
theorem tz77 : tiOf Try.prog 77 = some i77 := by kernel_rfl
theorem tz78 : tiOf Try.prog 78 = some i78 := by kernel_rfl
theorem tz79 : tiOf Try.prog 79 = some i79 := by kernel_rfl
theorem tz80 : tiOf Try.prog 80 = some i80 := by kernel_rfl
theorem tz81 : tiOf Try.prog 81 = some i81 := by kernel_rfl
theorem tz83 : tiOf Try.prog 83 = some i83 := by kernel_rfl
theorem tz84 : tiOf Try.prog 84 = some i84 := by kernel_rfl
theorem tz86 : tiOf Try.prog 86 = some i86 := by kernel_rfl
theorem tz87 : tiOf Try.prog 87 = some i87 := by kernel_rfl
theorem tz88 : tiOf Try.prog 88 = some i88 := by kernel_rfl
theorem tz90 : tiOf Try.prog 90 = some i90 := by kernel_rfl
theorem tz92 : tiOf Try.prog 92 = some i92 := by kernel_rfl
theorem tz93 : tiOf Try.prog 93 = some i93 := by kernel_rfl
theorem tz94 : tiOf Try.prog 94 = some i94 := by kernel_rfl
theorem tz95 : tiOf Try.prog 95 = some i95 := by kernel_rfl
theorem tz96 : tiOf Try.prog 96 = some i96 := by kernel_rfl
theorem tz97 : tiOf Try.prog 97 = some i97 := by kernel_rfl
theorem tz98 : tiOf Try.prog 98 = some i98 := by kernel_rfl
theorem tz99 : tiOf Try.prog 99 = some i99 := by kernel_rfl
theorem tz101 : tiOf Try.prog 101 = some i101 := by kernel_rfl
theorem tz102 : tiOf Try.prog 102 = some (⟨.func #[126] #[] false, [.nilFunc], 1, 8⟩ : TI) := by kernel_rfl
theorem tz103 : tiOf Try.prog 103 = some (⟨.func #[126] #[] false, [.nilFunc], 1, 8⟩ : TI) := by kernel_rfl
theorem tz104 : tiOf Try.prog 104 = some i104 := by kernel_rfl
theorem tz105 : tiOf Try.prog 105 = some i105 := by kernel_rfl
theorem tz106 : tiOf Try.prog 106 = some i106 := by kernel_rfl
theorem tz107 : tiOf Try.prog 107 = some i107 := by kernel_rfl
theorem tz108 : tiOf Try.prog 108 = some i108 := by kernel_rfl
theorem tz109 : tiOf Try.prog 109 = some i109 := by kernel_rfl
theorem tz110 : tiOf Try.prog 110 = some i110 := by kernel_rfl
theorem tz111 : tiOf Try.prog 111 = some i111 := by kernel_rfl
theorem tz113 : tiOf Try.prog 113 = some (⟨.int .u64, [.int .u64 0], 1, 8⟩ : TI) := by kernel_rfl
theorem tz114 : tiOf Try.prog 114 = some i114 := by kernel_rfl
theorem tz115 : tiOf Try.prog 115 = some i115 := by kernel_rfl
theorem tz117 : tiOf Try.prog 117 = some i117 := by kernel_rfl
theorem tz118 : tiOf Try.prog 118 = some i118 := by kernel_rfl
theorem tz119 : tiOf Try.prog 119 = some i119 := by kernel_rfl
theorem tz120 : tiOf Try.prog 120 = some i120 := by kernel_rfl
theorem tz121 : tiOf Try.prog 121 = some i121 := by kernel_rfl
theorem tz122 : tiOf Try.prog 122 = some i122 := by kernel_rfl
theorem tz123 : tiOf Try.prog 123 = some i123 := by kernel_rfl
theorem tz124 : tiOf Try.prog 124 = some i124 := by kernel_rfl
theorem tz125 : tiOf Try.prog 125 = some (⟨.int .u64, [.int .u64 0], 1, 8⟩ : TI) := by kernel_rfl
theorem tz126 : tiOf Try.prog 126 = some i126 := by kernel_rfl
theorem tz127 : tiOf Try.prog 127 = some i127 := by kernel_rfl
theorem tz128 : tiOf Try.prog 128 = some i128 := by kernel_rfl
theorem tz129 : tiOf Try.prog 129 = some i129 := by kernel_rfl
theorem tz130 : tiOf Try.prog 130 = some i130 := by kernel_rfl
theorem tz131 : tiOf Try.prog 131 = some i131 := by kernel_rfl
theorem tz132 : tiOf Try.prog 132 = some i132 := by kernel_rfl
theorem tz133 : tiOf Try.prog 133 = some i133 := by kernel_rfl
theorem tz134 : tiOf Try.prog 134 = some i134 := by kernel_rfl
theorem tz135 : tiOf Try.prog 135 = some i135 := by kernel_rfl
theorem tz136 : tiOf Try.prog 136 = some i136 := by kernel_rfl
theorem tz137 : tiOf Try.prog 137 = some i137 := by kernel_rfl
theorem tz138 : tiOf Try.prog 138 = some i138 := by kernel_rfl
theorem tz139 : tiOf Try.prog 139 = some i139 := by kernel_rfl
theorem tz140 : tiOf Try.prog 140 = some i140 := by kernel_rfl
theorem tz141 : tiOf Try.prog 141 = some (⟨.int .i64, [.int .i64 0], 1, 8⟩ : TI) := by kernel_rfl
theorem tz143 : tiOf Try.prog 143 = some i143 := by kernel_rfl
theorem tz144 : tiOf Try.prog 144 = some i144 := by kernel_rfl
theorem tz145 : tiOf Try.prog 145 = some i145 := by kernel_rfl
theorem tz146 : tiOf Try.prog 146 = some i146 := by kernel_rfl
theorem tz147 : tiOf Try.prog 147 = some i147 := by kernel_rfl
theorem tz148 : tiOf Try.prog 148 = some i148 := by kernel_rfl
theorem tz149 : tiOf Try.prog 149 = some i149 := by kernel_rfl
theorem tz150 : tiOf Try.prog 150 = some i150 := by kernel_rfl
theorem tz151 : tiOf Try.prog 151 = some i151 := by kernel_rfl
theorem tz152 : tiOf Try.prog 152 = some i152 := by kernel_rfl
theorem tz153 : tiOf Try.prog 153 = some i153 := by kernel_rfl
theorem tz154 : tiOf Try.prog 154 = some i154 := by kernel_rfl
theorem tz155 : tiOf Try.prog 155 = some (⟨.int .u64, [.int .u64 0], 1, 8⟩ : TI) := by kernel_rfl
theorem tz156 : tiOf Try.prog 156 = some i156 := by kernel_rfl
theorem tz157 : tiOf Try.prog 157 = some i157 := by kernel_rfl
theorem tz158 : tiOf Try.prog 158 = some i158 := by kernel_rfl
theorem tz159 : tiOf Try.prog 159 = some i159 := by kernel_rfl
theorem tz160 : tiOf Try.prog 160 = some i160 := by kernel_rfl
theorem tz161 : tiOf Try.prog 161 = some i161 := by kernel_rfl
theorem tz162 : tiOf Try.prog 162 = some i162 := by kernel_rfl
theorem tz163 : tiOf Try.prog 163 = some i163 := by kernel_rfl
theorem tz164 : tiOf Try.prog 164 = some i164 := by kernel_rfl
theorem tz165 : tiOf Try.prog 165 = some i165 := by kernel_rfl
theorem tz166 : tiOf Try.prog 166 = some i166 := by kernel_rfl
theorem tz169 : tiOf Try.prog 169 = some i169 := by kernel_rfl
theorem tz170 : tiOf Try.prog 170 = some i170 := by kernel_rfl
theorem tz171 : tiOf Try.prog 171 = some i171 := by kernel_rfl
theorem tz172 : tiOf Try.prog 172 = some i172 := by kernel_rfl
theorem tz173 : tiOf Try.prog 173 = some (⟨.int .u8, [.int .u8 0], 1, 1⟩ : TI) := by kernel_rfl
theorem tz174 : tiOf Try.prog 174 = some (⟨.int .u8, [.int .u8 0], 1, 1⟩ : TI) := by kernel_rfl
theorem tz175 : tiOf Try.prog 175 = some i175 := by kernel_rfl
theorem tz176 : tiOf Try.prog 176 = some i176 := by kernel_rfl
theorem tz177 : tiOf Try.prog 177 = some (⟨.int .i32, [.int .i32 0], 1, 4⟩ : TI) := by kernel_rfl
theorem tz178 : tiOf Try.prog 178 = some (⟨.int .i32, [.int .i32 0], 1, 4⟩ : TI) := by kernel_rfl
theorem tz179 : tiOf Try.prog 179 = some i179 := by kernel_rfl
theorem tz180 : tiOf Try.prog 180 = some i180 := by kernel_rfl
theorem mixed0 : Try.prog.follows .mixedOrders = true := by kernel_rfl
theorem names0 : namesOk Try.prog = true := by kernel_rfl
def inlF : List TD → Option (Kind × List TD) := fun _ => none
theorem kqeql60 (x y : Operand) (a0 b0 a1 b1 a2 b2 : Int) : pureOf Try.prog (do eqGuard .eql 60 x y (.agg #[.int .i64 a0, .int .i64 a1, .int .i64 a2]) (.agg #[.int .i64 b0, .int .i64 b1, .int .i64 b2]); binOp .eql 60 (.agg #[.int .i64 a0, .int .i64 a1, .int .i64 a2]) (.agg #[.int .i64 b0, .int .i64 b1, .int .i64 b2])) = some (.bool ((a0 == b0 && (a1 == b1 && (a2 == b2 && true))))) := by
 refine pof_eqlA (by kernel_rfl) ((pof_struct 9999 60 #[.int .i64 a0, .int .i64 a1, .int .i64 a2] #[.int .i64 b0, .int .i64 b1, .int .i64 b2] (fs := flds Try.prog 59) (by kernel_rfl) (by kernel_rfl)).trans ?_)
 rw [show (flds Try.prog 59).toList = [fld Try.prog 59 0, fld Try.prog 59 1, fld Try.prog 59 2] by kernel_rfl]
 exact ((pof_field (k := .i64) (k' := .i64) (by kernel_rfl) (by kernel_rfl) (by kernel_rfl) (by kernel_rfl)).trans (and_of ((pof_field (k := .i64) (k' := .i64) (by kernel_rfl) (by kernel_rfl) (by kernel_rfl) (by kernel_rfl)).trans (and_of ((pof_field (k := .i64) (k' := .i64) (by kernel_rfl) (by kernel_rfl) (by kernel_rfl) (by kernel_rfl)).trans (and_of pof_nofield))))))
theorem kqneq60 (x y : Operand) (a0 b0 a1 b1 a2 b2 : Int) : pureOf Try.prog (do eqGuard .neq 60 x y (.agg #[.int .i64 a0, .int .i64 a1, .int .i64 a2]) (.agg #[.int .i64 b0, .int .i64 b1, .int .i64 b2]); binOp .neq 60 (.agg #[.int .i64 a0, .int .i64 a1, .int .i64 a2]) (.agg #[.int .i64 b0, .int .i64 b1, .int .i64 b2])) = some (.bool (!(a0 == b0 && (a1 == b1 && (a2 == b2 && true))))) := by
 refine pof_neqA (by kernel_rfl) ((pof_struct 9999 60 #[.int .i64 a0, .int .i64 a1, .int .i64 a2] #[.int .i64 b0, .int .i64 b1, .int .i64 b2] (fs := flds Try.prog 59) (by kernel_rfl) (by kernel_rfl)).trans ?_)
 rw [show (flds Try.prog 59).toList = [fld Try.prog 59 0, fld Try.prog 59 1, fld Try.prog 59 2] by kernel_rfl]
 exact ((pof_field (k := .i64) (k' := .i64) (by kernel_rfl) (by kernel_rfl) (by kernel_rfl) (by kernel_rfl)).trans (and_of ((pof_field (k := .i64) (k' := .i64) (by kernel_rfl) (by kernel_rfl) (by kernel_rfl) (by kernel_rfl)).trans (and_of ((pof_field (k := .i64) (k' := .i64) (by kernel_rfl) (by kernel_rfl) (by kernel_rfl) (by kernel_rfl)).trans (and_of pof_nofield))))))
theorem kqeql94 (x y : Operand) (a0 b0 a1 b1 : Int) : pureOf Try.prog (do eqGuard .eql 94 x y (.agg #[.int .i64 a0, .int .i64 a1]) (.agg #[.int .i64 b0, .int .i64 b1]); binOp .eql 94 (.agg #[.int .i64 a0, .int .i64 a1]) (.agg #[.int .i64 b0, .int .i64 b1])) = some (.bool ((a0 == b0 && (a1 == b1 && true)))) := by
 refine pof_eqlA (by kernel_rfl) ((pof_struct 9999 94 #[.int .i64 a0, .int .i64 a1] #[.int .i64 b0, .int .i64 b1] (fs := flds Try.prog 93) (by kernel_rfl) (by kernel_rfl)).trans ?_)
 rw [show (flds Try.prog 93).toList = [fld Try.prog 93 0, fld Try.prog 93 1] by kernel_rfl]
 exact ((pof_field (k := .i64) (k' := .i64) (by kernel_rfl) (by kernel_rfl) (by kernel_rfl) (by kernel_rfl)).trans (and_of ((pof_field (k := .i64) (k' := .i64) (by kernel_rfl) (by kernel_rfl) (by kernel_rfl) (by kernel_rfl)).trans (and_of pof_nofield))))
theorem kqneq94 (x y : Operand) (a0 b0 a1 b1 : Int) : pureOf Try.prog (do eqGuard .neq 94 x y (.agg #[.int .i64 a0, .int .i64 a1]) (.agg #[.int .i64 b0, .int .i64 b1]); binOp .neq 94 (.agg #[.int .i64 a0, .int .i64 a1]) (.agg #[.int .i64 b0, .int .i64 b1])) = some (.bool (!(a0 == b0 && (a1 == b1 && true)))) := by
 refine pof_neqA (by kernel_rfl) ((pof_struct 9999 94 #[.int .i64 a0, .int .i64 a1] #[.int .i64 b0, .int .i64 b1] (fs := flds Try.prog 93) (by kernel_rfl) (by kernel_rfl)).trans ?_)
 rw [show (flds Try.prog 93).toList = [fld Try.prog 93 0, fld Try.prog 93 1] by kernel_rfl]
 exact ((pof_field (k := .i64) (k' := .i64) (by kernel_rfl) (by kernel_rfl) (by kernel_rfl) (by kernel_rfl)).trans (and_of ((pof_field (k := .i64) (k' := .i64) (by kernel_rfl) (by kernel_rfl) (by kernel_rfl) (by kernel_rfl)).trans (and_of pof_nofield))))
theorem kqeql115 (x y : Operand) (a0 b0 a1 b1 : Int) : pureOf Try.prog (do eqGuard .eql 115 x y (.agg #[.int .i64 a0, .int .u64 a1]) (.agg #[.int .i64 b0, .int .u64 b1]); binOp .eql 115 (.agg #[.int .i64 a0, .int .u64 a1]) (.agg #[.int .i64 b0, .int .u64 b1])) = some (.bool ((a0 == b0 && (a1 == b1 && true)))) := by
 refine pof_eqlA (by kernel_rfl) ((pof_struct 9999 115 #[.int .i64 a0, .int .u64 a1] #[.int .i64 b0, .int .u64 b1] (fs := flds Try.prog 114) (by kernel_rfl) (by kernel_rfl)).trans ?_)
 rw [show (flds Try.prog 114).toList = [fld Try.prog 114 0, fld Try.prog 114 1] by kernel_rfl]
 exact ((pof_field (k := .i64) (k' := .i64) (by kernel_rfl) (by kernel_rfl) (by kernel_rfl) (by kernel_rfl)).trans (and_of ((pof_field (k := .u64) (k' := .u64) (by kernel_rfl) (by kernel_rfl) (by kernel_rfl) (by kernel_rfl)).trans (and_of pof_nofield))))
theorem kqneq115 (x y : Operand) (a0 b0 a1 b1 : Int) : pureOf Try.prog (do eqGuard .neq 115 x y (.agg #[.int .i64 a0, .int .u64 a1]) (.agg #[.int .i64 b0, .int .u64 b1]); binOp .neq 115 (.agg #[.int .i64 a0, .int .u64 a1]) (.agg #[.int .i64 b0, .int .u64 b1])) = some (.bool (!(a0 == b0 && (a1 == b1 && true)))) := by
 refine pof_neqA (by kernel_rfl) ((pof_struct 9999 115 #[.int .i64 a0, .int .u64 a1] #[.int .i64 b0, .int .u64 b1] (fs := flds Try.prog 114) (by kernel_rfl) (by kernel_rfl)).trans ?_)
 rw [show (flds Try.prog 114).toList = [fld Try.prog 114 0, fld Try.prog 114 1] by kernel_rfl]
 exact ((pof_field (k := .i64) (k' := .i64) (by kernel_rfl) (by kernel_rfl) (by kernel_rfl) (by kernel_rfl)).trans (and_of ((pof_field (k := .u64) (k' := .u64) (by kernel_rfl) (by kernel_rfl) (by kernel_rfl) (by kernel_rfl)).trans (and_of pof_nofield))))
def EQS : List (Nat × List IntKind) := [(60, [.i64, .i64, .i64]), (94, [.i64, .i64]), (115, [.i64, .u64])]
noncomputable def fi21 : FI := fiF Try.f21
noncomputable def fi23 : FI := fiF Try.f23
noncomputable def fi25 : FI := fiF Try.f25
noncomputable def fi26 : FI := fiF Try.f26
noncomputable def fi31 : FI := fiF Try.f31
noncomputable def fi35 : FI := fiF Try.f35
noncomputable def fi36 : FI := fiF Try.f36
noncomputable def fi43 : FI := fiF Try.f43
noncomputable def fi48 : FI := fiF Try.f48
noncomputable def fi50 : FI := fiF Try.f50
noncomputable def fi54 : FI := fiF Try.f54
noncomputable def fi58 : FI := fiF Try.f58
noncomputable def fi59 : FI := fiF Try.f59
noncomputable def fi60 : FI := fiF Try.f60
noncomputable def fi61 : FI := fiF Try.f61
noncomputable def fi62 : FI := fiF Try.f62
noncomputable def fi63 : FI := fiF Try.f63
noncomputable def fi65 : FI := fiF Try.f65
noncomputable def fi70 : FI := fiF Try.f70
noncomputable def fi71 : FI := fiF Try.f71
noncomputable def fi73 : FI := fiF Try.f73
noncomputable def fi75 : FI := fiF Try.f75
noncomputable def fi76 : FI := fiF Try.f76
noncomputable def fi78 : FI := fiF Try.f78
noncomputable def fi79 : FI := fiF Try.f79
noncomputable def fi80 : FI := fiF Try.f80
noncomputable def fi82 : FI := fiF Try.f82
noncomputable def fi83 : FI := fiF Try.f83
noncomputable def fi85 : FI := fiF Try.f85
noncomputable def fi86 : FI := fiF Try.f86
noncomputable def fi87 : FI := fiF Try.f87
noncomputable def fi88 : FI := fiF Try.f88
noncomputable def fi89 : FI := fiF Try.f89
noncomputable def fi90 : FI := fiF Try.f90
noncomputable def fi91 : FI := fiF Try.f91
noncomputable def fi92 : FI := fiF Try.f92
noncomputable def fi94 : FI := fiF Try.f94
noncomputable def fi95 : FI := fiF Try.f95
noncomputable def fi96 : FI := fiF Try.f96
noncomputable def fi97 : FI := fiF Try.f97
noncomputable def fi99 : FI := fiF Try.f99
noncomputable def fi106 : FI := fiF Try.f106
noncomputable def fi107 : FI := fiF Try.f107
noncomputable def fi108 : FI := fiF Try.f108
noncomputable def fi109 : FI := fiF Try.f109
noncomputable def fi111 : FI := fiF Try.f111
noncomputable def fi114 : FI := fiF Try.f114
noncomputable def fi115 : FI := fiF Try.f115
noncomputable def fi116 : FI := fiF Try.f116
noncomputable def fi117 : FI := fiF Try.f117
noncomputable def fi118 : FI := fiF Try.f118
noncomputable def fi121 : FI := fiF Try.f121
noncomputable def fi122 : FI := fiF Try.f122
noncomputable def fi126 : FI := fiF Try.f126
noncomputable def fi127 : FI := fiF Try.f127
noncomputable def fi129 : FI := fiF Try.f129
abbrev yD6 : TyD := (true, .C (.I .i64) (.I .u64))
abbrev yD5 : TyD := (false, .S (.C (.I .i64) (.I .i64)))
abbrev yD4 : TyD := (true, .C (.I .i64) (.C (.I .i64) (.I .i64)))
abbrev yD3 : TyD := (false, .S (.C (.I .i64) (.C (.I .i64) (.I .i64))))
abbrev yD2 : TyD := (true, .C (.I .i64) (.S (.C (.I .i64) (.C (.I .i64) (.I .i64)))))
abbrev yD1 : TyD := (true, .C (.I .i64) (.C (.I .i64) (.C (.S (.I .i64)) (.C (.S (.I .i64)) (.S (.I .i64))))))
abbrev yD0 : TyD := (true, .C (.I .i64) (.C (.I .i64) (.C (.S (.I .i64)) (.C (.S (.I .i64)) (.C (.S (.I .i64)) (.S (.I .i64)))))))
end K
end Ev
end Go.Proofs.Ytlkcneneagifoaa
end
section
namespace Go.Proofs.Ytlkcneneagifoaa
namespace Ev
namespace K
open Go Go.RowKit
set_option linter.unusedVariables false
set_option linter.unusedSimpArgs false
set_option maxRecDepth 100000
set_option maxHeartbeats 1000000
def wide_Of_A : AnnK := []
noncomputable def wide_Of_G : KG := ⟨TT, EQS, [], []⟩
noncomputable def wide_Of : vals [(false, .I .i64)] → Option (OutK.val (.data true [yD6])) := funK wide_Of_G wide_Of_A fi96 96 0 [(false, .I .i64)] (.data true [yD6])
noncomputable def wide_Of_E : Entry := ⟨96, [(false, .I .i64)], .data true [yD6], wide_Of, 1⟩
def wide_Compare_A : AnnK := []
noncomputable def wide_Compare_G : KG := ⟨TT, EQS, [], []⟩
noncomputable def wide_Compare : vals [yD6, yD6] → Option (OutK.val (.data true [(false, .I .i64)])) := funK wide_Compare_G wide_Compare_A fi129 129 0 [yD6, yD6] (.data true [(false, .I .i64)])
noncomputable def wide_Compare_E : Entry := ⟨129, [yD6, yD6], .data true [(false, .I .i64)], wide_Compare, 1⟩
def ring_lesser_A : AnnK := []
noncomputable def ring_lesser_G : KG := ⟨TT, EQS, [wide_Compare_E], []⟩
noncomputable def ring_lesser : vals [yD6, yD6] → Option (OutK.val (.data true [yD6])) := funK ring_lesser_G ring_lesser_A fi115 115 0 [yD6, yD6] (.data true [yD6])
noncomputable def ring_lesser_E : Entry := ⟨115, [yD6, yD6], .data true [yD6], ring_lesser, 2⟩
def ring_truth_A : AnnK := []
noncomputable def ring_truth_G : KG := ⟨TT, EQS, [wide_Of_E], []⟩
noncomputable def ring_truth : vals [(false, .B)] → Option (OutK.val (.data true [yD6])) := funK ring_truth_G ring_truth_A fi116 116 0 [(false, .B)] (.data true [yD6])
noncomputable def ring_truth_E : Entry := ⟨116, [(false, .B)], .data true [yD6], ring_truth, 2⟩
def wide_Add_A : AnnK := []
noncomputable def wide_Add_G : KG := ⟨TT, EQS, [], []⟩
noncomputable def wide_Add : vals [yD6, yD6] → Option (OutK.val (.data true [yD6])) := funK wide_Add_G wide_Add_A fi117 117 0 [yD6, yD6] (.data true [yD6])
noncomputable def wide_Add_E : Entry := ⟨117, [yD6, yD6], .data true [yD6], wide_Add, 1⟩
def ring_Add_A : AnnK := [(95, ⟨[⟨true, 2, 9, [4, 5, 6, 7], ⟨[], [], []⟩, [(.normal, ⟨[(8, false, [.d true .B])], [], []⟩)]⟩], []⟩)]
noncomputable def ring_Add_G : KG := ⟨TT, EQS, [ring_lesser_E, ring_truth_E, wide_Add_E], []⟩
noncomputable def ring_Add : vals [(false, .I .i64), yD6, yD6] → Option (OutK.val (.data true [yD6])) := funK ring_Add_G ring_Add_A fi95 95 0 [(false, .I .i64), yD6, yD6] (.data true [yD6])
noncomputable def ring_Add_E : Entry := ⟨95, [(false, .I .i64), yD6, yD6], .data true [yD6], ring_Add, 3⟩
def wide_Narrow_A : AnnK := []
noncomputable def wide_Narrow_G : KG := ⟨TT, EQS, [wide_Of_E], []⟩
noncomputable def wide_Narrow : vals [yD6] → Option (OutK.val (.data true [(false, .I .i64), (false, .B)])) := funK wide_Narrow_G wide_Narrow_A fi118 118 0 [yD6] (.data true [(false, .I .i64), (false, .B)])
noncomputable def wide_Narrow_E : Entry := ⟨118, [yD6], .data true [(false, .I .i64), (false, .B)], wide_Narrow, 2⟩
def ring_Narrow_A : AnnK := []
noncomputable def ring_Narrow_G : KG := ⟨TT, EQS, [wide_Narrow_E], []⟩
noncomputable def ring_Narrow : vals [(false, .I .i64), yD6] → Option (OutK.val (.data true [(false, .I .i64), (false, .B)])) := funK ring_Narrow_G ring_Narrow_A fi97 97 0 [(false, .I .i64), yD6] (.data true [(false, .I .i64), (false, .B)])
noncomputable def ring_Narrow_E : Entry := ⟨97, [(false, .I .i64), yD6], .data true [(false, .I .i64), (false, .B)], ring_Narrow, 3⟩
def cmp_Or_int_A : AnnK := [(121, ⟨[⟨false, 3, 0, [3, 6, 7], ⟨[(8, false, [.d true (.I .i64)])], [], []⟩, [(.exit 0, ⟨[], [], []⟩), (.ret, ⟨[(2, false, [.d true (.I .i64)])], [], []⟩)]⟩], []⟩)]
noncomputable def cmp_Or_int_G : KG := ⟨TT, EQS, [], []⟩
noncomputable def cmp_Or_int : vals [(false, .S (.I .i64))] → Option (OutK.val (.data true [(false, .I .i64)])) := funK cmp_Or_int_G cmp_Or_int_A fi121 121 0 [(false, .S (.I .i64))] (.data true [(false, .I .i64)])
noncomputable def cmp_Or_int_E : Entry := ⟨121, [(false, .S (.I .i64))], .data true [(false, .I .i64)], cmp_Or_int, 1⟩
def cmp_isNaN_int_A : AnnK := []
noncomputable def cmp_isNaN_int_G : KG := ⟨TT, EQS, [], []⟩
noncomputable def cmp_isNaN_int : vals [(false, .I .i64)] → Option (OutK.val (.data true [(false, .B)])) := funK cmp_isNaN_int_G cmp_isNaN_int_A fi126 126 0 [(false, .I .i64)] (.data true [(false, .B)])
noncomputable def cmp_isNaN_int_E : Entry := ⟨126, [(false, .I .i64)], .data true [(false, .B)], cmp_isNaN_int, 1⟩
def cmp_Compare_int_A : AnnK := []
noncomputable def cmp_Compare_int_G : KG := ⟨TT, EQS, [cmp_isNaN_int_E], []⟩
noncomputable def cmp_Compare_int : vals [(false, .I .i64), (false, .I .i64)] → Option (OutK.val (.data true [(false, .I .i64)])) := funK cmp_Compare_int_G cmp_Compare_int_A fi122 122 0 [(false, .I .i64), (false, .I .i64)] (.data true [(false, .I .i64)])
noncomputable def cmp_Compare_int_E : Entry := ⟨122, [(false, .I .i64), (false, .I .i64)], .data true [(false, .I .i64)], cmp_Compare_int, 2⟩
def csr_byPlace_A : AnnK := [(99, ⟨[], [(1, ⟨[[], [], [], [], [], [], [], [], [], [], [], [], []], [(false, []), (false, []), (false, []), (false, []), (false, []), (false, []), (false, []), (false, []), (false, []), (false, []), (true, []), (false, []), (false, [])]⟩)]⟩)]
noncomputable def csr_byPlace_G : KG := ⟨TT, EQS, [cmp_Or_int_E, cmp_Compare_int_E], []⟩
noncomputable def csr_byPlace : vals [yD4, yD4] → Option (OutK.val (.data true [(false, .I .i64)])) := funK csr_byPlace_G csr_byPlace_A fi99 99 0 [yD4, yD4] (.data true [(false, .I .i64)])
noncomputable def csr_byPlace_E : Entry := ⟨99, [yD4, yD4], .data true [(false, .I .i64)], csr_byPlace, 3⟩
def csr_inOrder_A : AnnK := [(94, ⟨[⟨false, 2, 0, [0], ⟨[(3, false, [.d true (.I .i64)])], [], []⟩, [(.exit 0, ⟨[], [], []⟩), (.ret, ⟨[(2, false, [.d true .B])], [], []⟩)]⟩], []⟩)]
noncomputable def csr_inOrder_G : KG := ⟨TT, EQS, [csr_byPlace_E], []⟩
noncomputable def csr_inOrder : vals [yD3] → Option (OutK.val (.data true [(false, .B)])) := funK csr_inOrder_G csr_inOrder_A fi94 94 0 [yD3] (.data true [(false, .B)])
noncomputable def csr_inOrder_E : Entry := ⟨94, [yD3], .data true [(false, .B)], csr_inOrder, 4⟩
def ring_Is_A : AnnK := []
noncomputable def ring_Is_G : KG := ⟨TT, EQS, [], []⟩
noncomputable def ring_Is : vals [(false, .I .i64)] → Option (OutK.val (.data true [(false, .B)])) := funK ring_Is_G ring_Is_A fi62 62 0 [(false, .I .i64)] (.data true [(false, .B)])
noncomputable def ring_Is_E : Entry := ⟨62, [(false, .I .i64)], .data true [(false, .B)], ring_Is, 1⟩
def edges_byEnds_A : AnnK := [(114, ⟨[], [(1, ⟨[[], [], [], [], [], [], [], [], [], [], [], [], []], [(false, []), (false, []), (false, []), (false, []), (false, []), (false, []), (false, []), (false, []), (false, []), (false, []), (true, []), (false, []), (false, [])]⟩)]⟩)]
noncomputable def edges_byEnds_G : KG := ⟨TT, EQS, [cmp_Or_int_E, cmp_Compare_int_E], []⟩
noncomputable def edges_byEnds : vals [yD4, yD4] → Option (OutK.val (.data true [(false, .I .i64)])) := funK edges_byEnds_G edges_byEnds_A fi114 114 0 [yD4, yD4] (.data true [(false, .I .i64)])
noncomputable def edges_byEnds_E : Entry := ⟨114, [yD4, yD4], .data true [(false, .I .i64)], edges_byEnds, 3⟩
def edges_Rises_A : AnnK := [(111, ⟨[⟨false, 2, 0, [0], ⟨[(3, false, [.d true (.I .i64)])], [], []⟩, [(.exit 0, ⟨[], [], []⟩), (.ret, ⟨[(2, false, [.d true .B])], [], []⟩)]⟩], []⟩)]
noncomputable def edges_Rises_G : KG := ⟨TT, EQS, [edges_byEnds_E], []⟩
noncomputable def edges_Rises : vals [yD3] → Option (OutK.val (.data true [(false, .B)])) := funK edges_Rises_G edges_Rises_A fi111 111 0 [yD3] (.data true [(false, .B)])
noncomputable def edges_Rises_E : Entry := ⟨111, [yD3], .data true [(false, .B)], edges_Rises, 4⟩
end K
end Ev
end Go.Proofs.Ytlkcneneagifoaa
end
section
namespace Go.Proofs.Ytlkcneneagifoaa
namespace Ev
namespace K
open Go Go.RowKit
set_option linter.unusedVariables false
set_option linter.unusedSimpArgs false
def rowsT {α : Type} (f : List T → Option α) : List (List T) → Option (List α)
 | [] => some []
 | a :: r => (f a).bind fun x => (rowsT f r).map (x :: ·)
theorem rowsT_map {α : Type} {f : List T → Option α} {g : α → List T} (h : ∀ x, f (g x) = some x) : ∀ l : List α, rowsT f (l.map g) = some l
 | [] => rfl
 | x :: l => by simp only [List.map_cons, rowsT, h, Option.bind_some, rowsT_map h l, Option.map_some]
theorem rowsT_some {α : Type} {f : List T → Option α} {g : α → List T} (h : ∀ a x, f a = some x → a = g x) : ∀ {l : List (List T)} {r : List α}, rowsT f l = some r → l = r.map g
 | [], r, hr => by simp [rowsT] at hr; subst hr; rfl
 | a :: l, r, hr => by
  simp only [rowsT, Option.bind_eq_some_iff, Option.map_eq_some_iff] at hr
  obtain ⟨x, hx, r', hr', rfl⟩ := hr
  rw [List.map_cons, ← h a x hx, ← rowsT_some h hr']
def decT : (e : Ty) → List T → Option e.val
 | .I k, l => match l with
  | [.v (.int k' n)] => if k' = k then some n else none
  | _ => none
 | .B, l => match l with
  | [.v (.bool b)] => some b
  | _ => none
 | .S e, l => match l with
  | [.s nn sz rows] => (rowsT (decT e) rows).map fun r => ⟨nn, sz, r⟩
  | _ => none
 | .U, l => match l with
  | [] => some ()
  | _ => none
 | .C a b, l => (decT a (l.take a.size)).bind fun x => (decT b (l.drop a.size)).bind fun y => some (x, y)
theorem decT_row : ∀ (e : Ty) (x : e.val), decT e (e.row x) = some x
 | .I k, x => by simp [decT, Ty.row, iT]
 | .B, x => by simp [decT, Ty.row, bT]
 | .S e, x => by
  simp only [decT, Ty.row, Sl.t]
  rw [rowsT_map (decT_row e)]; rfl
 | .U, x => rfl
 | .C a b, x => by
  show ((decT a ((a.row x.1 ++ b.row x.2).take a.size)).bind fun x1 => (decT b ((a.row x.1 ++ b.row x.2).drop a.size)).bind fun y => some (x1, y)) = some x
  have e1 : (a.row x.1 ++ b.row x.2).take a.size = a.row x.1 := by rw [List.take_append_of_le_length (by rw [row_len]; exact Nat.le_refl _), List.take_of_length_le (by rw [row_len]; exact Nat.le_refl _)]
  have e2 : (a.row x.1 ++ b.row x.2).drop a.size = b.row x.2 := by rw [← row_len a x.1, List.drop_left]
  rw [e1, decT_row a, Option.bind_some, e2, decT_row b]; rfl
theorem decT_some : ∀ (e : Ty) (l : List T) (x : e.val), decT e l = some x → l = e.row x
 | .I k, l, x, h => by
  simp only [decT] at h
  split at h
  ·split at h
   ·rename_i hk; cases h; subst hk; rfl
   ·simp at h
  ·simp at h
 | .B, l, x, h => by
  simp only [decT] at h
  split at h
  ·cases h; rfl
  ·simp at h
 | .S e, l, x, h => by
  simp only [decT] at h
  split at h
  ·rw [Option.map_eq_some_iff] at h
   obtain ⟨r, hr, rfl⟩ := h
   rw [rowsT_some (decT_some e) hr]; rfl
  ·simp at h
 | .U, l, x, h => by
  simp only [decT] at h
  split at h
  ·rfl
  ·simp at h
 | .C a b, l, x, h => by
  simp only [decT, Option.bind_eq_some_iff] at h
  obtain ⟨x1, h1, x2, h2, h3⟩ := h
  cases h3
  show l = a.row x1 ++ b.row x2
  rw [← decT_some a _ _ h1, ← decT_some b _ _ h2, List.take_append_drop]
def decTD (t : TyD) (d : TD) : Option t.2.val :=
 match t, d with
 | (true, e), .agg l => decT e l
 | (false, e), .one y => decT e [y]
 | (false, e), .agg l => if l.length = 1 then none else decT e l
 | _, _ => none
def oneTD : List T → TD
 | [y] => .one y
 | ys => .agg ys
theorem tdOf_row (e : Ty) (x : e.val) : tdOf (false, e) x = oneTD (e.row x) := by
 unfold tdOf oneTD
 rfl
theorem decTD_of (t : TyD) (x : t.2.val) : decTD t (tdOf t x) = some x := by
 obtain ⟨b, e⟩ := t
 have h := decT_row e x
 cases b with
 | true => exact h
 | false =>
  change e.val at x
  rw [show tdOf (false, e) x = _ from tdOf_row e x]
  generalize e.row x = l at h
  match l, h with
  | [], h => exact h
  | [y], h => exact h
  | a :: b :: r, h =>
   show (if (a :: b :: r).length = 1 then none else decT e (a :: b :: r)) = some x
   rw [if_neg (by simp)]; exact h
theorem decTD_some (t : TyD) (d : TD) (x : t.2.val) (h : decTD t d = some x) : d = tdOf t x := by
 obtain ⟨b, e⟩ := t
 cases b with
 | true =>
  cases d with
  | one y => simp [decTD] at h
  | agg l => exact congrArg TD.agg (decT_some e l x h)
 | false =>
  change e.val at x
  cases d with
  | one y => rw [show tdOf (false, e) x = _ from tdOf_row e x, ← decT_some e [y] x h]; rfl
  | agg l =>
   simp only [decTD] at h
   split at h
   ·simp at h
   ·rename_i hl
    have := decT_some e l x h
    rw [show tdOf (false, e) x = _ from tdOf_row e x, ← this]
    match l, hl with
    | [], _ => rfl
    | [y], hl => simp at hl
    | a :: b :: r, _ => rfl
def decTDs : (ts : List TyD) → List TD → Option (vals ts)
 | [], l => match l with
  | [] => some ()
  | _ => none
 | [t], l => match l with
  | [d] => decTD t d
  | _ => none
 | t :: t' :: r, l => match l with
  | d :: ds => (decTD t d).bind fun x => (decTDs (t' :: r) ds).bind fun y => some (x, y)
  | [] => none
theorem decTDs_of : ∀ (ts : List TyD) (x : vals ts), decTDs ts (tdsOf ts x) = some x
 | [], _ => rfl
 | [t], x => decTD_of t x
 | t :: t' :: r, x => by
  show (decTD t (tdOf t x.1)).bind _ = _
  rw [decTD_of t x.1, Option.bind_some, decTDs_of (t' :: r) x.2]; rfl
theorem decTDs_some : ∀ (ts : List TyD) (l : List TD) (x : vals ts), decTDs ts l = some x → l = tdsOf ts x
 | [], l, x, h => by
  simp only [decTDs] at h
  split at h
  ·rfl
  ·simp at h
 | [t], l, x, h => by
  simp only [decTDs] at h
  split at h
  ·exact congrArg (· :: []) (decTD_some t _ x h)
  ·simp at h
 | t :: t' :: r, l, x, h => by
  simp only [decTDs] at h
  split at h
  ·simp only [Option.bind_eq_some_iff] at h
   obtain ⟨y, h1, z, h2, h3⟩ := h
   cases h3
   show _ = tdOf t y :: tdsOf (t' :: r) z
   rw [← decTD_some t _ y h1, ← decTDs_some (t' :: r) _ z h2]
  ·simp at h
def handF (ins : List TyD) (kind : Kind) (ts : List TyD) (g : vals ins → Option (vals ts)) (vs : List TD) : Option (Kind × List TD) := (decTDs ins vs).bind fun a => (g a).bind fun x => some (kind, tdsOf ts x)
theorem hand_ax {P : Program} {k : FuncId} {ins : List TyD} {kind : Kind} {ts : List TyD} {g : vals ins → Option (vals ts)} (he : Enters P k) (h : ∀ a x, g a = some x → PureOk P k (tdsOf ins a) kind (tdsOf ts x)) : ∀ vs kind' rs, handF ins kind ts g vs = some (kind', rs) → PureOk P k vs kind' rs ∧ Enters P k := by
 intro vs kind' rs hf
 simp only [handF, Option.bind_eq_some_iff] at hf
 obtain ⟨a, h1, x, h2, h3⟩ := hf
 cases h3
 rw [decTDs_some ins vs a h1]
 exact ⟨h a x h2, he⟩
theorem hand_runs {E : Env} {k : FuncId} {ins : List TyD} {kind : Kind} {ts : List TyD} {g : vals ins → Option (vals ts)} (hx : E.ax k = some (handF ins kind ts g)) (n : Nat) (a : vals ins) (x : vals ts) (h : g a = some x) : RunsP E (n + 1) k (tdsOf ins a) (kind, tdsOf ts x) :=
 runsP_ax hx (by simp only [handF, decTDs_of, Option.bind_some, h])
theorem hand_fresh {E : Env} {k : FuncId} {ins : List TyD} {ts : List TyD} {g : vals ins → Option (vals ts)} (hx : E.ax k = some (handF ins .fresh ts g)) : EntryOk E ⟨k, ins, .data true ts, g, 1⟩ := fun m a x h => hand_runs hx m a x h
end K
end Ev
end Go.Proofs.Ytlkcneneagifoaa
end
section
namespace Go.Proofs.Ytlkcneneagifoaa
open Go.RowKit Go.Sort
def Has (w : World) (b : Nat) : Prop := b < w.heap.size
def Rest (w : World) (os : Array Obj) (b : Nat) : Prop := w.heap.size ≤ b ∧ b < w.heap.size + os.size
theorem Has.of {w : World} {b : Nat} (h : b < w.heap.size) : Has w b := h
@[go_sem] theorem has_alloc (w : World) (o : Obj) (b : Nat) : Has (w.alloc o) b = (b = w.heap.size ∨ Has w b) := by
 unfold Has; simp; omega
@[go_sem] theorem has_grow (w : World) (d : Nat) (os : Array Obj) (b : Nat) : Has (grow (redrawn w d) os) b = (Has w b ∨ Rest w os b) := by
 unfold Has Rest; simp [grow, redrawn]; omega
@[go_sem] theorem has_setCell (w : World) (a : Addr) (v : Value) (b : Nat) : Has (w.setCell a v) b = Has w b := by
 unfold Has; simp [World.setCell]
@[go_sem] theorem has_drew (w : World) (b : Nat) : Has w.drew b = Has w b := rfl
@[go_sem] theorem cell_gr {w : World} {d : Nat} {os : Array Obj} {a : Addr} (h : Has w a.block) : (grow (redrawn w d) os).cell? a = w.cell? a :=
 (below_regrown w d os).cell h
@[go_sem] theorem frozen_gr {w : World} {d : Nat} {os : Array Obj} {a : Addr} (h : Has w a.block) : (grow (redrawn w d) os).frozen? a = w.frozen? a :=
 (below_regrown w d os).frozen h
@[go_sem] theorem cell_al {w : World} {o : Obj} {a : Addr} (h : Has w a.block) : (w.alloc o).cell? a = w.cell? a :=
 ((Below.refl w.heap.size w).alloc (Nat.le_refl _) o).cell h
@[go_sem] theorem frozen_al {w : World} {o : Obj} {a : Addr} (h : Has w a.block) : (w.alloc o).frozen? a = w.frozen? a :=
 ((Below.refl w.heap.size w).alloc (Nat.le_refl _) o).frozen h
@[go_sem] theorem setCell_al {w : World} {o : Obj} {a : Addr} {v : Value} (h : Has w a.block) : (w.alloc o).setCell a v = (w.setCell a v).alloc o := by
 unfold Has at h
 simp only [World.setCell, World.alloc]
 congr 1
 apply Array.ext_getElem?
 intro k
 simp only [Array.getElem?_modify, Array.getElem?_push, Array.size_modify]
 by_cases hk : k = w.heap.size
 ·subst hk; simp; omega
 ·simp [hk]
@[go_sem] theorem ite_ok {α : Type} (p : Prop) [Decidable p] (x y : α) (w : World) : (if p then Result.ok x w else Result.ok y w) = Result.ok (if p then x else y) w := by
 split <;> rfl
@[go_sem] theorem ite_value (p : Prop) [Decidable p] (x y : Value) : (if p then Next.value x else Next.value y) = Next.value (if p then x else y) := by
 split <;> rfl
theorem bl1 (w : World) (a : Obj) : Below w.heap.size w (w.alloc a) := (Below.refl _ _).alloc (Nat.le_refl _) _
theorem bl2 (w : World) (a b : Obj) : Below w.heap.size w ((w.alloc a).alloc b) := (bl1 w a).alloc (by simp) _
theorem blg {w w1 : World} (h : Below w.heap.size w w1) (d : Nat) (os : Array Obj) : Below w.heap.size w (grow (redrawn w1 d) os) :=
 h.trans ((below_regrown w1 d os).mono h.size)
theorem grow_grow (w : World) (a b : Array Obj) : grow (grow w a) b = grow w (a ++ b) := by simp [grow, Array.append_assoc]
@[go_sem] theorem gr_gr (w : World) (d d2 : Nat) (os os2 : Array Obj) : grow (redrawn (grow (redrawn w d) os) d2) os2 = grow (redrawn w d2) (os ++ os2) := by
 simp [grow, redrawn, Array.append_assoc]
@[go_sem] theorem size_gr (w : World) (d : Nat) (os : Array Obj) : (grow (redrawn w d) os).heap.size = w.heap.size + os.size := by simp [grow, redrawn]
@[go_sem] theorem setCell_gr {w : World} {d : Nat} {os : Array Obj} {a : Addr} {v : Value} (h : Has w a.block) : (grow (redrawn w d) os).setCell a v = grow (redrawn (w.setCell a v) d) os := by
 unfold Has at h
 simp only [grow, redrawn, World.setCell]
 congr 1
 apply Array.ext_getElem?
 intro k
 rw [Array.getElem?_modify]
 by_cases hk : k < w.heap.size
 ·rw [Array.getElem?_append_left hk, Array.getElem?_append_left (by simpa using hk), Array.getElem?_modify]
 ·rw [if_neg (by omega), Array.getElem?_append_right (by omega), Array.getElem?_append_right (by simpa using by omega)]
  simp
@[go_sem] theorem heap_redrawn (w : World) (d : Nat) : (redrawn w d).heap = w.heap := rfl
theorem bla {w w1 : World} (h : Below w.heap.size w w1) (o : Obj) : Below w.heap.size w (w1.alloc o) := h.alloc h.size o
theorem bls {w w1 : World} (h : Below w.heap.size w w1) {p : Addr} (hp : w.heap.size ≤ p.block) (v : Value) : Below w.heap.size w (w1.setCell p v) := h.setCell hp v
@[go_sem] theorem sg_u64 : IntKind.u64.signed = false := rfl
@[go_sem] theorem sg_i64 : IntKind.i64.signed = true := rfl
@[go_sem] theorem sg_u8 : IntKind.u8.signed = false := rfl
@[go_sem] theorem sg_u32 : IntKind.u32.signed = false := rfl
end Go.Proofs.Ytlkcneneagifoaa
end
section
namespace Go.Proofs.Ytlkcneneagifoaa
open Go Go.RowKit Go.Sort
section
variable {P : Program} {ops : Array Oper} {md : Region.Mode} {C : World → Prop}
def Head (P : Program) (md : Region.Mode) (ops : Array Oper) (C : World → Prop) (n : Nat) (L : Array Bool → Act → Prop) : Nat → Array Bool → Act → Prop
 | 0, s, a => L s a
 | f + 1, s, a => (∃ i, i ∈ Region.ready md ops s) ∧ ∀ i ∈ Region.ready md ops s, i < n ∧ qOp P ops C i (Head P md ops C n L f (s.setIfInBounds i true)) a
theorem wpAny_of_Head {n g : Nat} {L : Array Bool → Act → Prop} {Q' : Exit → Act → World → Prop} (hL : ∀ s a w, C w → L s a → wpAny P md ops Q' g s a w) :
  ∀ (f : Nat) (s : Array Bool) (a : Act) (w : World), C w → Head P md ops C n L f s a → wpAny P md ops Q' (f + g) s a w := by
 intro f
 induction f with
 | zero => intro s a w hw h; rw [Nat.zero_add]; exact hL s a w hw h
 | succ f ih =>
  intro s a w hw h
  obtain ⟨⟨i0, hi0⟩, hall⟩ := h
  rw [Nat.add_right_comm]
  refine ⟨fun h0 => ?_, fun i hi => wpOp_of_qOp hw (fun a' w' hw' h' => ih _ a' w' hw' h') (hall i hi).2⟩
  rw [h0] at hi0; cases hi0
theorem Head_first {n i : Nat} {oi : Oper} {v : Value} {L : Array Bool → Act → Prop} (hi : ops[i]? = some oi) (hsel : Region.noSelect ops = true)
  (hs : Region.sinkB md ops n = true) (hc : Region.chainB md ops n = true) (hn : n < ops.size) (hin : i < n) (hdone : ∀ s a, L s a → ∀ j ∈ Region.ready md ops s, n ≤ j) (f : Nat) :
  ∀ (s : Array Bool) (a : Act), HeadInv md ops n s →
   (∀ j oj, ops[j]? = some oj → j ≠ i → s.getD j true = false → (∀ e ∈ oj.after, Region.binds md e = true → e.on ≠ i) → oi.apart ops oj = true) →
   i ∈ Region.ready md ops s → YieldsIn P ops C oi v a →
   Head P md ops C n L f (s.setIfInBounds i true) (a.put oi.dst v) → Head P md ops C n L (f + 1) s a := by
 have sel := Region.noSelect_spec hsel
 induction f with
 | zero =>
  intro s a inv _ hr hy H
  refine ⟨⟨i, hr⟩, fun j hj => ?_⟩
  have hjn : j < n := Nat.lt_of_not_le fun h => tail_waits hs hc hn inv _ i rfl hin (mem_ready.1 hr).1 j h hj
  refine ⟨hjn, ?_⟩
  by_cases hji : j = i
  ·rw [hji]; exact hy.qOp hi H
  ·have := hdone _ _ H j (ready_mono hj hji)
   omega
 | succ f ih =>
  intro s a inv hfree hr hy H
  refine ⟨⟨i, hr⟩, fun j hj => ?_⟩
  have hun := (mem_ready.1 hr).1
  have hjn : j < n := Nat.lt_of_not_le fun h => tail_waits hs hc hn inv _ i rfl hin hun j h hj
  refine ⟨hjn, ?_⟩
  by_cases hji : j = i
  ·rw [hji]; exact hy.qOp hi H
  ·obtain ⟨hjun, oj, hoj, hall⟩ := mem_ready.1 hj
   have hnot : ∀ e ∈ oj.after, Region.binds md e = true → e.on ≠ i := by
    intro e he hb heq
    have hd := hall e he hb
    rw [heq, getD_both hun] at hd
    cases hd
   have hp := qOp_put hoj (hfree j oj hoj hji hjun hnot) (fun cs b => sel i oi cs b hi) (fun cs b => sel j oj cs b hoj) hy (H.2 j (ready_mono hj hji)).2
   refine qOp_mono (fun a' h3 => ih _ a' (inv.set hj hjn) ?_ (ready_mono hr (Ne.symm hji)) h3.1 ?_) hp
   ·intro k ok hk hki hkun hno
    refine hfree k ok hk hki ?_ hno
    by_cases hjk : j = k
    ·rw [← hjk]; exact hjun
    ·rwa [getD_set_ne true hjk] at hkun
   ·rw [Array.setIfInBounds_comm _ _ hji]
    exact h3.2
theorem Head_lex {n g : Nat} {Lq : Act → Prop} (hsel : Region.noSelect ops = true) (hs : Region.sinkB md ops n = true) (hc : Region.chainB md ops n = true) (hn : n < ops.size) (l : List Oper) :
  ∀ (k : Nat) (s : Array Bool) (a : Act), (∀ j, j < l.length → l[j]? = ops[k + j]?) → k + l.length = n → HeadInv md ops n s →
  Region.lexHead md ops g l.length k s = true → wpQuiet P ops C Lq l a →
  Head P md ops C n (fun s' a' => Region.seqB md ops g n s' = true ∧ Lq a') l.length s a := by
 induction l with
 | nil =>
  intro k s a _ hk _ hB h
  have hk' : k = n := by simpa using hk
  rw [← hk']
  exact ⟨by simpa [Region.lexHead] using hB, h⟩
 | cons o l ih =>
  intro k s a hl hk inv hB h
  have h0 : ops[k]? = some o := by simpa using (hl 0 (by simp)).symm
  simp only [List.length_cons] at hk hB
  simp only [Region.lexHead, Bool.and_eq_true] at hB
  have hkn : k < n := by omega
  have hr : k ∈ Region.ready md ops s := by simpa using hB.1.1
  have hq : qOp P ops C k (wpQuiet P ops C Lq l) a := by unfold qOp; simp only [h0]; exact h
  obtain ⟨v, hy, hK⟩ := yieldsIn_of_qOp h0 hq
  refine Head_first h0 hsel hs hc hn hkn (fun s' a' hL => seqB_ready hL.1) l.length s a inv (Region.free_spec h0 hB.1.2) hr hy (ih (k + 1) _ _ (fun j hj => ?_) (by omega) (inv.set hr hkn) hB.2 hK)
  have := hl (j + 1) (by simp; omega)
  simpa [Nat.add_assoc, Nat.add_comm 1 j] using this
theorem wp_region_quiet_tail {id : Nat} {Q : Exit → Act → World → Prop} {a : Act} {w : World} {l : List Oper} (n : Nat) (hm : P.follows .mixedOrders = true) (hB : Region.lexTailB .any l.toArray n = true)
  (hC : C { w with drawn := w.drawn + 1 }) (h : wpQuiet P l.toArray C (fun a' => ∀ w', C w' → wpList P l.toArray Q (l.drop n) a' w') (l.take n) a) : (Code.region id l.toArray true).wp P Q a w := by
 simp only [Region.lexTailB, Bool.and_eq_true, decide_eq_true_eq] at hB
 obtain ⟨⟨⟨⟨hsel, hn⟩, hs⟩, hc⟩, hlex⟩ := hB
 have hn' : n < l.length := by simpa using hn
 have htl : (l.take n).length = n := by simp; omega
 have hdl : (l.drop n).length = l.toArray.size - n := by simp
 have H := Head_lex (C := C) (md := .any) (g := l.toArray.size - n) hsel hs hc hn (l.take n) 0 (Array.replicate l.toArray.size false) a (fun j hj => by
  have hj' : j < n := by rw [htl] at hj; exact hj
  simp [hj']) (by simpa using htl) ⟨by simp, fun j oj _ hl => (by rw [getD_replicate_false] at hl; cases hl), fun t _ ht => getD_in (by simpa using ht) (getD_replicate_false _ _)⟩ (by rw [htl]; exact hlex) h
 refine wp_region_any hm ?_
 have R := wpAny_of_Head (Q' := Q) (g := l.toArray.size - n) (fun s a' w' hw hL => by
  have := wpAny_of_seq (md := .any) (Q' := Q) (l.drop n) n s a' w' (fun j => by simp [List.getElem?_drop]) (by rw [hdl]; exact hL.1) (hL.2 w' hw)
  rwa [hdl] at this) _ _ _ _ hC H
 rw [htl, show n + (l.toArray.size - n) = l.toArray.size by omega] at R
 exact R
theorem wp_region_grown_tail {id : Nat} {Q : Exit → Act → World → Prop} {a : Act} {w : World} {l : List Oper} (n : Nat) (hm : P.follows .mixedOrders = true) (hB : Region.lexTailB .any l.toArray n = true)
  (h : wpQuiet P l.toArray (fun w' => ∃ p : Regrown, w' = grow (redrawn w p.d) p.os) (fun a' => ∀ w', (∃ p : Regrown, w' = grow (redrawn w p.d) p.os) → wpList P l.toArray Q (l.drop n) a' w') (l.take n) a) : (Code.region id l.toArray true).wp P Q a w :=
 wp_region_quiet_tail (C := fun w' => ∃ p : Regrown, w' = grow (redrawn w p.d) p.os) n hm hB ⟨⟨w.drawn + 1, #[]⟩, by rw [grow_empty]; rfl⟩ h
end
end Go.Proofs.Ytlkcneneagifoaa
end
section
namespace Go.Proofs.Ytlkcneneagifoaa
open Go.RowKit Go.Sort
set_option linter.unusedVariables false
def CellsAt (W : World) (B : Nat) (t : TypeId) (cs : Array Value) : Prop := W.heap[B]? = some (.cells cs t (0, 0))
theorem CellsAt.lt {W : World} {B : Nat} {t : TypeId} {cs : Array Value} (h : CellsAt W B t cs) : B < W.heap.size := (Array.getElem?_eq_some_iff.1 h).1
theorem CellsAt.cell {W : World} {B : Nat} {t : TypeId} {cs : Array Value} (h : CellsAt W B t cs) (i : Nat) : W.cell? ⟨B, i, none⟩ = cs[i]? := by
 simp [World.cell?, show W.heap[B]? = _ from h]
theorem CellsAt.frozen {W : World} {B : Nat} {t : TypeId} {cs : Array Value} (h : CellsAt W B t cs) (i : Nat) : W.frozen? ⟨B, i, none⟩ = false := by simp [World.frozen?, show W.heap[B]? = _ from h]
theorem CellsAt.set {W : World} {B : Nat} {t : TypeId} {cs : Array Value} (h : CellsAt W B t cs) (i : Nat) (v : Value) : CellsAt (W.setCell ⟨B, i, none⟩ v) B t (cs.setIfInBounds i v) := by
 obtain ⟨hlt, hk⟩ := Array.getElem?_eq_some_iff.1 h
 show (W.heap.modify B _)[B]? = _
 rw [Array.getElem?_eq_getElem (by rw [Array.size_modify]; exact hlt), Array.getElem_modify_self, hk]
 rfl
theorem CellsAt.kept {W W' : World} {B : Nat} {t : TypeId} {cs : Array Value} (h : CellsAt W B t cs) (hb : W'.heap[B]? = W.heap[B]?) : CellsAt W' B t cs := hb.trans h
theorem CellsAt.below {W W' : World} {B : Nat} {t : TypeId} {cs : Array Value} (h : CellsAt W B t cs) (hb : Below W.heap.size W W') : CellsAt W' B t cs := h.kept (hb.block B h.lt)
theorem CellsAt.grown {W W' : World} {B : Nat} {t : TypeId} {cs : Array Value} {row : Option Nat} (h : CellsAt W B t cs) (hg : W.grownBy W' row) (hne : some B ≠ row) : CellsAt W' B t cs := h.kept (hg.block B h.lt hne)
def Rd8 (w : World) (a : Option Addr) (n : Nat) (f : Nat → Int) : Prop := ∀ i, i < n → ∃ b, a = some b ∧ b.block < w.heap.size ∧ w.cell? (b.add i) = some (.int .u8 (f i)) ∧ 0 ≤ f i ∧ f i ≤ 255
@[go_sem] theorem blk_add (b : Addr) (k : Nat) : (b.add k).block = b.block := by unfold Addr.add; split <;> rfl
theorem grownBy_of_below {w w' : World} (h : Below w.heap.size w w') (row : Option Nat) : w.grownBy w' row := ⟨h.os, h.tape, h.output, h.size, fun k hk _ => h.block k hk⟩
theorem Rd8.grown {W W' : World} {a : Option Addr} {n : Nat} {f : Nat → Int} {row : Option Nat} (h : Rd8 W a n f) (hg : W.grownBy W' row) (hne : ∀ b, a = some b → some b.block ≠ row) : Rd8 W' a n f := by
 intro i hi
 obtain ⟨b, hb, h1, h2, h3⟩ := h i hi
 refine ⟨b, hb, Nat.lt_of_lt_of_le h1 hg.size, ?_, h3⟩
 rw [← h2]
 have := hg.block b.block h1 (hne b hb)
 unfold World.cell?
 rw [blk_add, this]
theorem Rd8.cut {W : World} {a : Option Addr} {n p k : Nat} {f : Nat → Int} (h : Rd8 W a n f) (hp : p + k ≤ n) : Rd8 W (Option.map (fun x => x.add p) a) k (fun i => f (p + i)) := by
 intro i hi
 obtain ⟨b, rfl, h1, h2, h3⟩ := h (p + i) (by omega)
 refine ⟨b.add p, rfl, by rw [blk_add]; exact h1, ?_, h3⟩
 rw [← h2]
 congr 1
 unfold Addr.add
 by_cases h4 : p = 0 <;> by_cases h5 : i = 0 <;> simp [h4, h5]
 omega
theorem below_of_grownBy {A B : World} {n r : Nat} (h : A.grownBy B (some r)) (hn : n ≤ A.heap.size) (hr : n ≤ r) : Below n A B := ⟨h.os, h.tape, h.output, h.size, fun k hk => h.block k (by omega) (by simp; omega)⟩
theorem below_of_grownNone {A B : World} (h : A.grownBy B none) : Below A.heap.size A B := ⟨h.os, h.tape, h.output, h.size, fun k hk => h.block k hk (by simp)⟩
end Go.Proofs.Ytlkcneneagifoaa
end
