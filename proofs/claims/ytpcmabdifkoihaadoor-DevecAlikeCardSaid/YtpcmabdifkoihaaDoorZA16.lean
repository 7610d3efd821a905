/- Texts of a claim, joined. -/
import Derived.Test.YtpcmabdifkoihaaDoorZA15
set_option linter.unusedVariables false
set_option linter.unusedSimpArgs false
namespace Go.Proofs.YtpcmabdifkoihaaDoor
noncomputable section
namespace Ev
open Go
def iP(n:Int):Prop:= -9223372036854775808<=n/\n<=9223372036854775807
def gu(n:Int):Prop:=0<=n/\n<=18446744073709551615
theorem FJ{n:Int}(h:inK .i64 n):iP n:=by simpa [inK,iP,Lit.wf,IntKind.min,IntKind.max,IntKind.signed,IntKind.bits]using h
theorem wrap_u64(n:Int):IntKind.u64.wrap n=n % 18446744073709551616:=by
 simp [IntKind.wrap,IntKind.signed,IntKind.bits]
theorem nK(n:Int):gu (IntKind.u64.wrap n):=by rw [wrap_u64];unfold gu;omega
theorem IB{n:Int}(h:gu n):IntKind.u64.wrap (IntKind.i64.wrap n)=n:=by rw [wrap_u64,IntKind.wrap_i64];unfold gu at h;omega
def ofW(n:Int):Int×Int:=(if n<0 then -1 else 0,IntKind.u64.wrap n)
theorem Ce(n:Int):lf n=some (ofW n):=by
 unfold lf ofW;by_cases h:n<0
 .simp only [if_pos h]
 .simp only [if_neg h]
theorem IC(n:Int):gu (ofW n).2:=nK n
def Bx(a b:Int×Int):Bool:=decide (a.1<b.1)||(decide (a.1=b.1)&& decide (a.2<b.2))
theorem sk(a b:Int×Int):∃c,cX a b=some c/\(c<0↔Bx a b=true):=by
 obtain⟨a1,a2⟩:=a;obtain⟨b1,b2⟩:=b;unfold cX Bx;simp only;by_cases h2:a1<b1
 .rw [if_pos h2];exact⟨-1,rfl,by simp [h2]⟩
 rw [if_neg h2];by_cases h3:a1=b1
 .rw [if_pos h3];by_cases h4:a2<b2
  .rw [if_pos h4];exact⟨-1,rfl,by simp [h3,h4]⟩
  .rw [if_neg h4];by_cases h5:a1=b1/\a2=b2
   .rw [if_pos h5];exact⟨0,rfl,by simp [h3];omega⟩
   .rw [if_neg h5];exact⟨1,rfl,by simp [h3];omega⟩
 .rw [if_neg h3];by_cases h5:a1=b1/\a2=b2
  .exact absurd h5.1 h3
  .rw [if_neg h5];exact⟨1,rfl,by simp [h3];omega⟩
def pQ(a b:Int×Int):Int×Int:=if Bx b a=true then b else a
def pR(b:Bool):Int×Int:=if b=true then(0,1)else(0,0)
def DA(a b:Int×Int):Int×Int:=if IntKind.u64.wrap (a.2+b.2)<a.2 then(IntKind.i64.wrap (IntKind.i64.wrap (a.1+b.1)+1),IntKind.u64.wrap (a.2+b.2))else(IntKind.i64.wrap (a.1+b.1),IntKind.u64.wrap (a.2+b.2))
def lF(r:Int)(a b:Int×Int):Int×Int:=
 if r=1∨r=3∨r=4 then pQ a b else if r=2 then pR (!(decide (a.1=0/\a.2=0)&& decide (b.1=0/\b.2=0)))else if r=5 then DA a b else(0,0)
theorem Aj(a b:Int×Int):ji a b=some (DA a b):=by
 obtain⟨a1,a2⟩:=a;obtain⟨b1,b2⟩:=b;unfold ji DA;simp only;split<;>rfl
theorem vI(b:Bool):eW b=some (pR b):=by unfold eW pR;cases b<;>rfl
theorem Ak(r:Int)(a b:Int×Int):jk r a b=some (lF r a b):=by
 obtain⟨a1,a2⟩:=a;obtain⟨b1,b2⟩:=b
 have hl:((cX (b1,b2) (a1,a2)).bind λn=>if n<0 then some (b1,b2)else some (a1,a2))=some (pQ (a1,a2) (b1,b2)):=by
  obtain⟨c,h1,h2⟩:=sk (b1,b2) (a1,a2);simp only [h1,zbS];unfold pQ;by_cases hc:c<0
  .rw [if_pos hc,if_pos (h2.1 hc)]
  .rw [if_neg hc,if_neg (λh=>hc (h2.2 h))]
 unfold jk lF;simp only [hl,vI,Aj,zbS];by_cases h1:r=1
 .simp only [if_pos h1,if_pos (show r=1∨r=3∨r=4 from .inl h1)]
 by_cases h3:r=3
 .simp only [if_neg h1,if_pos h3,if_pos (show r=1∨r=3∨r=4 from .inr (.inl h3))]
 by_cases h4:r=4
 .simp only [if_neg h1,if_neg h3,if_pos h4,if_pos (show r=1∨r=3∨r=4 from .inr (.inr h4))]
 simp only [if_neg h1,if_neg h3,if_neg h4,if_neg (show¬(r=1∨r=3∨r=4)by omega)];by_cases h2:r=2
 .simp only [if_pos h2];by_cases ha:a1=0/\a2=0
  .by_cases hb:b1=0/\b2=0
   .simp [if_pos ha,if_pos hb,ha,hb]
   .rw [if_pos ha,if_neg hb,decide_eq_true ha,decide_eq_false hb];rfl
  .rw [if_neg ha,decide_eq_false ha];rfl
 .simp only [if_neg h2];by_cases h5:r=5
  .simp only [if_pos h5]
  .simp only [if_neg h5]
theorem uU{r:Int}{a b:Int×Int}(ha:gu a.2)(hb:gu b.2):gu (lF r a b).2:=by
 have h0:gu 0:=by unfold gu;omega
 have h1:gu 1:=by unfold gu;omega
 unfold lF pQ pR DA;split
 .split<;>assumption
 .split
  .split<;>assumption
  .split
   .split<;>exact nK _
   .exact h0
def gk(a:Int×Int):Int×Bool:=if a=ofW (IntKind.i64.wrap a.2)then(IntKind.i64.wrap a.2,true)else(0,false)
theorem Bw(n:Int):iP (IntKind.i64.wrap n):=by rw [IntKind.wrap_i64];unfold iP;omega
theorem uf{a:Int×Int}(h:gu a.2):eX a=some (gk a):=by
 obtain⟨a1,a2⟩:=a;unfold eX gk ofW;simp only [IB h,Prod.mk.injEq,and_true];by_cases hn:IntKind.i64.wrap a2<0
 .have hg:¬IntKind.i64.wrap a2 >= 0:=by omega
  simp only [if_pos hn,if_neg hg];by_cases h1:a1=0
  .have:¬a1= -1:=by omega
   simp only [if_pos h1,if_neg this]
  .simp only [if_neg h1];split<;>rfl
 .have hg:IntKind.i64.wrap a2 >= 0:=by omega
  simp only [if_neg hn,if_pos hg];by_cases h1:a1=0
  .simp only [if_pos h1]
  .simp only [if_neg h1];split<;>rfl
theorem tz(r:Int):jJ r=some (decide (1<=r)&& decide (r<=5)):=by
 unfold jJ;by_cases h1:r >= 1
 .rw [if_pos h1,decide_eq_true (show 1<=r from h1)];by_cases h2:r<=5
  .rw [if_pos h2,decide_eq_true h2];rfl
  .rw [if_neg h2,decide_eq_false h2];rfl
 .rw [if_neg h1,decide_eq_false (show¬1<=r from h1)];rfl
end Ev
end
noncomputable section
namespace Ev
open Go
def okR(r:Int):Bool:=decide (1<=r)&& decide (r<=5)
end Ev
end
noncomputable section
namespace Ev
open Go
def dm(p:Int):List It->Option Int
 | []=>none
 |x::l=>if x.1=p then some x.2 else dm p l
def Jc:Option Int->Int×Bool
 |some x=>(x,true)
 |none=>(0,false)
def Cf(p:Nat):Option Int->Option It
 |some x=>some ((p:Int),x)
 |none=>none
def nR(g:Nat->Option Int)(p:Nat)(v:Option Int):Nat->Option Int:=λq=>if q=p then v else g q
def bm(a k:Nat)(g:Nat->Option Int):List It:=(List.range' a k).filterMap λp=>Cf p (g p)
theorem DZ(a:Nat)(g:Nat->Option Int):bm a 0 g= []:=rfl
theorem fU(a k:Nat)(g:Nat->Option Int):bm a (k+1) g=(match g a with|some x=> [((a:Int),x)]|none=> [])++bm (a+1) k g:=by
 unfold bm;rw [List.range'_succ,List.filterMap_cons];cases h:g a<;>simp [Cf,h]
theorem my(a k m:Nat)(g:Nat->Option Int):bm a (k+m) g=bm a k g++bm (a+k) m g:=by
 unfold bm;rw [<-List.range'_append_1,List.filterMap_append]
theorem Ea(a k:Nat)(g:Nat->Option Int):bm a (k+1) g=bm a k g++(match g (a+k)with|some x=> [(((a+k:Nat):Int),x)]|none=> []):=by
 rw [my,fU,DZ,List.append_nil]
theorem lM{a k:Nat}{g g':Nat->Option Int}(h:∀p,a<=p->p<a+k->g p=g' p):bm a k g=bm a k g':=by
 induction k generalizing a with
 |zero=>rfl
 |succ k ih=>rw [fU,fU,h a (Nat.le_refl _) (by omega),ih λp h1 h2=>h p (by omega) (by omega)]
theorem vJ{a k:Nat}{g:Nat->Option Int}(h:∀p,a<=p->p<a+k->g p=none):bm a k g= []:=by
 induction k generalizing a with
 |zero=>rfl
 |succ k ih=>rw [fU,h a (Nat.le_refl _) (by omega),ih λp h1 h2=>h p (by omega) (by omega)];rfl
theorem oF{a k:Nat}{g:Nat->Option Int}{x:It}(h:x∈bm a k g):∃p:Nat,a<=p/\p<a+k/\x.1=(p:Int)/\g p=some x.2:=by
 unfold bm at h;obtain⟨p,hp,he⟩:=List.mem_filterMap.1 h;rw [List.mem_range'_1]at hp
 cases hg:g p with
 |none=>rw [hg]at he;simp [Cf]at he
 |some v=>rw [hg]at he;simp only [Cf,zsI]at he;subst he;exact⟨p,hp.1,hp.2,rfl,hg⟩
theorem oH(a k:Nat)(g:Nat->Option Int):(bm a k g).length<=k:=by
 have:=List.length_filterMap_le (λp=>Cf p (g p)) (List.range' a k)
 simpa [bm]using this
theorem Hq(a k:Nat)(g:Nat->Option Int)(b n:Int)(hb:b<(a:Int))(hn:((a+k:Nat):Int)<=n):asc b n (bm a k g)=true:=by
 induction k generalizing a b with
 |zero=>rfl
 |succ k ih=>
  rw [fU]
  cases h:g a with
  |none=>exact ih (a+1) b (by omega) (by omega)
  |some v=>
   show(decide (b<(a:Int))&& decide ((a:Int)<n)&& asc (a:Int) n (bm (a+1) k g))=true;rw [decide_eq_true hb,decide_eq_true (by omega),ih (a+1) a (by omega) (by omega)];rfl
theorem kU{p:Int}:∀{l:List It},(∀x∈l,x.1≠p)->dm p l=none
 | [],_=>rfl
 |x::l,h=>by
  unfold dm;rw [if_neg (h x List.mem_cons_self)];exact kU λy hy=>h y (List.mem_cons_of_mem _ hy)
theorem Cg{n:Int}:∀{l:List It} {a k:Nat},asc ((a:Int) - 1) n l=true->((a+k:Nat):Int)=n->l=bm a k λp=>dm (p:Int) l
 | [],a,k,h,hn=>(vJ λp _ _=>rfl).symm
 |x::l,a,k,h,hn=>by
  simp only [asc,Bool.and_eq_true,decide_eq_true_eq]at h;obtain⟨⟨h1,h2⟩,h3⟩:=h;obtain⟨q,hq⟩:∃q:Nat,x.1=(q:Int):=⟨x.1.toNat,by omega⟩;have hk:k=(q - a)+((k - (q - a) - 1)+1):=by omega
  rw [hk,my,fU]
  have e1:bm a (q - a) (λp=>dm (p:Int) (x::l))= []:=vJ λp p1 p2=>by
   refine kU λy hy=> ?_;rcases List.mem_cons.1 hy with rfl|hy
   .omega
   .have:=vH h3 y hy;omega
  have ea:a+(q - a)=q:=by omega
  have e2:dm ((a+(q - a):Nat):Int) (x::l)=some x.2:=by unfold dm;rw [if_pos (by omega)]
  have h3':asc (((q+1:Nat):Int) - 1) n l=true:=by rw [hq]at h3;simpa using h3
  have ih:=Cg (k:=k - (q - a) - 1) h3' (by omega);rw [e1,e2,ea]
  have e3:bm (q+1) (k - (q - a) - 1) (λp=>dm (p:Int) (x::l))=l:=by
   rw [lM (g':=λp=>dm (p:Int) l) λp p1 p2=>by
    show dm (p:Int) (x::l)=_
    rw [dm,if_neg (by omega)]]
   exact ih.symm
  rw [e3,List.nil_append,<-hq];rfl
def ko(n:Nat)(g:Nat->Option Int):List It:=bm 0 n g
theorem Eb{n:Int}{s:Sl It}(h:bK (n,s)=true):s.l=ko n.toNat λp=>dm (p:Int) s.l:=by
 simp only [bK,pw,Bool.and_eq_true,decide_eq_true_eq]at h;exact Cg (a:=0) (by simpa using h.2) (by omega)
theorem Ec{n:Int}{s:Sl It}{g:Nat->Option Int}(h0:0<=n)(h1:n<=4096)(hs:s.l=ko n.toNat g):bK (n,s)=true:=by
 simp only [bK,pw,hs,decide_eq_true h0,decide_eq_true h1,Bool.true_and];exact Hq _ _ _ _ _ (by omega) (by omega)
theorem Ch{n p:Nat}(hp:p<n)(g:Nat->Option Int)(v:Option Int):ko n (nR g p v)=(ko n g).filter (λx=>decide (x.1<(p:Int)))++((match v with|some x=> [((p:Int),x)]|none=> [])++(ko n g).filter (λx=>decide ((p:Int)<x.1))):=by
 have hn:n=p+((n - p - 1)+1):=by omega
 have split:∀g':Nat->Option Int,ko n g'=bm 0 p g'++((match g' p with|some x=> [((p:Int),x)]|none=> [])++bm (p+1) (n - p - 1) g'):=λg'=>by
  show bm 0 n g'=_;rw [hn,my,fU,Nat.zero_add,show p+(n - p - 1+1) - p - 1=n - p - 1 by omega]
 rw [split (nR g p v),split g];have a1:bm 0 p (nR g p v)=bm 0 p g:=lM λq _ q2=>by unfold nR;rw [if_neg (by omega)]
 have a2:bm (p+1) (n - p - 1) (nR g p v)=bm (p+1) (n - p - 1) g:=lM λq q1 _=>by unfold nR;rw [if_neg (by omega)]
 have a3:nR g p v p=v:=by unfold nR;rw [if_pos rfl]
 have m1:∀x∈bm 0 p g,x.1<(p:Int):=λx hx=>by obtain⟨q,_,q2,q3,_⟩:=oF hx;omega
 have m2:∀x∈bm (p+1) (n - p - 1) g,(p:Int)<x.1:=λx hx=>by obtain⟨q,q1,_,q3,_⟩:=oF hx;omega
 have f1:(bm 0 p g).filter (λx=>decide (x.1<(p:Int)))=bm 0 p g:=List.filter_eq_self.2 λx hx=>by simpa using m1 x hx
 have f2:(bm 0 p g).filter (λx=>decide ((p:Int)<x.1))= []:=List.filter_eq_nil_iff.2 λx hx=>by have:=m1 x hx;simp;omega
 have f3:(bm (p+1) (n - p - 1) g).filter (λx=>decide (x.1<(p:Int)))= []:=List.filter_eq_nil_iff.2 λx hx=>by have:=m2 x hx;simp;omega
 have f4:(bm (p+1) (n - p - 1) g).filter (λx=>decide ((p:Int)<x.1))=bm (p+1) (n - p - 1) g:=List.filter_eq_self.2 λx hx=>by simpa using m2 x hx
 rw [a1,a2,a3,List.filter_append,List.filter_append,List.filter_append,List.filter_append,f1,f2,f3,f4];cases g p<;>simp
end Ev
end
noncomputable section
namespace Ev
open Go
theorem Ci{n:Int}{s:Sl It}(h:bK (n,s)=true){j:Nat}(hj:j<s.l.length):0<=s.l[j].1/\s.l[j].1<n:=by
 simp only [bK,Bool.and_eq_true]at h
 have:=vH h.2 _ (List.getElem_mem hj);omega
theorem vK{n:Int}{s:Sl It}(h:bK (n,s)=true):0<=n/\n<=4096:=by
 simp only [bK,pw,Bool.and_eq_true,decide_eq_true_eq]at h;omega
theorem nS(p:Int):∀(l m:List It),dm p (l++m)=match dm p l with|some x=>some x|none=>dm p m
 | [],m=>rfl
 |x::l,m=>by
  simp only [List.cons_append,dm];by_cases h:x.1=p
  .rw [if_pos h,if_pos h]
  .rw [if_neg h,if_neg h];exact nS p l m
theorem Hr{n:Int}{s:Sl It}(h:bK (n,s)=true){j:Nat}(hj:j<s.l.length):dm (s.l[j].1) (s.l.take j)=none:=by
 simp only [bK,Bool.and_eq_true]at h;refine kU λx hx=> ?_;obtain⟨i,hi,rfl⟩:=List.getElem_of_mem hx;have hij:i<j:=by simp at hi;omega
 rw [List.getElem_take]
 have key:∀d i (hi:i+d+1<s.l.length),s.l[i].1<s.l[i+d+1].1:=by
  intro d
  induction d with
  |zero=>intro i hi;exact((asc_iff'.1 h.2) (i+1) hi).2.2 (by omega)
  |succ d ih=>intro i hi;have h1:=ih i (by omega);have h2:=((asc_iff'.1 h.2) (i+(d+1)+1) hi).2.2 (by omega);simp only [Nat.add_sub_cancel]at h2;exact Int.lt_trans h1 h2
 have:=key (j - i - 1) i (by omega)
 simp only [show i+(j - i - 1)+1=j by omega]at this;omega
theorem oD{v:Int×Sl It}(h:bK v=true):bL v=v:=by unfold bL;rw [if_pos h]
end Ev
end
noncomputable section
namespace Ev
open Go
theorem Al(s s':Sl It)(hok:okS 2 s)(hok':okS 2 s')(he:s.l=s'.l)(hl:s.l.length<=9223372036854775807):dW s s'=some true:=by
 unfold dW;rw [if_neg (by rw [he];simp)]
 obtain⟨q,h1,h2⟩:=eM (b:=dD s s') s.l.length (λj a=>a=(j:Int)) (λq=>q= .inl ())
  (by
   rintro j _ hj rfl;have hj':j<s'.l.length:=by rw [<-he];exact hj
   have e2:s'.l[j]=s.l[j]:=by simp only [he]
   simp only [dD,ez hok hj,ez hok' hj',e2,zbS,gg hj (by omega)];rw [if_pos (by omega)]
   exact .inl ⟨_,if_pos (by simp),rfl⟩)
  (by
   rintro _ rfl
   exact⟨_,if_neg (by omega),rfl⟩) 0 (Nat.zero_le _) 0 rfl
 subst h2;rw [h1];rfl
theorem Am(v v':Int×Sl It)(hok:okS 2 v.2)(hok':okS 2 v'.2)(hn:v.1=v'.1)(he:v.2.l=v'.2.l)(hl:v.2.l.length<=9223372036854775807):eD v v'=some true:=by
 obtain⟨n,s⟩:=v;obtain⟨n',s'⟩:=v';simp only at hn he hok hok' hl;unfold eD;simp only [if_pos hn,Al s s' hok hok' he hl,zbS]
end Ev
end
noncomputable section
namespace Ev
open Go
abbrev Ed:=Int×Int×Int
def ep(a b:Ed):Bool:=decide (a.1<b.1)||(decide (a.1=b.1)&& decide (a.2.1<b.2.1))
theorem Cj(a b:Ed):fO a b=some (ep a b):=by
 obtain⟨a1,a2,a3⟩:=a;obtain⟨b1,b2,b3⟩:=b;unfold fO ep;simp only;by_cases h1:a1<b1
 .simp [h1]
 .by_cases h2:a1=b1
  .by_cases h3:a2<b2
   .simp [h2,h3]
   .simp [h2,h3]
  .simp [h1,h2]
def NH(l:List Ed):Prop:=∀i j (hi:i<l.length) (hj:j<l.length),i<j->ep l[i] l[j]=true
theorem Ck{a b c:Ed}(h1:ep a b=true)(h2:ep b c=true):ep a c=true:=by
 simp only [ep,Bool.or_eq_true,Bool.and_eq_true,decide_eq_true_eq]at*;omega
theorem lN{α:Type}{w:Nat}{l:List α}{j:Nat}(hj:j<l.length):atS w (mo w l) (j:Int)=some l[j]:=by
 have:=ez (s:=mo w l) (w:=w) (tr l) (j:=j) (by rw [nB];exact hj)
 rw [this];congr 1;simp only [nB]
def rb{α:Type}(l:List α)(i:Nat)(x:α):List α:=l.take i++x::l.drop i
theorem jr{α:Type}{l:List α}{i:Nat}{x:α}(hi:i<=l.length):(rb l i x).length=l.length+1:=by unfold rb;simp;omega
theorem LE{α:Type}{l:List α}{i k:Nat}{x:α}(hi:i<=l.length)(hk:k<(l.take i++x::l.drop i).length)(hk2:k<l.length+1):(l.take i++x::l.drop i)[k]=if h1:k<i then l[k]'(by omega)else if h2:k=i then x else l[k - 1]'(by omega):=by
 rw [List.getElem_append];have ht:(l.take i).length=i:=by simp;omega
 by_cases h1:k<i
 .rw [dif_pos (by omega),dif_pos h1,List.getElem_take]
 .rw [dif_neg (by omega),dif_neg h1];by_cases h2:k=i
  .subst h2;simp [ht]
  .rw [dif_neg h2];obtain⟨m,hm⟩:∃m,k - (l.take i).length=m+1:=⟨k - i - 1,by omega⟩;simp only [hm,List.getElem_cons_succ,List.getElem_drop];congr 1;omega
theorem sm{α:Type}{l:List α}{i k:Nat}{x:α}(hi:i<=l.length)(hk:k<(rb l i x).length):(rb l i x)[k]=if h1:k<i then l[k]'(by omega)else if h2:k=i then x else l[k - 1]'(by rw [jr hi]at hk;omega):=LE hi hk (by rw [jr hi]at hk;exact hk)
theorem yr{α:Type}{l X:List α}{z x:α}{i:Nat}(hi:i<=l.length)(hl:X.length=l.length+1)(h:∀k (hk:k<X.length),X[k]=if h0:k<=i then(l++ [z])[k]'(by simp;omega)else(l++ [z])[k - 1]'(by simp;omega)):X.set i x=rb l i x:=by
 refine List.ext_getElem (by rw [List.length_set,hl,jr hi]) λk h1 h2=> ?_;have hk:k<X.length:=by simpa using h1
 rw [sm hi,List.getElem_set];by_cases c1:i=k
 .subst c1;rw [if_pos rfl,dif_neg (by omega),dif_pos rfl]
 rw [if_neg c1,h k hk];by_cases c2:k<i
 .rw [dif_pos (by omega),dif_pos c2,List.getElem_append_left (by omega)]
 .rw [dif_neg (by omega),dif_neg c2,dif_neg (λe=>c1 e.symm),List.getElem_append_left (by omega)]
theorem An{α:Type}{X:List α}{j k:Nat}{y:α}(hk:k<(X.set j y).length):(X.set j y)[k]=if j=k then y else X[k]'(by simpa using hk):=List.getElem_set hk
theorem Ee{α:Type}{A X:List α}{j:Nat}(hX:X.length=A.length)(hj:j<X.length)(hj0:0<j)(h:∀k (hk:k<X.length),X[k]=if h0:k<=j then A[k]'(by omega)else A[k - 1]'(by omega)):
  ∀k (hk:k<(X.set j (X[j - 1]'(by omega))).length),(X.set j (X[j - 1]'(by omega)))[k]=if h0:k<=j - 1 then A[k]'(by rw [List.length_set]at hk;omega)else A[k - 1]'(by rw [List.length_set]at hk;omega):=by
 intro k hk;have hk':k<X.length:=by simpa using hk
 rw [An];by_cases c:j=k
 .subst c;have e:=h (j - 1) (by omega);rw [dif_pos (by omega)]at e;rw [if_pos rfl,dif_neg (by omega)];exact e
 .rw [if_neg c,h k hk'];by_cases c2:k<=j
  .rw [dif_pos c2,dif_pos (by omega)]
  .rw [dif_neg c2,dif_neg (by omega)]
def ShI{α:Type}(A X:List α)(j:Nat):Prop:=X.length=A.length/\∀k (h1:k<X.length) (h2:k<A.length),X[k]=if h0:k<=j then A[k]else A[k - 1]'(by omega)
theorem Hs{A R:Type}{b:A->Option (A ⊕ R)}(at':Nat)(I:Nat->A->Prop)(Q:R->Prop)(hs:∀j a,at'<j->I j a->∃a',b a=some (.inl a')/\I (j - 1) a')(he:∀a,I at' a->∃r,b a=some (.inr r)/\Q r)(j:Nat)(hj:at'<=j)(a:A)(ha:I j a):∃r,bF b a=some r/\Q r:=by
 obtain⟨k,rfl⟩:∃k,j=at'+k:=⟨j - at',by omega⟩
 induction k generalizing a with
 |zero=>obtain⟨r,h1,h2⟩:=he a ha;exact⟨r,ir h1,h2⟩
 |succ k ih=>
  obtain⟨a',h1,h2⟩:=hs (at'+(k+1)) a (by omega) ha;obtain⟨r,h3,h4⟩:=ih a' (by omega) (by simpa using h2);exact⟨r,(jv h1).trans h3,h4⟩
theorem ShI.step{α:Type}{A X:List α}{j:Nat}(h:ShI A X j)(hj:j<X.length)(hj0:0<j):ShI A (X.set j (X[j - 1]'(by omega))) (j - 1):=by
 obtain⟨h1,h2⟩:=h;refine⟨by rw [List.length_set];exact h1,λk k1 k2=> ?_⟩;exact Ee h1 hj hj0 (λk hk=>h2 k hk (by omega)) k k1
theorem Jd{j:Nat}(h:0<j)(hn:j<=9223372036854775807):IntKind.i64.wrap ((j:Int) - 1)=((j - 1:Nat):Int):=by rw [wrap64 (by omega) (by omega)];omega
theorem OF(at':Nat)(A:List Ed)(B:List (Int×Int))(h0:0<A.length)(hAB:A.length=B.length)(hl:A.length<=1000000)(ha:at'<A.length):∃X Y,bF (cM (at':Int)) (A,B,((A.length - 1:Nat):Int))=some (.inl (X,Y))/\ShI A X at'/\ShI B Y at':=by
 obtain⟨r,h1,X,Y,rfl,h2,h3⟩:=Hs (b:=cM (at':Int)) at' (λj a=>∃X Y,a=(X,Y,(j:Int))/\j<A.length/\ShI A X j/\ShI B Y j) (λr=>∃X Y,r= .inl (X,Y)/\ShI A X at'/\ShI B Y at')
  (by
   rintro j _ hj ⟨X,Y,rfl,hjA,hX,hY⟩;have e1:=hX.1;have e2:=hY.1;simp only [cM];rw [if_pos (by omega),Jd (by omega) (by omega),lN (show j - 1<X.length by omega),lN (show j<X.length by omega),lN (show j - 1<Y.length by omega),lN (show j<Y.length by omega)]
   exact⟨_,rfl,_,_,rfl,by omega,hX.step (by omega) (by omega),hY.step (by omega) (by omega)⟩)
  (by
   rintro _ ⟨X,Y,rfl,hjA,hX,hY⟩
   exact⟨_,if_neg (by omega),X,Y,rfl,hX,hY⟩) (A.length - 1) (by omega) (A,B,((A.length - 1:Nat):Int)) ⟨A,B,rfl,by omega,⟨rfl,λk k1 k2=>by rw [dif_pos (by omega)]⟩,⟨rfl,λk k1 k2=>by rw [dif_pos (by omega)]⟩⟩
 exact⟨X,Y,h1,h2,h3⟩
structure LF(r:Int)(K:Ed->Prop)(P:Int×Int->Prop):Prop where
 lo:∀a,P a->gu a.2
 one:∀y,K y->P (ofW y.2.2)
 add:∀a b,P a->P b->P (lF r a b)
structure CI(K:Ed->Prop)(P:Int×Int->Prop)(c:Nat)(E:List Ed)(S:List (Int×Int)):Prop where
 len:E.length=S.length
 few:E.length<=c
 rise:NH E
 ends:∀x∈E,∃y,K y/\x.1=y.1/\x.2.1=y.2.1
 lo:∀x∈S,P x
theorem pU{a b a' b':Ed}(h1:a.1=a'.1)(h2:a.2.1=a'.2.1)(h3:b.1=b'.1)(h4:b.2.1=b'.2.1):ep a b=ep a' b':=by unfold ep;rw [h1,h2,h3,h4]
theorem CI.ins{K:Ed->Prop}{P:Int×Int->Prop}{c:Nat}{E:List Ed}{S:List (Int×Int)}(h:CI K P c E S){e:Ed}(he:K e){i:Nat}(hi:i<=E.length)(hb:∀k (hk:k<E.length),k<i->ep E[k] e=true)(ha:∀(hk:i<E.length),ep e E[i]=true){s:Int×Int}(hs:P s)(w:Int):CI K P (c+1) (rb E i (e.1,e.2.1,w)) (rb S i s):=by
 have hiS:i<=S.length:=by rw [<-h.len];exact hi
 refine⟨by rw [jr hi,jr hiS,h.len],by rw [jr hi];have:=h.few;omega,λa b h1 h2 hab=> ?_,λx hx=> ?_,λx hx=> ?_⟩
 .have hla:=h1;have hlb:=h2;rw [jr hi]at hla hlb;rw [sm hi,sm hi]
  have hafter:∀k (hk:k<E.length),i<=k->ep e E[k]=true:=λk hk hik=>by
   by_cases c:k=i
   .subst c;exact ha hk
   .exact Ck (ha (by omega)) (h.rise i k (by omega) hk (by omega))
  by_cases c1:a<i
  .rw [dif_pos c1];by_cases c2:b<i
   .rw [dif_pos c2];exact h.rise a b (by omega) (by omega) hab
   .rw [dif_neg c2];by_cases c3:b=i
    .rw [dif_pos c3];exact(pU (a:=E[a]) (b:=(e.1,e.2.1,w)) (a':=E[a]) (b':=e) rfl rfl rfl rfl).trans (hb a (by omega) c1)
    .rw [dif_neg c3];exact h.rise a (b - 1) (by omega) (by omega) (by omega)
  .rw [dif_neg c1,dif_neg (show¬b<i by omega),dif_neg (show¬b=i by omega)];by_cases c3:a=i
   .rw [dif_pos c3];exact(pU (a:=(e.1,e.2.1,w)) (b:=E[b - 1]) (a':=e) (b':=E[b - 1]) rfl rfl rfl rfl).trans (hafter (b - 1) (by omega) (by omega))
   .rw [dif_neg c3];exact h.rise (a - 1) (b - 1) (by omega) (by omega) (by omega)
 .unfold rb at hx;rcases List.mem_append.1 hx with hx|hx
  .exact h.ends x (List.mem_of_mem_take hx)
  .rcases List.mem_cons.1 hx with rfl|hx
   .exact⟨e,he,rfl,rfl⟩
   .exact h.ends x (List.mem_of_mem_drop hx)
 .unfold rb at hx;rcases List.mem_append.1 hx with hx|hx
  .exact h.lo x (List.mem_of_mem_take hx)
  .rcases List.mem_cons.1 hx with rfl|hx
   .exact hs
   .exact h.lo x (List.mem_of_mem_drop hx)
theorem OG(s:Sl Ed)(E:List Ed)(j:Nat)(hok:okS 3 s)(hj:j<s.l.length)(hE:E.length<=1000000):∃i:Nat,i<=E.length/\bF (dB s E (j:Int)) 0=some (.inl (i:Int))/\(∀k (hk:k<E.length),k<i->ep E[k] s.l[j]=true)/\(∀hk:i<E.length,ep E[i] s.l[j]=false):=by
 obtain⟨r,h1,i,rfl,h2⟩:=eM (b:=dB s E (j:Int)) E.length (λi a=>a=(i:Int)/\∀k (hk:k<E.length),k<i->ep E[k] s.l[j]=true) (λr=>∃i:Nat,r= .inl (i:Int)/\i<=E.length/\(∀k (hk:k<E.length),k<i->ep E[k] s.l[j]=true)/\(∀hk:i<E.length,ep E[i] s.l[j]=false))
  (by
   rintro i _ hi ⟨rfl,ha⟩;simp only [dB,lN hi,ez hok hj,zbS,Cj,gg hi (by omega)];rw [if_pos (by omega)]
   cases c:ep E[i] s.l[j]with
   |true=>
    refine .inl ⟨_,if_pos rfl,rfl,λk hk hki=> ?_⟩;by_cases e:k=i
    .subst e;exact c
    .exact ha k hk (by omega)
   |false=>
    exact .inr ⟨_,if_neg (by simp),i,rfl,by omega,ha,λ_=>c⟩)
  (by
   rintro _ ⟨rfl,ha⟩
   exact⟨_,if_neg (by omega),_,rfl,Nat.le_refl _,ha,λhk=>absurd hk (by omega)⟩) 0 (Nat.zero_le _) 0 ⟨rfl,λk _ h=>absurd h (by omega)⟩
 exact⟨i,h2.1,h1,h2.2⟩
theorem Ht(r:Int)(s:Sl Ed)(hok:okS 3 s)(hl:s.l.length<=5000)(K:Ed->Prop)(P:Int×Int->Prop)(hP:LF r K P)(hK:∀x∈s.l,K x):∃E S,bF (dC r s) ([],[],0)=some (.inl (E,S))/\CI K P s.l.length E S:=by
 obtain⟨q,h1,E,S,rfl,h2⟩:=eM (b:=dC r s) s.l.length (λj a=>∃E S,a=(E,S,(j:Int))/\CI K P j E S) (λq=>∃E S,q= .inl (E,S)/\CI K P s.l.length E S)
  (by
   rintro j _ hj ⟨E,S,rfl,hI⟩;have hfew:=hI.few;have hlen:=hI.len;obtain⟨i,hi,hp,hb,hnb⟩:=OG s E j hok hj (by omega);have hKj:K s.l[j]:=hK _ (List.getElem_mem hj);simp only [dC,hp,ez hok hj,zbS,Sum.elim_inl,Ce,gg hj (by omega)];rw [if_pos (by omega)];have happ1:app E ([(0,0,0)]:List Ed)=some (E++ [(0,0,0)]):=qh (by simp;unfold cE;omega);have happ2:app S ([(0,0)]:List (Int×Int))=some (S++ [(0,0)]):=qh (by simp;unfold cE;omega);have hW:IntKind.i64.wrap ((((E++([(0,0,0)]:List Ed)).length:Nat):Int) - 1)=(((E++([(0,0,0)]:List Ed)).length - 1:Nat):Int):=Jd (by simp) (by simp;omega)
   have hins:(∀hk:i<E.length,ep s.l[j] E[i]=true)->∃X Y,ShI (E++ [(0,0,0)]) X i/\ShI (S++ [(0,0)]) Y i/\i<X.length/\i<Y.length/\bF (cM (i:Int)) (E++ [(0,0,0)],S++ [(0,0)],(((E++([(0,0,0)]:List Ed)).length - 1:Nat):Int))=some (.inl (X,Y))/\bF (fH (i:Int)) (E++ [(0,0,0)],S++ [(0,0)],(((E++([(0,0,0)]:List Ed)).length - 1:Nat):Int))=some (.inl (X,Y))/\CI K P (j+1) (X.set i (s.l[j].1,s.l[j].2.1,0)) (Y.set i (ofW s.l[j].2.2)):=λhab=>by
    obtain⟨X,Y,g1,g2,g3⟩:=OF i (E++ [(0,0,0)]) (S++ [(0,0)]) (by simp) (by simp [hlen]) (by simp;omega) (by simp;omega);have lX:X.length=E.length+1:=by rw [g2.1];simp
    have lY:Y.length=S.length+1:=by rw [g3.1];simp
    refine⟨X,Y,g2,g3,by omega,by omega,g1,g1,?_⟩;rw [yr (l:=E) (z:=(0,0,0)) hi lX (λk hk=>g2.2 k hk (by simp;omega)),yr (l:=S) (z:=(0,0)) (by omega) lY (λk hk=>g3.2 k hk (by simp;omega))];exact hI.ins hKj hi hb hab (hP.one _ hKj) 0
   by_cases c:(i:Int)<(E.length:Int)
   .rw [if_pos c];have ci:i<E.length:=by omega
    simp only [lN ci,zbS,Cj]
    cases c2:ep s.l[j] E[i]with
    |true=>
     have c':ep (s.l[j].1,s.l[j].2.1,s.l[j].2.2) (E[i].1,E[i].2.1,E[i].2.2)=true:=c2;obtain⟨X,Y,g1,g2,g3,g4,g5,g6,g7⟩:=hins λ_=>c2;simp only [c',if_true,happ1,happ2,zbS,hW,g5,Sum.elim_inl,lN g3,lN g4,Int.toNat_natCast];exact .inl ⟨_,rfl,_,_,rfl,g7⟩
    |false=>
     have c':ep (s.l[j].1,s.l[j].2.1,s.l[j].2.2) (E[i].1,E[i].2.1,E[i].2.2)=false:=c2;have cS:i<S.length:=by omega
     simp only [c',Bool.false_eq_true,if_false,lN cS,zbS,Ak,Int.toNat_natCast];refine .inl ⟨_,rfl,_,_,rfl,?_⟩;refine⟨by rw [List.length_set];exact hI.len,by omega,hI.rise,hI.ends,λx hx=> ?_⟩;rcases List.mem_or_eq_of_mem_set hx with hx|rfl
     .exact hI.lo x hx
     .exact hP.add _ _ (hI.lo _ (List.getElem_mem cS)) (hP.one _ hKj)
   .rw [if_neg c];obtain⟨X,Y,g1,g2,g3,g4,g5,g6,g7⟩:=hins λhk=>absurd hk (by omega);simp only [happ1,happ2,zbS,hW,g6,Sum.elim_inl,lN g3,lN g4,Int.toNat_natCast]
    exact .inl ⟨_,rfl,_,_,rfl,g7⟩)
  (by
   rintro _ ⟨E,S,rfl,hI⟩
   exact⟨_,if_neg (by omega),E,S,rfl,hI⟩) 0 (Nat.zero_le _) ([],[],0) ⟨[],[],rfl,⟨rfl,Nat.le_refl _,λi j hi=>absurd hi (by simp),λx hx=>by simp at hx,λx hx=>by simp at hx⟩⟩
 exact⟨E,S,h1,h2⟩
end Ev
end
noncomputable section
namespace Ev
open Go
theorem Je(a:Int×Int):iP (gk a).1:=by
 unfold gk;split
 .exact Bw _
 .unfold iP;omega
structure CE(K:Ed->Prop)(c:Nat)(E:List Ed):Prop where
 few:E.length<=c
 rise:NH E
 ends:∀x∈E,∃y,K y/\x.1=y.1/\x.2.1=y.2.1
 vals:∀x∈E,iP x.2.2
theorem Cl(K:Ed->Prop)(P:Int×Int->Prop)(hP:∀a,P a->gu a.2)(c:Nat)(E:List Ed)(S:List (Int×Int))(h:CI K P c E S)(hc:c<=5000):∃r,bF (cN S) (E,0)=some r/\((r= .inr (⟨false,0,[]⟩,12)/\∃x,P x/\(gk x).2=false)∨∃E',r= .inl E'/\CE K c E'):=by
 have hfew:=h.few;have hlen:=h.len
 refine eM (b:=cN S) E.length (λj a=>∃X,a=(X,(j:Int))/\X.length=E.length/\(∀k (h1:k<X.length) (h2:k<E.length),X[k].1=E[k].1/\X[k].2.1=E[k].2.1)/\∀k (h1:k<X.length),k<j->iP X[k].2.2) (λr=>(r= .inr (⟨false,0,[]⟩,12)/\∃x,P x/\(gk x).2=false)∨∃E',r= .inl E'/\CE K c E')
  (by
   rintro j _ hj ⟨X,rfl,hX,hk,hv⟩;have hjX:j<X.length:=by omega
   have hjS:j<S.length:=by omega
   have hlo:=hP _ (h.lo _ (List.getElem_mem hjS));simp only [cN,lN hjS,lN hjX,zbS,gg hj (by omega),Int.toNat_natCast];have hn:eX (S[j].1,S[j].2)=some (gk S[j]):=uf hlo;rw [if_pos (by omega),hn]
   cases hb:(gk S[j]).2 with
   |true=>
    refine .inl ⟨(X.set j (X[j].1,X[j].2.1,(gk S[j]).1),((j+1:Nat):Int)),?_,_,rfl,by rw [List.length_set];exact hX,λk h1 h2=> ?_,λk h1 hkj=> ?_⟩
    .show(if(gk S[j]).2=true then _ else _)=_;rw [if_pos hb]
    .have h1':k<X.length:=by simpa using h1
     rw [An];by_cases e:j=k
     .subst e;rw [if_pos rfl];exact hk j h1' h2
     .rw [if_neg e];exact hk k h1' h2
    .have h1':k<X.length:=by simpa using h1
     rw [An];by_cases e:j=k
     .subst e;rw [if_pos rfl];exact Je _
     .rw [if_neg e];exact hv k h1' (by omega)
   |false=>
    refine .inr ⟨_,?_,.inl ⟨rfl,S[j],h.lo _ (List.getElem_mem hjS),hb⟩⟩;show(if(gk S[j]).2=true then _ else _)=_
    rw [if_neg (by rw [hb];simp)])
  (by
   rintro _ ⟨X,rfl,hX,hk,hv⟩;simp only [cN];refine⟨_,if_neg (by omega),.inr ⟨X,rfl,by omega,λi j hi hj hij=> ?_,λx hx=> ?_,λx hx=> ?_⟩⟩
   .have e1:=hk i hi (by omega);have e2:=hk j hj (by omega);rw [pU e1.1 e1.2 e2.1 e2.2];exact h.rise i j (by omega) (by omega) hij
   .obtain⟨i,hi,rfl⟩:=List.getElem_of_mem hx;have e1:=hk i hi (by omega);obtain⟨y,y1,y2,y3⟩:=h.ends _ (List.getElem_mem (show i<E.length by omega));exact⟨y,y1,e1.1.trans y2,e1.2.trans y3⟩
   .obtain⟨i,hi,rfl⟩:=List.getElem_of_mem hx
    exact hv i hi (by omega)) 0 (Nat.zero_le _) (E,0) ⟨E,rfl,rfl,λk _ _=>⟨rfl,rfl⟩,λk _ h=>absurd h (by omega)⟩
theorem sn(r:Int)(s:Sl Ed)(hr:okR r=true)(hok:okS 3 s)(hl:s.l.length<=5000)(K:Ed->Prop)(P:Int×Int->Prop)(hP:LF r K P)(hK:∀x∈s.l,K x):∃o,fv r s=some o/\((o=(⟨false,0,[]⟩,12)/\∃x,P x/\(gk x).2=false)∨∃E,o=(mo 3 E,0)/\CE K s.l.length E):=by
 obtain⟨E,S,h1,h2⟩:=Ht r s hok hl K P hP hK;obtain⟨q,h3,h4⟩:=Cl K P hP.lo _ E S h2 hl;unfold okR at hr;unfold fv;simp only [tz,hr,zbS,if_true,h1,Sum.elim_inl,h3];rcases h4 with⟨rfl,hx⟩|⟨E',rfl,h5⟩
 .exact⟨_,rfl,.inl ⟨rfl,hx⟩⟩
 .exact⟨_,rfl,.inr ⟨E',rfl,h5⟩⟩
def GoodV(v:Int×Sl It):Prop:=bK v=true/\okS 2 v.2/\∀x∈v.2.l,iP x.2
theorem Jf:GoodV (0,sb):=⟨rfl,uZ,λx hx=>by simp [sb]at hx⟩
def KOf(n:Int)(Q:Int->Prop)(y:Ed):Prop:=y.1=0/\0<=y.2.1/\y.2.1<n/\Q y.2.2
theorem OH(r:Int)(K:Ed->Prop):LF r K λa=>gu a.2:=⟨λa h=>h,λy hy=>IC _,λa b ha hb=>uU ha hb⟩
end Ev
end
noncomputable section
namespace Ev
open Go
end Ev
end
noncomputable section
namespace Ev
open Go
end Ev
end
noncomputable section
namespace Ev
open Go
end Ev
end
noncomputable section
namespace Ev
open Go
end Ev
end
noncomputable section
namespace Ev
open Go
end Ev
end
noncomputable section
namespace Ev
open Go
def hd:List It->List It->Int×Option Int×Option Int×List It×List It
 | [],[]=>(0,none,none,[],[])
 |x::l,[]=>(x.1,some x.2,none,l,[])
 | [],y::m=>(y.1,none,some y.2,[],m)
 |x::l,y::m=>if x.1<=y.1 then(if y.1<=x.1 then(y.1,some x.2,some y.2,l,m)else(x.1,some x.2,none,l,y::m))else(y.1,none,some y.2,x::l,m)
end Ev
end
noncomputable section
namespace Ev
open Go
end Ev
end
noncomputable section
namespace Ev
open Go
end Ev
end
noncomputable section
namespace Ev
open Go
theorem sd{v:Int×Sl It}(h:bK v=true):asc (-1) v.1 v.2.l=true:=by unfold bK at h;simp only [Bool.and_eq_true]at h;exact h.2
abbrev RR:=List It ⊕((Int×Sl It)×Int)
end Ev
end
noncomputable section
namespace Ev
open Go
theorem pV{j:Nat}(hj:j<1000000):qf .i64 (j:Int) 64=some ((j / 64:Nat):Int):=by
 unfold qf;rw [if_pos (by decide),Int.tdiv_eq_ediv_of_nonneg (by omega),wrap64 (by omega) (by omega)];rfl
theorem Ef{j:Nat}:sJ (j:Int) 64=some ((j % 64:Nat):Int):=by
 unfold sJ;rw [if_pos (by decide),Int.tmod_eq_emod_of_nonneg (by omega)];rfl
theorem FT{a b:Nat}(ha:a<18446744073709551616)(hb:b<18446744073709551616):sK .u64 (a:Int) (b:Int)=((a &&& b:Nat):Int):=by
 unfold sK;have hb':IntKind.u64.bits=64:=rfl;rw [hb',BitVec.toNat_and,BitVec.toNat_ofInt,BitVec.toNat_ofInt,wrap_u64];have e1:((a:Int)%((2 ^ 64:Nat):Int)).toNat=a:=by omega
 have e2:((b:Int)%((2 ^ 64:Nat):Int)).toNat=b:=by omega
 rw [e1,e2]
 have:a &&& b<2 ^ 64:=Nat.and_lt_two_pow a (by omega)
 omega
def eE(ws:List Int)(p:Nat):Bool:=match ws[p / 64]? with|some w=>w.toNat.testBit (p % 64)|none=>false
def mf(ws:List Int):Prop:=∀w∈ws,gu w
theorem LG(a k:Nat):a &&& 2 ^ k≠0↔a.testBit k=true:=by
 constructor
 .intro h
  cases hc:a.testBit k with
  |true=>rfl
  |false=>
   refine absurd (Nat.eq_of_testBit_eq λi=> ?_) h;rw [Nat.testBit_and,Nat.testBit_two_pow,Nat.zero_testBit];by_cases e:k=i
   .subst e;rw [hc];rfl
   .rw [decide_eq_false e,Bool.and_false]
 .intro h e
  have:(a &&& 2 ^ k).testBit k=false:=by rw [e];exact Nat.zero_testBit _
  rw [Nat.testBit_and,Nat.testBit_two_pow,h]at this;simp at this
theorem Ao{k:Nat}(hk:k<64):2 ^ k<18446744073709551616:=Nat.pow_lt_pow_right (by decide) hk
theorem rd(s:Sl Int)(p:Nat)(hok:okS 1 s)(hu:mf s.l)(hp:p<1000000):eU s (p:Int)=some (eE s.l p):=by
 unfold eU bJ eE;simp only [pV hp,zbS];rw [if_pos (by omega)];by_cases h:p / 64<s.l.length
 .rw [if_pos (by omega)];simp only [zbS,if_true,ez hok h];have hw:=hu _ (List.getElem_mem h);have hg:s.l[p / 64]? =some s.l[p / 64]:=List.getElem?_eq_getElem h;rw [hg];obtain⟨w,hw2⟩:=Int.eq_ofNat_of_zero_le hw.1;rw [hw2]at hw ⊢;have hk:p % 64<64:=Nat.mod_lt _ (by decide);have hpow:=Ao hk
  have hb:eC (p:Int)=some ((2 ^(p % 64):Nat):Int):=by
   unfold eC;simp only [Ef,zbS];have e:IntKind.u64.wrap ((p % 64:Nat):Int)=((p % 64:Nat):Int):=by rw [wrap_u64];omega
   rw [e];unfold EQ Mz;rw [if_pos (by omega)]
   have hmin:min (((p % 64:Nat):Int)).toNat IntKind.u64.bits=p % 64:=by
    have:IntKind.u64.bits=64:=rfl
    omega
   rw [hmin,Int.one_mul,wrap_u64];simp only [zbS];congr 1
   have:(2:Int)^(p % 64)=((2 ^(p % 64):Nat):Int):=by simp
   rw [this];clear this;generalize 2 ^(p % 64)=z at hpow ⊢;omega
  rw [hb];simp only [zbS];rw [FT (by have:=hw.2;omega) hpow];simp only [Int.toNat_natCast];have ht:=LG w (p % 64)
  cases hc:w.testBit (p % 64)with
  |false=>rw [hc]at ht;rw [if_neg (λh=>by have:=ht.1 (λe=>h (by rw [e];rfl));simp at this)]
  |true=>rw [hc]at ht;rw [if_pos (by have:=ht.2 rfl;omega)]
 .rw [if_neg (by omega)];simp only [zbS,Bool.false_eq_true,if_false];rw [List.getElem?_eq_none (by omega)]
end Ev
end
noncomputable section
namespace Ev
open Go
theorem Tf{α:Type}{w:Nat}{s:Sl α}(hs:okS w s){k:Nat}{x:α}(h:s.l[k]? =some x):atS w s (k:Int)=some x:=by
 have hk:=(List.getElem?_eq_some_iff.1 h).1;rw [ez hs hk,<-h,List.getElem?_eq_getElem hk]
theorem gN{ws:List Int}{p i k:Nat}{w:Int}(hp:p / 64=i)(hk:p % 64=k)(hw:ws[i]? =some w):eE ws p=w.toNat.testBit k:=by unfold eE;rw [hp,hk,hw]
theorem nT{ws:List Int}{p:Nat}(h:ws.length<=p / 64):eE ws p=false:=by unfold eE;rw [List.getElem?_eq_none h]
theorem OI{a b:Nat}(ha:a<18446744073709551616)(hb:b<18446744073709551616):orI .u64 (a:Int) (b:Int)=((a|||b:Nat):Int):=by
 unfold orI;have hb':IntKind.u64.bits=64:=rfl;rw [hb',BitVec.toNat_or,BitVec.toNat_ofInt,BitVec.toNat_ofInt,wrap_u64];have e1:((a:Int)%((2 ^ 64:Nat):Int)).toNat=a:=by omega
 have e2:((b:Int)%((2 ^ 64:Nat):Int)).toNat=b:=by omega
 rw [e1,e2]
 have:a|||b<2 ^ 64:=Nat.or_lt_two_pow (by omega) (by omega)
 omega
theorem LH{p:Nat}:EQ .u64 1 (IntKind.u64.wrap ((p % 64:Nat):Int))=some ((2 ^(p % 64):Nat):Int):=by
 have hk:p % 64<64:=Nat.mod_lt _ (by decide);have hpow:=Ao hk;have e:IntKind.u64.wrap ((p % 64:Nat):Int)=((p % 64:Nat):Int):=by rw [wrap_u64];omega
 rw [e];unfold EQ Mz;rw [if_pos (by omega)]
 have hmin:min (((p % 64:Nat):Int)).toNat IntKind.u64.bits=p % 64:=by
  have:IntKind.u64.bits=64:=rfl
  omega
 rw [hmin,Int.one_mul,wrap_u64];congr 1
 have:(2:Int)^(p % 64)=((2 ^(p % 64):Nat):Int):=by simp
 rw [this];clear this;generalize 2 ^(p % 64)=z at hpow ⊢;omega
theorem Cm(k i:Nat):eE (List.replicate k 0) i=false:=by
 unfold eE;rw [List.getElem?_replicate];split
 .rename_i h;split at h
  .simp only [zsI]at h;rw [<-h];simp
  .simp at h
 .rfl
end Ev
end
noncomputable section
namespace Ev
open Go
abbrev E3:=Int×Int×Int
def bel(a b:E3):Bool:=decide (a.1<b.1)||(decide (a.1=b.1)&& decide (a.2.1<b.2.1))
abbrev RC:=(List E3×List (Int×Int)×Int)⊕((List E3×List (Int×Int))⊕(Sl E3×Int))
abbrev Tt(l:List E3):Prop:=l.Pairwise λa b=>bel a b=true
end Ev
end
noncomputable section
namespace Ev
open Go
theorem yu{x:Nat}(h:x≠0):∃i,x.testBit i=true:=by
 by_cases hh:∃i,x.testBit i=true
 .exact hh
 .refine absurd (Nat.eq_of_testBit_eq (y:=0) λi=> ?_) h;rw [Nat.zero_testBit]
  cases hb:x.testBit i with
  |false=>rfl
  |true=>exact absurd ⟨i,hb⟩ hh
theorem LI{w k:Nat}(hw:w<18446744073709551616)(hk:k<64):uh .u64 (w:Int) (IntKind.u64.wrap ((k:Nat):Int))=some ((w / 2 ^ k:Nat):Int):=by
 have e:IntKind.u64.wrap ((k:Nat):Int)=((k:Nat):Int):=by rw [wrap_u64];omega
 rw [e];unfold uh Ka;rw [if_pos (by omega)]
 have hmin:min (((k:Nat):Int)).toNat IntKind.u64.bits=k:=by
  have:IntKind.u64.bits=64:=rfl
  omega
 rw [hmin]
 have:(2:Int)^ k=((2 ^ k:Nat):Int):=by simp
 rw [this,Int.fdiv_eq_ediv_of_nonneg _ (Int.natCast_nonneg _)];rfl
theorem Eg{w k:Nat}(hw:w<18446744073709551616)(h:w.testBit k=true):k<64:=by
 by_cases hk:k<64
 .exact hk
 .have:w<2 ^ k:=Nat.lt_of_lt_of_le (show w<2 ^ 64 by omega) (Nat.pow_le_pow_right (by decide) (by omega))
  rw [Nat.testBit_lt_two_pow this]at h;simp at h
theorem NI{x:Nat}(h0:x≠0)(h:x<18446744073709551616):∃k:Nat,TZ (x:Int)=some (k:Int)/\k<64:=by
 unfold TZ;rw [if_pos (by omega)];exact⟨_,rfl,by simpa using (Lib.lowest_bit 64 x h0 h).2⟩
theorem LJ{n6 j:Int}{w:Nat}(hw:w<18446744073709551616)(h0:0<=n6/\n6<=100)(h1:0<=j/\j<=100):(w=0->bF (eA n6 j w) ()=some (.inr (.inl ())))/\(w≠0->∃z,0<=z/\bF (eA n6 j w) ()=some (.inl z)):=by
 constructor
 .intro h;exact ir (by unfold eA;rw [if_neg (by omega)])
 .intro h;obtain⟨k,hk,hlt⟩:=NI h hw;refine⟨_,?_,ir (by unfold eA;rw [if_pos (by omega),hk];rfl)⟩;rw [wrap64 (n:=n6+1) (by omega) (by omega),wrap64 (n:=(n6+1)*64) (by omega) (by omega),wrap64 (n:=j*64) (by omega) (by omega),wrap64 (n:=j*64+(k:Int)) (by omega) (by omega),wrap64 (by omega) (by omega)];omega
theorem vL(s:Sl Int)(n:Nat)(hok:okS 1 s)(hu:mf s.l)(hl:s.l.length<=64)(hn:n<=4096):∃z,lh s (n:Int)=some z/\(z<0↔∀p,n<=p->eE s.l p=false):=by
 unfold lh bJ;have hm:aT (n:Int) 0=n:=by unfold aT;rw [if_neg (by omega)]
 rw [hm];simp only [pV (show n<1000000 by omega),zbS,Ef];rw [if_pos (by omega)];by_cases h:n / 64<s.l.length
 .rw [if_pos (by omega)];simp only [zbS,if_true,ez hok h];have hw:=hu _ (List.getElem_mem h);have hg:s.l[n / 64]? =some s.l[n / 64]:=List.getElem?_eq_getElem h;obtain⟨w,hw2⟩:=Int.eq_ofNat_of_zero_le hw.1;rw [hw2]at hw hg ⊢;have hwlt:w<18446744073709551616:=by have:=hw.2;omega
  rw [LI hwlt (Nat.mod_lt _ (by decide))];simp only [zbS];have hle:w / 2 ^(n % 64)<=w:=Nat.div_le_self _ _;have hdv:∀i,(w / 2 ^(n % 64)).testBit i=w.testBit (i+n % 64):=λi=>by rw [Nat.testBit_div_two_pow]
  by_cases h0:w / 2 ^(n % 64)=0
  .rw [if_neg (by omega)]
   have hsame:∀p,p / 64=n / 64->n<=p->eE s.l p=false:=λp hp hnp=>by
    rw [gN hp rfl hg]
    have:=hdv (p % 64 - n % 64)
    rw [h0,Nat.zero_testBit,show p % 64 - n % 64+n % 64=p % 64 by omega]at this;simpa using this.symm
   have hcut:pc 1 s (IntKind.i64.wrap ((n / 64:Nat)+1)) ((s.l.length:Nat):Int)=some ⟨s.nn,s.sz,s.l.drop (n / 64+1)⟩:=by
    rw [gg h (by omega)];unfold pc;rw [if_pos ⟨by omega,by omega,by omega,.inl (hok.resolve_left (by intro e;rw [e]at h;simp at h))⟩];simp only [Int.toNat_natCast];rw [List.take_of_length_le (by simp)]
   rw [hcut];simp only [zbS];have hdm:∀x∈s.l.drop (n / 64+1),gu x:=λx hx=>hu x (List.mem_of_mem_drop hx);have hdl:(s.l.drop (n / 64+1)).length+(n / 64+1)=s.l.length:=by simp;omega
   have hdg:∀i,(s.l.drop (n / 64+1))[i]? =s.l[n / 64+1+i]? :=λi=>List.getElem?_drop;generalize s.l.drop (n / 64+1)=d at hdm hdl hdg
   have hget:∀i (hi:i<d.length) (h2:n / 64+1+i<s.l.length),d[i]=s.l[n / 64+1+i]:=λi hi h2=>by
    have:=hdg i
    rw [List.getElem?_eq_getElem hi,List.getElem?_eq_getElem h2]at this;exact Option.some.inj this
   obtain⟨q,q1,q2⟩:=eM (b:=gb ((n / 64:Nat):Int) ⟨s.nn,s.sz,d⟩) d.length (λj a=>a=(j:Int)/\∀i (h:i<d.length),i<j->d[i]=0) (λq=>(∃z,q= .inl z/\0<=z/\∃i,∃h:i<d.length,d[i]≠0)∨(q= .inr (.inl ())/\∀i (h:i<d.length),d[i]=0))
    (by
     rintro j _ hj ⟨rfl,ha⟩;have hok':okS 1 (⟨s.nn,s.sz,d⟩:Sl Int):= .inr (hok.resolve_left (by intro e;rw [e]at h;simp at h));have hjl:j<64:=by omega
     have hv:=hdm _ (List.getElem_mem hj);simp only [gb,ez hok' hj,zbS];rw [if_pos (show(j:Int)<((d.length:Nat):Int)by omega)];obtain⟨v,hv2⟩:=Int.eq_ofNat_of_zero_le hv.1;have hvlt:v<18446744073709551616:=by have:=hv.2;omega
     have hin:=LJ (n6:=((n / 64:Nat):Int)) (j:=(j:Int)) hvlt ⟨by omega,by omega⟩ ⟨by omega,by omega⟩;rw [hv2];by_cases v0:v=0
     .rw [hin.1 v0];refine .inl ⟨_,rfl,by rw [gg hj (by omega)],λi hi hij=> ?_⟩;by_cases e:i=j
      .subst e;omega
      .exact ha i hi (by omega)
     .obtain⟨z,z0,hz⟩:=hin.2 v0;rw [hz]
      exact .inr ⟨_,rfl,.inl ⟨z,rfl,z0,j,hj,by omega⟩⟩)
    (by
     rintro _ ⟨rfl,ha⟩
     refine⟨_,if_neg (show¬((d.length:Nat):Int)<((d.length:Nat):Int)by omega),.inr ⟨rfl,λi hi=>ha i hi hi⟩⟩) 0 (Nat.zero_le _) 0 ⟨rfl,λi hi h0=>absurd h0 (by omega)⟩
   rw [q1];rcases q2 with⟨z,rfl,z0,i,hi,hne⟩|⟨rfl,hz⟩
   .refine⟨z,rfl,?_⟩;constructor
    .intro hh;omega
    .intro hh;exfalso;have hi':n / 64+1+i<s.l.length:=by omega
     rw [hget i hi hi']at hne;have hv:=hu _ (List.getElem_mem hi');obtain⟨v,hv2⟩:=Int.eq_ofNat_of_zero_le hv.1;rw [hv2]at hne hv;obtain⟨k,hk⟩:=yu (x:=v) (by omega);have hk2:=Eg (by have:=hv.2;omega) hk
     have:=hh (64*(n / 64+1+i)+k) (by omega)
     rw [gN (i:=n / 64+1+i) (k:=k) (w:=(v:Int)) (by omega) (by omega) (by rw [List.getElem?_eq_getElem hi',hv2])]at this;simp only [Int.toNat_natCast]at this;rw [hk]at this;simp at this
   .refine⟨-1,rfl,?_⟩;refine⟨λ_ p hp=> ?_,λ_=>by decide⟩;by_cases e:p / 64=n / 64
    .exact hsame p e hp
    .by_cases hlen:p / 64<s.l.length
     .have hd:p / 64 - (n / 64+1)<d.length:=by omega
      have:=hz _ hd
      rw [hget _ hd (by omega)]at this;rw [gN (w:=0) rfl rfl (by rw [List.getElem?_eq_getElem hlen,<-this];congr 2;omega)];simp
     .exact nT (by omega)
  .rw [if_pos (by omega)];obtain⟨k,hk,hk2⟩:=NI h0 (by omega);rw [hk];refine⟨_,rfl,?_⟩;rw [wrap64 (by omega) (by omega)];constructor
   .intro hh;omega
   .intro hh;exfalso;obtain⟨i,hi⟩:=yu h0;rw [hdv]at hi
    have:=Eg hwlt hi
    have h2:=hh (64*(n / 64)+(i+n % 64)) (by omega);rw [gN (i:=n / 64) (k:=i+n % 64) (by omega) (by omega) hg]at h2;simp only [Int.toNat_natCast]at h2;rw [hi]at h2;simp at h2
 .rw [if_neg (by omega)];simp only [zbS,Bool.false_eq_true,if_false];refine⟨-1,rfl,?_⟩;exact⟨λ_ p hp=>nT (by omega),λ_=>by decide⟩
theorem nU{n:Int}(h:0<=n/\n<=4096):fP n=some ((n+63)/ 64):=by
 unfold fP;have e1:aT n 0=n:=by unfold aT;rw [if_neg (by omega)]
 have e2:bM n 4096=n:=by unfold bM;rw [if_neg (by omega)]
 rw [e1,e2,wrap64 (by omega) (by omega)];unfold qf;rw [if_pos (by decide),Int.tdiv_eq_ediv_of_nonneg (by omega),wrap64 (by omega) (by omega)];rfl
def um(ws:List Int):List Int:=((List.range (64*ws.length)).filter (eE ws)).map λp:Nat=>(p:Int)
def ld(n:Int):Bool:=decide (0<=n)&& decide (n<=4096)
def so(ws:List Int)(n:Int):Bool:=ld n &&(decide ((ws.length:Int)=(n+63)/ 64)&&(um ws).all λp=>decide (p<n))
theorem places_mem{ws:List Int}{p:Int}:p∈um ws↔0<=p/\eE ws p.toNat=true:=by
 unfold um;simp only [List.mem_map,List.mem_filter,List.mem_range];constructor
 .rintro⟨q,⟨h1,h2⟩,rfl⟩;exact⟨by omega,by simpa using h2⟩
 .rintro⟨h1,h2⟩;refine⟨p.toNat,⟨?_,h2⟩,by omega⟩;by_cases hh:p.toNat<64*ws.length
  .exact hh
  .rw [nT (by omega)]at h2;simp at h2
theorem vM(s:Sl Int)(n:Int)(hok:okS 1 s)(hu:mf s.l)(hl:s.l.length<=9223372036854775807):jO s n=some (so s.l n):=by
 unfold jO so ld;by_cases h1:0<=n
 .rw [if_pos (show n >= 0 from h1),decide_eq_true h1];by_cases h2:n<=4096
  .rw [if_pos h2,decide_eq_true h2,nU ⟨h1,h2⟩];simp only [zbS,Bool.and_self,Bool.true_and];by_cases h3:((s.l.length:Nat):Int)=(n+63)/ 64
   .rw [if_pos h3,decide_eq_true h3];obtain⟨k,rfl⟩:=Int.eq_ofNat_of_zero_le h1;obtain⟨z,z1,z2⟩:=vL s k hok hu (by omega) (by omega);rw [z1];simp only [zbS,Bool.true_and]
    have key:(um s.l).all (λp=>decide (p<(k:Int)))=true↔z<0:=by
     rw [z2,List.all_eq_true];constructor
     .intro h p hp
      cases hb:eE s.l p with
      |false=>rfl
      |true=>have:=h (p:Int) (places_mem.2 ⟨by omega,by simpa using hb⟩);simp at this;omega
     .intro h p hp;obtain⟨p0,p1⟩:=places_mem.1 hp;rw [decide_eq_true_eq];by_cases hh:p<(k:Int)
      .exact hh
      .rw [h p.toNat (by omega)]at p1;simp at p1
    by_cases hz:z<0
    .rw [if_pos hz,key.2 hz]
    .rw [if_neg hz,Bool.eq_false_iff.2 λe=>hz (key.1 e)]
   .rw [if_neg h3,decide_eq_false h3];simp
  .rw [if_neg h2,decide_eq_false h2];simp
 .rw [if_neg (show¬n >= 0 from h1),decide_eq_false h1];simp
end Ev
end
noncomputable section
namespace Ev
open Go
def sr(d:Int×Sl Int×Sl Int):Bool:=so d.2.1.l d.1 &&(decide ((d.2.2.l.length:Int)=d.1)&&(List.range d.2.2.l.length).all λi=>decide (d.2.2.l.getD i 0=0)||eE d.2.1.l i)
theorem FK{l:List Int}{i:Nat}(h:i<l.length):l.getD i 0=l[i]:=by rw [List.getD_eq_getElem?_getD,List.getElem?_eq_getElem h];rfl
theorem all_range{n:Nat}{f:Nat->Bool}:(List.range n).all f=true↔∀i,i<n->f i=true:=by
 rw [List.all_eq_true];exact⟨λh i hi=>h i (by simpa using hi),λh i hi=>h i (by simpa using hi)⟩
theorem yn{n:Nat}{f:Nat->Bool}{i:Nat}(hi:i<n)(h:f i=false):(List.range n).all f=false:=by
 rw [Bool.eq_false_iff];intro e;have:=all_range.1 e i hi;rw [h]at this;simp at this
structure OkD(d:Int×Sl Int×Sl Int):Prop where
 has:okS 1 d.2.1
 bits:mf d.2.1.l
 vals:okS 1 d.2.2
 v64:∀x∈d.2.2.l,iP x
 hl:d.2.1.l.length<=9223372036854775807
 vl:d.2.2.l.length<=9223372036854775807
theorem vN{d:Int×Sl Int×Sl Int}(h:OkD d):jP d=some (sr d):=by
 obtain⟨n,s,t⟩:=d;obtain⟨h1,h2,h3,h4,h5,h6⟩:=h;simp only at h1 h2 h3 h4 h5 h6;unfold jP sr;simp only [vM s n h1 h2 h5,zbS]
 cases hr:so s.l n with
 |false=>simp
 |true=>
  simp only [if_true,Bool.true_and];by_cases hn:((t.l.length:Nat):Int)=n
  .rw [if_neg (λh=>h hn),decide_eq_true hn];simp only [Bool.true_and];have hb:n<=4096:=by unfold so ld at hr;simp only [Bool.and_eq_true,decide_eq_true_eq]at hr;exact hr.1.2
   obtain⟨q,q1,q2⟩:=eM (b:=fJ s t) t.l.length (λj a=>a=(j:Int)/\∀i,i<j->(decide (t.l.getD i 0=0)||eE s.l i)=true) (λq=>((List.range t.l.length).all (λi=>decide (t.l.getD i 0=0)||eE s.l i)=true/\q= .inl ())∨((List.range t.l.length).all (λi=>decide (t.l.getD i 0=0)||eE s.l i)=false/\q= .inr false))
    (by
     rintro j _ hj ⟨rfl,ha⟩;have hh:=rd s j h1 h2 (by omega);have hd:=FK hj;simp only [fJ,ez h3 hj,zbS,hh,gg hj (by omega)];rw [if_pos (by omega)]
     have next:(decide (t.l.getD j 0=0)||eE s.l j)=true->∀i,i<j+1->(decide (t.l.getD i 0=0)||eE s.l i)=true:=λh i hi=>by
      by_cases e:i=j
      .rw [e];exact h
      .exact ha i (by omega)
     by_cases h0:t.l[j]=0
     .rw [if_neg (λh=>h h0)];exact .inl ⟨_,rfl,rfl,next (by rw [hd,decide_eq_true h0];rfl)⟩
     .rw [if_pos h0]
      cases hb:eE s.l j with
      |true=>exact .inl ⟨_,rfl,rfl,next (by rw [hb];simp)⟩
      |false=>exact .inr ⟨_,rfl,.inr ⟨yn hj (by rw [hd,hb,decide_eq_false h0];rfl),rfl⟩⟩)
    (by
     rintro _ ⟨rfl,ha⟩
     exact⟨_,if_neg (by omega),.inl ⟨all_range.2 ha,rfl⟩⟩) 0 (Nat.zero_le _) 0 ⟨rfl,λi hi=>absurd hi (by omega)⟩
   rw [q1];rcases q2 with⟨e,rfl⟩|⟨e,rfl⟩<;>rw [e]<;>rfl
  .rw [if_pos hn,decide_eq_false hn];simp
end Ev
end
noncomputable section
namespace Ev
open Go
theorem sizeF_iff{n:Int}:ld n=true↔0<=n/\n<=4096:=by unfold ld;simp
end Ev
end
noncomputable section
namespace Ev
open Go
abbrev Dn:=Int×Sl Int×Sl Int
def lk(d:Dn):Dn:=if sr d=true then d else(0,sb,sb)
end Ev
end
noncomputable section
namespace Ev
open Go
end Ev
end
noncomputable section
namespace Ev
open Go
end Ev
end
noncomputable section
namespace Ev
open Go
theorem Ap{p y:Int}:∀{l:List It},dm p l=some y->(p,y)∈l
 |x::l,h=>by
  unfold dm at h;split at h
  .rename_i e;simp only [zsI]at h;rw [<-e,<-h];exact List.mem_cons_self
  .exact List.mem_cons_of_mem _ (Ap h)
theorem sizeF_iff2{n:Int}:ld n=true↔0<=n/\n<=4096:=by unfold ld;simp
def mz(n:Nat)(f:Nat->Int):List Int:=(List.range n).map f
theorem jQ(n:Nat)(f:Nat->Int):(mz n f).length=n:=by unfold mz;simp
theorem iU{n k:Nat}(f:Nat->Int)(h:k<n):(mz n f)[k]? =some (f k):=by
 unfold mz;rw [List.getElem?_map,List.getElem?_range h];rfl
theorem Hu{n k:Nat}(f:Nat->Int)(h:k<n):(mz n f).getD k 0=f k:=by rw [List.getD_eq_getElem?_getD,iU f h];rfl
theorem vO{n k:Nat}(f:Nat->Int)(v:Int)(h:k<n):(mz n f).set k v=mz n λi=>if i=k then v else f i:=by
 refine List.ext_getElem? λi=> ?_;rw [List.getElem?_set];by_cases hi:i<n
 .by_cases e:k=i
  .subst e;rw [if_pos rfl,if_pos (by rw [jQ];omega),iU _ hi,if_pos rfl]
  .rw [if_neg e,iU _ hi,iU _ hi,if_neg (Ne.symm e)]
 .rw [if_neg (by omega)];rw [List.getElem?_eq_none (by rw [jQ];omega),List.getElem?_eq_none (by rw [jQ];omega)]
theorem pW{n:Nat}{f g:Nat->Int}(h:∀k,k<n->f k=g k):mz n f=mz n g:=by
 unfold mz;refine List.map_congr_left λk hk=>h k ?_;simpa using hk
theorem Hv(n:Nat):List.replicate n (0:Int)=mz n λ_=>0:=by
 refine List.ext_getElem? λi=> ?_;by_cases hi:i<n
 .rw [iU _ hi,List.getElem?_replicate,if_pos hi]
 .rw [List.getElem?_eq_none (by simp;omega),List.getElem?_eq_none (by rw [jQ];omega)]
theorem Jg{n:Nat}{f:Nat->Int}{x:Int}(h:x∈mz n f):∃k,k<n/\f k=x:=by
 unfold mz at h;obtain⟨k,hk,rfl⟩:=List.mem_map.1 h;exact⟨k,by simpa using hk,rfl⟩
theorem mem_places{p:Int}{l:List It}:p∈l.map (·.1)↔∃y,dm p l=some y:=by
 induction l with
 |nil=>simp [dm]
 |cons x l ih=>
  simp only [List.map_cons,List.mem_cons,dm];by_cases h:x.1=p
  .rw [if_pos h];exact⟨λ_=>⟨_,rfl⟩,λ_=> .inl h.symm⟩
  .rw [if_neg h,<-ih];exact⟨λh1=>h1.resolve_left (Ne.symm h),.inr⟩
end Ev
end
noncomputable section
namespace Ev
open Go
end Ev
end
noncomputable section
namespace Ev
open Go
theorem Jh{d:Dn}(h:sr d=true):lk d=d:=by unfold lk;rw [if_pos h]
end Ev
end
noncomputable section
namespace Ev
open Go
structure DV(d:Dn)(n:Nat)(f:Nat->Option Int):Prop where
 num:d.1=(n:Int)
 le:n<=4096
 has:okS 1 d.2.1
 bits:mf d.2.1.l
 len:d.2.1.l.length=(n+63)/ 64
 vals:okS 1 d.2.2
 vl:d.2.2.l=mz n λp=>(f p).getD 0
 at_:∀p,eE d.2.1.l p=(f p).isSome
 none_:∀p,n<=p->f p=none
 v64:∀p x,f p=some x->iP x
theorem DV.ok{d:Dn}{n:Nat}{f:Nat->Option Int}(h:DV d n f):OkD d:=by
 refine⟨h.has,h.bits,h.vals,λx hx=> ?_,?_,?_⟩
 .rw [h.vl]at hx;obtain⟨k,hk,rfl⟩:=Jg hx
  cases e:f k with
  |none=>simp [iP]
  |some y=>exact h.v64 k y e
 .have:=h.len;have:=h.le;omega
 .have:=h.le;rw [h.vl,jQ];omega
theorem DV.right{d:Dn}{n:Nat}{f:Nat->Option Int}(h:DV d n f):sr d=true:=by
 unfold sr so;rw [h.num,h.vl,jQ];have hl:=h.le;have hw:=h.len;simp only [Bool.and_eq_true,decide_eq_true_eq,List.all_eq_true];refine⟨⟨sizeF_iff2.2 ⟨by omega,by omega⟩,by omega,λp hp=> ?_⟩,trivial,λi hi=> ?_⟩
 .obtain⟨p0,p1⟩:=places_mem.1 hp;rw [h.at_]at p1;by_cases hlt:p.toNat<n
  .omega
  .rw [h.none_ _ (by omega)]at p1;simp at p1
 .have hi':i<n:=by simpa using hi
  rw [Hu _ hi',h.at_];cases f i<;>simp
theorem DV.congr{d:Dn}{n:Nat}{f g:Nat->Option Int}(h:DV d n f)(e:∀p,f p=g p):DV d n g:=by
 have:f=g:=funext e
 rw [<-this];exact h
theorem Ji{k:Int}{t:Sl It}(h:bK (k,t)=true){p:Int}{y:Int}(hp:dm p t.l=some y):0<=p/\p<k:=by
 obtain⟨x,hx,hxp⟩:=List.mem_map.1 (mem_places.2 ⟨y,hp⟩);obtain⟨j,hj,rfl⟩:=List.mem_iff_getElem.1 hx
 have:=Ci h hj
 omega
end Ev
end
end Go.Proofs.YtpcmabdifkoihaaDoor
