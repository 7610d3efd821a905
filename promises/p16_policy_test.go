package promises

import (
	"math"
	"testing"

	"fretwork/api"
	"fretwork/csr"
	"fretwork/dcsc"
	"fretwork/policy"
	"fretwork/pull"
	"fretwork/push"
)

func init() {
	maker(func(d *dice) api.Way { return api.Way(d.below(4)) })
	maker(func(d *dice) api.Form { return api.Form(d.below(4)) })
	maker(func(d *dice) api.Held { return d.held(api.PlusTimes, d.below(9)) })
	maker(func(d *dice) policy.Task {
		m := d.matrix()
		return policy.Task{Ring: d.ring(), Rows: m, Cols: columnsOf(m), X: d.held(api.PlusTimes, m.Cols), Set: d.set(1), Others: d.coin(), Way: api.Way(d.below(4))}
	})
}

// held is a vector in one of the forms.
func (d *dice) held(r api.Ring, n int) api.Held {
	if d.coin() {
		return api.Held{Form: api.Sparse, Vec: d.vec(r, n)}
	}
	return api.Held{Form: api.Full, Dense: denseOf(d.vec(r, n))}
}

func TestP16_1(t *testing.T) {
	for _, a := range append([]int64{10, 12, 16, 24, 40, -3, -4, -5, -7, -8, -9}, oddNumbers...) {
		for _, n := range append([]int64{10, 12, 16, 24, 40, -3, -4, -5, -7, -8, -9}, oddNumbers...) {
			way, form := api.Pull, api.Full
			if a <= n/4 {
				way = api.Push
			}
			if a <= n/8 {
				form = api.Sparse
			}
			for _, any := range []int{0, -1, 3, math.MaxInt} {
				want(t, "Direction", policy.Direction(api.Way(any), int(a), int(n)), way)
				want(t, "Shape", policy.Shape(api.Form(any), int(a), int(n)), form)
			}
			for _, asked := range []int{1, 2} {
				want(t, "Direction that is asked", policy.Direction(api.Way(asked), int(a), int(n)), api.Way(asked))
				want(t, "Shape that is asked", policy.Shape(api.Form(asked), int(a), int(n)), api.Form(asked))
			}
		}
	}
	want(t, "1 of 8", policy.Shape(api.AnyForm, 1, 8), api.Sparse)
	want(t, "2 of 8", policy.Shape(api.AnyForm, 2, 8), api.Full)
}

func TestP16_2(t *testing.T) {
	d := &dice{state: 2}
	for i := 0; i < 500; i++ {
		v := d.vec(api.PlusTimes, d.places())
		if d.coin() && len(v.Items) > 2 {
			v.Items = v.Items[:2]
		}
		for _, f := range []api.Form{0, 1, 2, 3, -1} {
			right := api.Held{Form: policy.Shape(f, len(v.Items), v.N)}
			size := v.N
			if right.Form == api.Sparse {
				right.Vec, size = v, len(v.Items)
			} else {
				right.Dense = denseOf(v)
			}
			h := policy.Hold(f, v)
			want(t, "Hold", h, right)
			want(t, "Vec", policy.Vec(h), v)
			want(t, "Dense", policy.Dense(h), denseOf(v))
			want(t, "Size", policy.Size(h), size)
		}
	}
	v := api.Vec{N: 2, Items: []api.Item{{Val: 4}}}
	for _, f := range []api.Form{0, 3, -1} {
		h := api.Held{Form: f, Vec: v, Dense: denseOf(v)}
		want(t, "Vec of no form", policy.Vec(h), api.Vec{})
		want(t, "Dense of no form", policy.Dense(h), api.Dense{})
		want(t, "Size of no form", policy.Size(h), 0)
	}
	other := api.Vec{N: 3, Items: []api.Item{{At: 1, Val: 9}, {At: 2, Val: 1}}}
	h := api.Held{Form: api.Sparse, Vec: v, Dense: denseOf(other)}
	want(t, "Vec", policy.Vec(h), v)
	want(t, "Dense", policy.Dense(h), denseOf(v))
	want(t, "Size", policy.Size(h), 1)
	h.Form = api.Full
	want(t, "Vec", policy.Vec(h), other)
	want(t, "Dense", policy.Dense(h), denseOf(other))
	want(t, "Size", policy.Size(h), 3)
	for _, bad := range badVecs() {
		want(t, "Hold of what can't be", policy.Hold(api.AnyForm, bad), api.Held{Form: api.Sparse})
		want(t, "Hold of what can't be", policy.Hold(api.Full, bad), api.Held{Form: api.Full})
		h := api.Held{Form: api.Sparse, Vec: bad}
		want(t, "what can't be", policy.Vec(h), api.Vec{})
		want(t, "what can't be", policy.Dense(h), api.Dense{})
		want(t, "what can't be", policy.Size(h), 0)
	}
	for _, bad := range badDenses() {
		h := api.Held{Form: api.Full, Dense: bad}
		want(t, "what can't be", policy.Vec(h), api.Vec{})
		want(t, "what can't be", policy.Dense(h), api.Dense{})
		want(t, "what can't be", policy.Size(h), 0)
	}
}

func TestP16_3(t *testing.T) {
	d := &dice{state: 3}
	ways := map[api.Way]int{}
	for i := 0; i < 1500; i++ {
		r := allRings[d.below(5)]
		rows, cols := d.below(6), d.below(6)
		m, x := d.matrixOf(r, rows, cols), d.held(r, cols)
		if d.coin() && x.Form == api.Sparse && len(x.Vec.Items) > 1 {
			x.Vec.Items = x.Vec.Items[:1]
		}
		// The columns are another matrix's: which of the two is asked is to be seen.
		task := policy.Task{Ring: r, Rows: m, Cols: columnsOf(d.matrixOf(r, rows, cols)), X: x, Set: d.set(1), Others: d.coin(), Way: api.Way(d.below(4))}
		way := policy.Direction(task.Way, push.Work(task.Cols, policy.Vec(x)), csr.Count(m))
		ways[way]++
		var right []api.Sum
		var re api.Errno
		if way == api.Push {
			right, re = push.Sums(r, task.Cols, policy.Vec(x), task.Set, task.Others)
		} else {
			right, re = pull.Sums(r, m, policy.Dense(x), task.Set, task.Others)
		}
		got, w, e := policy.Sums(task)
		want(t, "Sums", got, right)
		want(t, "its way", w, way)
		want(t, "its error", e, re)
		for _, none := range noRings {
			task.Ring = none
			got, w, e = policy.Sums(task)
			want(t, "no ring", e, api.ErrKind)
			want(t, "no way beside it", w, api.AnyWay)
			want(t, "nothing beside it", got, nil)
		}
		task.Ring, task.X = r, api.Held{Form: api.Sparse, Vec: api.Vec{N: cols + 1}}
		_, w, e = policy.Sums(task)
		want(t, "sizes", e, api.ErrSize)
		want(t, "no way beside it", w, api.AnyWay)
	}
	want(t, "both ways", ways[api.Push] > 100 && ways[api.Pull] > 100, true)
}

func TestP16_4(t *testing.T) {
	d := &dice{state: 4}
	for i := 0; i < 300; i++ {
		for _, r := range allRings {
			rows, cols := d.below(6), d.below(9)
			m, v, f, others := d.matrixOf(r, rows, cols), d.vec(r, cols), d.set(1), d.coin()
			for way := api.AnyWay; way <= api.Pull; way++ {
				for form := api.AnyForm; form <= api.Full; form++ {
					got, _, e := policy.Sums(policy.Task{Ring: r, Rows: m, Cols: dcsc.Of(m), X: policy.Hold(form, v), Set: f, Others: others, Way: way})
					want(t, "whichever way and form", got, sums(r, m, v, f, others))
					want(t, "its error", e, api.OK)
				}
			}
		}
	}
}

func TestP16_5(t *testing.T) {
	d := &dice{state: 5}
	for i := 0; i < 500; i++ {
		v := d.vec(api.PlusTimes, d.places())
		for form := api.AnyForm; form <= api.Full; form++ {
			h := policy.Hold(form, v)
			want(t, "what is held", policy.Vec(h), v)
			want(t, "no more than places", policy.Size(h) <= v.N, true)
			if form == api.AnyForm {
				want(t, "no more than by items", policy.Size(h) <= 8*len(v.Items)+7, true)
			}
		}
	}
}

func TestPolicyWhatever(t *testing.T) {
	whatever(t, 500, face{"policy.Direction", policy.Direction, false}, face{"policy.Shape", policy.Shape, false}, face{"policy.Hold", policy.Hold, false},
		face{"policy.Vec", policy.Vec, false}, face{"policy.Dense", policy.Dense, false}, face{"policy.Size", policy.Size, false}, face{"policy.Sums", policy.Sums, false})
}
