package push

import (
	"container/heap"

	"fretwork/api"
	"fretwork/ring"
)

// head is what is left of a list of sums; it is never empty.
type head struct {
	list int
	rest []api.Sum
}

// heads are compared by their first places, at one place by their lists' numbers.
type heads []head

func (h heads) Len() int { return len(h) }

func (h heads) Less(i, k int) bool {
	a, b := h[i], h[k]
	if a.rest[0].At != b.rest[0].At {
		return a.rest[0].At < b.rest[0].At
	}
	return a.list < b.list
}

func (h heads) Swap(i, k int) { h[i], h[k] = h[k], h[i] }

// queue is a heap of heads.
type queue struct{ heads }

// Push puts a head in.
func (q *queue) Push(x any) { q.heads = append(q.heads, x.(head)) }

// Pop takes the last head out.
func (q *queue) Pop() any {
	last := len(q.heads) - 1
	h := q.heads[last]
	q.heads = q.heads[:last]
	return h
}

// Merge is sums of several lists as one: of the same place one.
func Merge(r api.Ring, l ...[]api.Sum) ([]api.Sum, api.Errno) {
	if !ring.Is(r) {
		return nil, api.ErrKind
	}
	q := &queue{}
	for i, list := range l {
		if !rises(list) {
			return nil, api.ErrOrder
		}
		if len(list) > 0 {
			heap.Push(q, head{i, list})
		}
	}
	var out []api.Sum
	for q.Len() > 0 {
		h := heap.Pop(q).(head)
		out = put(r, out, h.rest[0])
		if len(h.rest) > 1 {
			heap.Push(q, head{h.list, h.rest[1:]})
		}
	}
	return out, api.OK
}

// rises tells whether the places of sums do.
func rises(l []api.Sum) bool {
	for i := 1; i < len(l); i++ {
		if l[i].At <= l[i-1].At {
			return false
		}
	}
	return true
}

// put is the sums with one more, which is not ahead of the last one.
func put(r api.Ring, l []api.Sum, s api.Sum) []api.Sum {
	last := len(l) - 1
	if last < 0 || l[last].At != s.At {
		return append(l, s)
	}
	l[last].Val = ring.Add(r, l[last].Val, s.Val)
	return l
}
