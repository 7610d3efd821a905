package push

import (
	"iter"

	"fretwork/api"
)

// met yields the columns at which a vector has values, each by its place among those that are not empty, and the value.
func met(c api.Columns, x api.Vec) iter.Seq2[int, int64] {
	return func(yield func(i int, val int64) bool) {
		i := 0
		for _, item := range x.Items {
			for i < len(c.At) && c.At[i] < item.At {
				i++
			}
			if i < len(c.At) && c.At[i] == item.At && !yield(i, item.Val) {
				return
			}
		}
	}
}
