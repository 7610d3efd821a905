package promises

import (
	"math"
	"testing"

	"fretwork/api"
	"fretwork/part"
)

// cutSizes and cutParts may be, wrongSizes and wrongParts may not.
var (
	cutSizes   = []int{0, 1, 2, 3, 5, 7, 8, 9, 16, 63, 100, 4095, 4096}
	cutParts   = []int{1, 2, 3, 4, 5, 6, 7, 8}
	wrongSizes = []int{-1, math.MinInt, 4097, math.MaxInt}
	wrongParts = []int{0, -1, math.MinInt, 9, math.MaxInt}
)

func TestP17_1(t *testing.T) {
	for _, n := range cutSizes {
		for _, k := range cutParts {
			for _, i := range []int{math.MinInt, -1, 0, 1, 2, 3, 4, 5, 6, 7, 8, 9, math.MaxInt} {
				low, size := 0, 0
				switch {
				case i >= k:
					low = n
				case i >= 0:
					low = i * n / k
					size = (i+1)*n/k - low
				}
				want(t, "Low", part.Low(n, k, i), low)
				want(t, "Size", part.Size(n, k, i), size)
			}
			most := n / k
			if n%k > 0 {
				most++
			}
			want(t, "Most", part.Most(n, k), most)
			for at := -2; at < n+3; at++ {
				right := -1
				for i := 0; i < k; i++ {
					if at >= i*n/k && at < (i+1)*n/k {
						right = i
					}
				}
				want(t, "Of", part.Of(n, k, at), right)
			}
			want(t, "Of far away", part.Of(n, k, math.MaxInt) == -1 && part.Of(n, k, math.MinInt) == -1, true)
		}
	}
	wrong := func(n, k int) {
		for _, i := range []int{-1, 0, 1, 3, 8, math.MaxInt} {
			if part.Low(n, k, i) != 0 || part.Size(n, k, i) != 0 || part.Most(n, k) != 0 || part.Of(n, k, i) != -1 {
				t.Errorf("%d in %d parts, %d", n, k, i)
			}
		}
	}
	for _, n := range append(wrongSizes, 5) {
		for _, k := range wrongParts {
			wrong(n, k)
		}
		if n != 5 {
			wrong(n, 1)
			wrong(n, 8)
		}
	}
	want(t, "5 in 2 parts", [2]int{part.Size(5, 2, 0), part.Size(5, 2, 1)}, [2]int{2, 3})
}

func TestP17_2(t *testing.T) {
	want(t, "5, 2, 3", part.Segments(5, 2, 3), []api.Segment{{From: 0, To: 1}, {From: 1, To: 2, Col: 1}, {From: 2, To: 3, Row: 1, Col: 1}, {From: 3, To: 5, Row: 1, Col: 2}})
	for _, n := range []int{0, 1, 2, 3, 5, 8, 9, 16, 100, 4096} {
		for _, r := range cutParts {
			for _, c := range cutParts {
				var right []api.Segment
				for at := 0; at < n; at++ {
					row, col := part.Of(n, r, at), part.Of(n, c, at)
					last := len(right) - 1
					if last >= 0 && right[last].Row == row && right[last].Col == col {
						right[last].To++
					} else {
						right = append(right, api.Segment{From: at, To: at + 1, Row: row, Col: col})
					}
				}
				want(t, "Segments", part.Segments(n, r, c), right)
			}
		}
	}
	for _, n := range wrongSizes {
		want(t, "Segments of none", part.Segments(n, 2, 2), nil)
	}
	for _, k := range wrongParts {
		want(t, "Segments of none", part.Segments(5, k, 2), nil)
		want(t, "Segments of none", part.Segments(5, 2, k), nil)
	}
}

func TestP17_3(t *testing.T) {
	odd := []int{math.MinInt, -9, -1, 0, 1, 2, 3, 4, 5, 6, 7, 8, 9, 63, 64, 65, math.MaxInt}
	for _, c := range odd {
		for _, i := range odd {
			for _, j := range odd {
				right := -1
				if c >= 1 && c <= 8 && i >= 0 && i <= 7 && j >= 0 && j < c {
					right = i*c + j
				}
				want(t, "Place", part.Place(c, i, j), right)
			}
		}
		for _, at := range append([]int{8*c - 1, 8 * c}, odd...) {
			row, col := -1, -1
			if c >= 1 && c <= 8 && at >= 0 && at < 8*c {
				row, col = at/c, at%c
			}
			want(t, "Row", part.Row(c, at), row)
			want(t, "Col", part.Col(c, at), col)
		}
	}
}

func TestP17_4(t *testing.T) {
	for _, n := range cutSizes {
		for _, k := range cutParts {
			all := 0
			for i := range k {
				size := part.Size(n, k, i)
				want(t, "one behind the other", part.Low(n, k, i), all)
				want(t, "as many, or one more", size >= n/k && size <= n/k+1 && size <= part.Most(n, k), true)
				for at := all; at < all+size; at++ {
					want(t, "in just one", part.Of(n, k, at), i)
				}
				all += size
			}
			want(t, "each once", all, n)
		}
	}
}

func TestP17_5(t *testing.T) {
	for _, n := range cutSizes {
		for _, r := range cutParts {
			for _, c := range cutParts {
				l := part.Segments(n, r, c)
				want(t, "at most", len(l) <= r+c-1, true)
				at := 0
				for _, s := range l {
					want(t, "one behind the other", s.From, at)
					want(t, "none is empty", s.To > s.From, true)
					want(t, "in its row's part", part.Low(n, r, s.Row) <= s.From && s.To <= part.Low(n, r, s.Row+1), true)
					want(t, "in its column's part", part.Low(n, c, s.Col) <= s.From && s.To <= part.Low(n, c, s.Col+1), true)
					at = s.To
				}
				want(t, "each once", at, n)
			}
		}
	}
}

func TestP17_6(t *testing.T) {
	for _, c := range cutParts {
		for i := range 8 {
			for j := range c {
				at := part.Place(c, i, j)
				want(t, "Row of Place", part.Row(c, at), i)
				want(t, "Col of Place", part.Col(c, at), j)
			}
		}
	}
}

func TestPartWhatever(t *testing.T) {
	whatever(t, 1000, face{"part.Low", part.Low, false}, face{"part.Size", part.Size, false}, face{"part.Most", part.Most, false}, face{"part.Of", part.Of, false},
		face{"part.Segments", part.Segments, false}, face{"part.Place", part.Place, false}, face{"part.Row", part.Row, false}, face{"part.Col", part.Col, false})
}
