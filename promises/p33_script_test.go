package promises

import (
	"fmt"
	"math"
	"slices"
	"strings"
	"testing"

	"fretwork/api"
	"fretwork/script"
)

var jobWords = []string{"levels", "paths", "labels", "walks", "indep", "tri"}

// written is a job that can be written.
func (d *dice) written() api.Job {
	n := func() int {
		if d.coin() {
			return d.below(20)
		}
		return []int{0, 9, 10, 11, 100, 4096, api.MaxWeight, api.MaxWeight - 1}[d.below(8)]
	}
	j := api.Job{Kind: allJobs[d.below(6)], Source: n(), Length: n(), R: n(), C: n(), Room: n(), Limit: n(), Windows: n()}
	for i := d.below(4); i > 0; i-- {
		j.Draws = append(j.Draws, int64(n()))
	}
	for i := d.below(4); i > 0; i-- {
		j.Choices = append(j.Choices, api.Choice{Way: api.Way(d.below(3)), Form: api.Form(d.below(3))})
	}
	for i := d.below(6); i > 0; i-- {
		m := api.Move{Kind: api.MoveKind(d.between(1, 5)), A: d.below(64), B: d.below(64), K: d.below(64)}
		if m.Kind == api.Send {
			m.B, m.K = 0, 0
		}
		if m.Kind == api.Fair {
			m = api.Move{Kind: api.Fair}
		}
		j.Moves = append(j.Moves, m)
	}
	return j
}

// moveLine is a move's line, by other means.
func moveLine(m api.Move) string {
	switch m.Kind {
	case api.Send:
		return fmt.Sprintf("send %d", m.A)
	case api.Fair:
		return "fair"
	}
	return fmt.Sprintf("%s %d %d %d", map[api.MoveKind]string{api.Hand: "hand", api.Twice: "twice", api.Last: "last"}[m.Kind], m.A, m.B, m.K)
}

func choiceLine(c api.Choice) string {
	return "choice " + []string{"any", "push", "pull"}[c.Way] + " " + []string{"any", "sparse", "full"}[c.Form]
}

// textOf is a job's text, by other means.
func textOf(j api.Job) string {
	s := fmt.Sprintf("job %s\nsource %d\nlength %d\ngrid %d %d %d\nlimit %d\n", jobWords[j.Kind-1], j.Source, j.Length, j.R, j.C, j.Room, j.Limit)
	for _, n := range j.Draws {
		s += fmt.Sprintf("draw %d\n", n)
	}
	for _, c := range j.Choices {
		s += choiceLine(c) + "\n"
	}
	for _, m := range j.Moves {
		s += moveLine(m) + "\n"
	}
	return s + fmt.Sprintf("windows %d\n", j.Windows)
}

func TestP33_1(t *testing.T) {
	d := &dice{}
	for i := 0; i < 500; i++ {
		j := d.written()
		s, e := script.Print(j)
		want(t, "Print", s, textOf(j))
		want(t, "its error", e, api.OK)
		j.Graph = d.bytes(5)
		s, e = script.Print(j)
		want(t, "a graph is not asked", s, textOf(j))
		j.Graph = nil
		got, f := script.Parse(textOf(j))
		want(t, "Parse", got, j)
		want(t, "its fault", f, api.Fault{})
		for _, change := range []func(j *api.Job){
			func(j *api.Job) { j.Kind = 0 }, func(j *api.Job) { j.Kind = 7 }, func(j *api.Job) { j.Kind = -1 }, func(j *api.Job) { j.Source = -1 }, func(j *api.Job) { j.Source = 1 << 31 }, func(j *api.Job) { j.Length = -1 }, func(j *api.Job) { j.Length = math.MaxInt }, func(j *api.Job) { j.R = -1 }, func(j *api.Job) { j.C = 1 << 31 }, func(j *api.Job) { j.Room = math.MinInt }, func(j *api.Job) { j.R = 1 << 31 }, func(j *api.Job) { j.C = -1 }, func(j *api.Job) { j.Room = 1 << 31 },
			func(j *api.Job) { j.Limit = -1 }, func(j *api.Job) { j.Limit = 1 << 31 }, func(j *api.Job) { j.Windows = -1 }, func(j *api.Job) { j.Windows = 1 << 31 }, func(j *api.Job) { j.Draws = append(slices.Clone(j.Draws), -1) }, func(j *api.Job) { j.Draws = append(slices.Clone(j.Draws), 1<<31) },
			func(j *api.Job) { j.Choices = []api.Choice{{Way: 3}} }, func(j *api.Job) { j.Choices = []api.Choice{{Form: 3}} }, func(j *api.Job) { j.Choices = []api.Choice{{}, {Way: -1}} }, func(j *api.Job) { j.Choices = []api.Choice{{Form: -1}} }, func(j *api.Job) { j.Choices = []api.Choice{{Way: math.MaxInt}} },
			func(j *api.Job) { j.Moves = []api.Move{{Kind: 1, B: 1}} }, func(j *api.Job) { j.Moves = []api.Move{{Kind: 1, K: 1}} }, func(j *api.Job) { j.Moves = []api.Move{{Kind: 5}, {Kind: 5, A: 1}} }, func(j *api.Job) { j.Moves = []api.Move{{Kind: 5, B: 1}} }, func(j *api.Job) { j.Moves = []api.Move{{Kind: 5, K: 1}} }, func(j *api.Job) { j.Moves = []api.Move{{Kind: 2, A: 64}} }, func(j *api.Job) { j.Moves = []api.Move{{}} },
		} {
			x := j
			change(&x)
			s, e = script.Print(x)
			want(t, "Print's error", e, api.ErrValue)
			want(t, "nothing beside it", s, "")
		}
	}
}

func TestP33_1_many(t *testing.T) {
	j := api.Job{Kind: api.JobTri, Draws: make([]int64, api.MaxDraws), Choices: make([]api.Choice, api.MaxSupers), Moves: slices.Repeat([]api.Move{{Kind: api.Fair}}, api.MaxActs)}
	s, e := script.Print(j)
	want(t, "as many as there may be", e, api.OK)
	got, f := script.Parse(s)
	want(t, "as many as there may be", f, api.Fault{})
	want(t, "as many as there may be", script.Same(got, j), true)
	for _, c := range []struct {
		line string
		at   int
	}{{"draw 0\n", 5 + api.MaxDraws}, {"choice any any\n", 5 + api.MaxDraws + api.MaxSupers}, {"fair\n", 5 + api.MaxDraws + api.MaxSupers + api.MaxActs}} {
		at := strings.Index(s, c.line)
		_, f = script.Parse(s[:at] + c.line + s[at:])
		want(t, "one too many", f, api.Fault{Errno: api.ErrForm, At: c.at})
	}
	for i, change := range []func(j *api.Job){func(j *api.Job) { j.Draws = append(slices.Clone(j.Draws), 0) }, func(j *api.Job) { j.Choices = append(slices.Clone(j.Choices), api.Choice{}) }, func(j *api.Job) { j.Moves = append(slices.Clone(j.Moves), api.Move{Kind: 5}) }} {
		x := j
		change(&x)
		if _, e = script.Print(x); e != api.ErrValue {
			t.Errorf("Print of the case %d", i)
		}
	}
	_, f = script.Parse(strings.Repeat(" ", 1<<25))
	want(t, "a long text", f, api.Fault{Errno: api.ErrForm})
	_, f = script.Parse(strings.Repeat(" ", 1<<25+1))
	want(t, "too long a text", f, api.Fault{Errno: api.ErrLong})
	_, f = script.Parse(textOf(api.Job{Kind: 1}) + strings.Repeat("\n", 1<<25))
	want(t, "too long a text", f, api.Fault{Errno: api.ErrLong})
}

func TestP33_1_faults(t *testing.T) {
	good := []string{"job walks", "source 1", "length 2", "grid 3 4 5", "limit 6", "draw 7", "draw 8", "choice push full", "send 9", "hand 10 11 12", "fair", "windows 13"}
	for at, lines := range [][]string{
		{"", "job", "job ", "job walk", "job  walks", "job walks ", " job walks", "Job walks", "jobs walks", "job 4", "job\twalks", "job walks\r", "walks"},
		{"", "source", "source ", "source 01", "source -1", "source +1", "source 1 ", "source  1", "source 1 1", "source 2147483648", "source 99999999999999999999999", "source x", "source 1.", "Source 1", "length 2", "source 00", "source ١"},
		{"length x", "lengths 1", "length"}, {"grid 3 4", "grid 3 4 5 6", "grid 3  4 5", "grid 3 4 5 ", "grid 3 04 5", "grid", "grid 3 4 2147483648"}, {"limit", "limit 1 2", "limit 0x1"},
	} {
		for _, s := range lines {
			l := slices.Clone(good)
			l[at] = s
			_, f := script.Parse(strings.Join(l, "\n") + "\n")
			want(t, "the line "+s, f, api.Fault{Errno: api.ErrForm, At: at})
			l[at+1] = "nothing"
			_, f = script.Parse(strings.Join(l, "\n"))
			want(t, "the first line that is wrong", f, api.Fault{Errno: api.ErrForm, At: at})
		}
	}
	for at, lines := range map[int][]string{
		5: {"draw", "draw -1", "draw 07", "draw 1 2", "draw 2147483648", "choice any any"}, 7: {"chose push full", "windows any any", "choice", "choice any", "choice push full full", "choice Push full", "choice full push", "choice any none", "choice  any any", "choice 1 1", "choice  ", "choice any "},
		8: {"send", "send 64", "send 9 0 0", "send 09", "Send 9", "sent 9"}, 9: {"hand 10 11", "hand 10 11 64", "hand 64 1 1", "hand 1 64 1", "hand 1 1 1 1", "twice", "last 1 2 3 ", "hand 1 2 x"}, 10: {"fair 0", "fair ", "fairs", ""}, 11: {"windows", "windows 1 2", "windows 013", "windows -1", "Windows 1", "window 1"},
	} {
		for _, s := range lines {
			l := slices.Clone(good)
			l[at] = s
			_, f := script.Parse(strings.Join(l, "\n") + "\n")
			if s == "choice any any" {
				at++
			}
			want(t, "the line "+s, f, api.Fault{Errno: api.ErrForm, At: at})
		}
	}
	all := strings.Join(good, "\n")
	for _, c := range []struct {
		s  string
		at int
	}{{"", 0}, {"\n", 0}, {"job walks", 0}, {"job walks\n", 1}, {"job walks\nsource 1", 1}, {all, 11}, {all + "\n\n", 12}, {all + "\nwindows 13\n", 12}, {all + "\nx", 12}, {all + "\n ", 12}, {all + "\r\n", 11}, {"\n" + all + "\n", 0}, {strings.Join(good[:11], "\n") + "\n", 11}, {strings.Join(good[:5], "\n") + "\n", 5}, {strings.Join(good[:5], "\n"), 4}, {"x\ny", 0}, {"job walks\nx\ny", 1}} {
		j, f := script.Parse(c.s)
		want(t, "Parse of "+c.s, f, api.Fault{Errno: api.ErrForm, At: c.at})
		want(t, "nothing beside it", j, api.Job{})
	}
	l := slices.Clone(good)
	l[5], l[7] = l[7], l[5]
	_, f := script.Parse(strings.Join(l, "\n") + "\n")
	want(t, "out of order", f, api.Fault{Errno: api.ErrForm, At: 6})
}

func TestP33_2(t *testing.T) {
	for k := -2; k < 9; k++ {
		w := ""
		if k >= 1 && k <= 6 {
			w = jobWords[k-1]
			want(t, "Of", script.Of(w), api.JobKind(k))
		}
		want(t, "Kind", script.Kind(api.JobKind(k)), w)
	}
	want(t, "Kind of none", script.Kind(math.MaxInt)+script.Kind(math.MinInt), "")
	for _, s := range []string{"", " ", "Levels", "level", "levels ", "any", "send", "tri\n"} {
		want(t, "Of", script.Of(s), api.NoJob)
	}
	for way := -1; way < 5; way++ {
		for form := -1; form < 5; form++ {
			s := ""
			c := api.Choice{Way: api.Way(way), Form: api.Form(form)}
			if way >= 0 && way < 3 && form >= 0 && form < 3 {
				s = choiceLine(c)
			}
			want(t, "Choice", script.Choice(c), s)
		}
	}
	for _, m := range append([]api.Move{{Kind: 1, A: 3, B: 1}, {Kind: 1, A: 3, K: 1}, {Kind: 5, A: 1}, {Kind: 5, B: 1}, {Kind: 5, K: 1}}, badMoves...) {
		want(t, "Move that can't be written", script.Move(m), "")
	}
	for kind := api.Hand; kind <= api.Last; kind++ {
		for _, m := range []api.Move{{Kind: kind}, {Kind: kind, A: 63, B: 10, K: 9}, {Kind: kind, B: 63, K: 63}} {
			want(t, "Move", script.Move(m), moveLine(m))
		}
	}
	want(t, "Move", []string{script.Move(api.Move{Kind: 1}), script.Move(api.Move{Kind: 1, A: 63}), script.Move(api.Move{Kind: 5})}, []string{"send 0", "send 63", "fair"})
	want(t, "hand 0 1 2", script.Move(api.Move{Kind: api.Hand, B: 1, K: 2}), "hand 0 1 2")
	d := &dice{state: 2}
	for i := 0; i < 300; i++ {
		j := d.written()
		x := j
		x.Graph = d.bytes(4)
		want(t, "Same", script.Same(j, x), true)
		for i, change := range []func(j *api.Job){
			func(j *api.Job) { j.Kind++ }, func(j *api.Job) { j.Source++ }, func(j *api.Job) { j.Length++ }, func(j *api.Job) { j.Draws = append(slices.Clone(j.Draws), 1) }, func(j *api.Job) { j.R++ }, func(j *api.Job) { j.C++ }, func(j *api.Job) { j.Room++ }, func(j *api.Job) { j.Limit++ },
			func(j *api.Job) { j.Choices = append(slices.Clone(j.Choices), api.Choice{}) }, func(j *api.Job) { j.Moves = append(slices.Clone(j.Moves), api.Move{}) }, func(j *api.Job) { j.Windows++ },
		} {
			x := j
			change(&x)
			if script.Same(j, x) || script.Same(x, j) {
				t.Errorf("Same of the case %d", i)
			}
		}
	}
}

func TestP33_3(t *testing.T) {
	d := &dice{state: 3}
	for i := 0; i < 500; i++ {
		j := d.written()
		s, e := script.Print(j)
		got, f := script.Parse(s)
		want(t, "Parse of Print", got, j)
		want(t, "its fault", f, api.Fault{})
		again, e2 := script.Print(got)
		want(t, "Print of Parse", again, s)
		want(t, "its error", e == api.OK && e2 == api.OK, true)
	}
}

func TestP33_4(t *testing.T) {
	d := &dice{state: 4}
	for i := 0; i < 200; i++ {
		lines := strings.SplitAfter(textOf(d.written()), "\n")
		lines = lines[:len(lines)-1]
		for at, s := range lines {
			free := strings.HasPrefix(s, "draw") || strings.HasPrefix(s, "choice") || at >= 5 && !strings.HasPrefix(s, "windows")
			left := strings.Join(lines[:at], "") + strings.Join(lines[at+1:], "")
			doubled := strings.Join(lines[:at+1], "") + strings.Join(lines[at:], "")
			_, f := script.Parse(left)
			want(t, "a line that is left out", f.Errno == api.OK, free)
			_, f = script.Parse(doubled)
			want(t, "a line that is doubled", f.Errno == api.OK, free)
		}
	}
}

func TestScriptWhatever(t *testing.T) {
	whatever(t, 400, face{"script.Print", script.Print, false}, face{"script.Parse", script.Parse, false}, face{"script.Move", script.Move, false}, face{"script.Choice", script.Choice, false},
		face{"script.Kind", script.Kind, false}, face{"script.Of", script.Of, false}, face{"script.Same", script.Same, false})
}
