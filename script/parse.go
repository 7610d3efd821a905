package script

import (
	"strconv"
	"strings"

	"fretwork/api"
	"fretwork/play"
)

// reader stands at a line of a text.
type reader struct {
	lines []string
	at    int
}

// one takes the next line, if it stands there.
func (r *reader) one(stands func(s string) bool) bool {
	if r.at == len(r.lines) || !stands(r.lines[r.at]) {
		return false
	}
	r.at++
	return true
}

// list takes as many lines as stand there, one behind the other, but no more than the most, and tells their members.
func list[T any](r *reader, most int, member func(s string) (T, bool)) []T {
	var l []T
	for len(l) < most {
		took := r.one(func(s string) bool {
			x, is := member(s)
			if is {
				l = append(l, x)
			}
			return is
		})
		if !took {
			break
		}
	}
	return l
}

// number is the number that digits tell.
func number(s string) (int, bool) {
	if s == "" || len(s) > 1 && s[0] == '0' || strings.Trim(s, "0123456789") != "" {
		return 0, false
	}
	n, err := strconv.ParseInt(s, 10, 64)
	if err != nil || n > api.MaxWeight {
		return 0, false
	}
	return int(n), true
}

// numbers tells whether a line is a word, and so many numbers, and puts them into their places.
func numbers(s, word string, into ...*int) bool {
	l := strings.SplitN(s, " ", len(into)+2)
	if len(l) != len(into)+1 || l[0] != word {
		return false
	}
	for i, place := range into {
		n, is := number(l[i+1])
		if !is {
			return false
		}
		*place = n
	}
	return true
}

// draw is the draw that a line tells.
func draw(s string) (int64, bool) {
	var n int
	is := numbers(s, "draw", &n)
	return int64(n), is
}

// choice is the choice that a line tells.
func choice(s string) (api.Choice, bool) {
	l := strings.SplitN(s, " ", 4)
	if len(l) != 3 || l[0] != "choice" {
		return api.Choice{}, false
	}
	way, form := find(wayWords, l[1]), find(formWords, l[2])
	return api.Choice{Way: api.Way(way), Form: api.Form(form)}, way >= 0 && form >= 0
}

// move is the move that a line tells.
func move(s string) (api.Move, bool) {
	name, _, _ := strings.Cut(s, " ")
	m := api.Move{Kind: api.MoveKind(find(moveWords, name))}
	is := false
	switch m.Kind {
	case api.Send:
		is = numbers(s, name, &m.A)
	case api.Hand, api.Twice, api.Last:
		is = numbers(s, name, &m.A, &m.B, &m.K)
	case api.Fair:
		is = numbers(s, name)
	}
	return m, is && play.Right(m)
}

// Parse is the job of a text, without a graph.
func Parse(s string) (api.Job, api.Fault) {
	if len(s) > 16*api.MaxBytes {
		return api.Job{}, api.Fault{Errno: api.ErrLong}
	}
	lines := strings.Split(s, "\n")
	last := len(lines) - 1
	r := &reader{lines: lines[:last]}
	j, ok := r.job()
	if !ok || r.at < last || lines[last] != "" {
		return api.Job{}, api.Fault{Errno: api.ErrForm, At: r.at}
	}
	return j, api.Fault{}
}

// job takes a job's lines; false, if one does not stand there.
func (r *reader) job() (api.Job, bool) {
	var j api.Job
	kind := func(s string) bool {
		name, is := strings.CutPrefix(s, "job ")
		j.Kind = Of(name)
		return is && j.Kind != api.NoJob
	}
	source := func(s string) bool { return numbers(s, "source", &j.Source) }
	length := func(s string) bool { return numbers(s, "length", &j.Length) }
	grid := func(s string) bool { return numbers(s, "grid", &j.R, &j.C, &j.Room) }
	limit := func(s string) bool { return numbers(s, "limit", &j.Limit) }
	if !r.one(kind) || !r.one(source) || !r.one(length) || !r.one(grid) || !r.one(limit) {
		return api.Job{}, false
	}
	j.Draws = list(r, api.MaxDraws, draw)
	j.Choices = list(r, api.MaxSupers, choice)
	j.Moves = list(r, api.MaxActs, move)
	windows := func(s string) bool { return numbers(s, "windows", &j.Windows) }
	return j, r.one(windows)
}
