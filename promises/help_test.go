package promises

import (
	"fmt"
	"math"
	"reflect"
	"sort"
	"strings"
	"testing"

	"fretwork/api"
)

// dice throws numbers that are the same in each run.
type dice struct{ state uint64 }

func (d *dice) word() uint64 {
	d.state += 0x9e3779b97f4a7c15
	z := d.state
	z = (z ^ z>>30) * 0xbf58476d1ce4e5b9
	z = (z ^ z>>27) * 0x94d049bb133111eb
	return z ^ z>>31
}

func (d *dice) below(n int) int { return int(d.word() % uint64(n)) }

func (d *dice) between(from, to int) int { return from + d.below(to-from+1) }

func (d *dice) coin() bool { return d.word()&1 == 1 }

// oddNumbers lie at, and beside, all that is a bound somewhere.
var oddNumbers = []int64{
	math.MinInt64, math.MinInt64 + 1, -api.Inf, -1 << 32, -api.MaxWeight, -4097, -65, -2, -1,
	0, 1, 2, 3, 4, 5, 7, 8, 9, 31, 32, 63, 64, 65, 127, 128, 129,
	4095, 4096, 4097, 8191, 8192, 8193, 65535, 65536, 65537, 1 << 20, 1<<20 + 1,
	api.MaxWeight, api.MaxWeight + 1, 1 << 32, 1<<32 + 1, api.Inf - 1, api.Inf, api.Inf + 1, math.MaxInt64 - 1, math.MaxInt64,
}

func (d *dice) odd() int64 {
	switch d.below(4) {
	case 0:
		return int64(d.word())
	case 1:
		return int64(d.below(12)) - 2
	}
	return oddNumbers[d.below(len(oddNumbers))]
}

// small is a number as graphs and vectors have them.
func (d *dice) small() int64 { return int64(d.below(20)) - 2 }

// face is a function that the document lists. If it is loose, a false of it is no none.
type face struct {
	name  string
	fn    any
	loose bool
}

// makers throw arguments of a type that can be, or nearly.
var makers = map[reflect.Type]func(d *dice) any{}

func maker[T any](f func(d *dice) T) {
	var t T
	makers[reflect.TypeOf(t)] = func(d *dice) any { return f(d) }
}

// throw is an argument of a type: now and then one that can be, now and then anything.
func throw(d *dice, t reflect.Type) reflect.Value {
	if m := makers[t]; m != nil && d.below(4) > 0 {
		v := reflect.New(t).Elem()
		v.Set(reflect.ValueOf(m(d)))
		if d.below(3) == 0 {
			spoil(d, v)
		}
		return v
	}
	return anything(d, t)
}

func anything(d *dice, t reflect.Type) reflect.Value {
	v := reflect.New(t).Elem()
	switch t.Kind() {
	case reflect.Bool:
		v.SetBool(d.coin())
	case reflect.Int, reflect.Int64:
		v.SetInt(d.odd())
	case reflect.Uint8, reflect.Uint32, reflect.Uint64:
		v.SetUint(uint64(d.odd()))
	case reflect.String:
		v.SetString(oddTexts[d.below(len(oddTexts))])
	case reflect.Slice:
		if n := d.below(7); n > 0 {
			all := reflect.MakeSlice(t, n+2, n+2)
			for i := 0; i < n+2; i++ {
				all.Index(i).Set(throw(d, t.Elem()))
			}
			v.Set(all.Slice(0, n-1))
		}
	case reflect.Array:
		for i := 0; i < t.Len(); i++ {
			v.Index(i).Set(throw(d, t.Elem()))
		}
	case reflect.Struct:
		for i := 0; i < t.NumField(); i++ {
			v.Field(i).Set(throw(d, t.Field(i).Type))
		}
	default:
		panic("no argument of " + t.String())
	}
	return v
}

var oddTexts = []string{"", " ", "\n", "minplus", "Minplus", "plustimes", "orand ", "levels", "tri", "job levels\n", "\x00\xff", "none", "any", "0", "-1"}

// spoil changes one thing, anywhere in a value.
func spoil(d *dice, v reflect.Value) {
	switch v.Kind() {
	case reflect.Struct:
		if v.NumField() > 0 {
			spoil(d, v.Field(d.below(v.NumField())))
		}
	case reflect.Slice:
		if v.Len() == 0 || d.below(3) == 0 {
			v.Set(anything(d, v.Type()))
			return
		}
		spoil(d, v.Index(d.below(v.Len())))
	case reflect.Array:
		if v.Len() > 0 {
			spoil(d, v.Index(d.below(v.Len())))
		}
	default:
		v.Set(anything(d, v.Type()))
	}
}

// copied is a value with lists of its own, each with spare room that is as it was.
func copied(v reflect.Value) reflect.Value {
	out := reflect.New(v.Type()).Elem()
	out.Set(v)
	switch v.Kind() {
	case reflect.Struct:
		for i := 0; i < v.NumField(); i++ {
			out.Field(i).Set(copied(v.Field(i)))
		}
	case reflect.Array:
		for i := 0; i < v.Len(); i++ {
			out.Index(i).Set(copied(v.Index(i)))
		}
	case reflect.Slice:
		if v.IsNil() {
			return out
		}
		whole := v.Slice3(0, v.Cap(), v.Cap())
		all := reflect.MakeSlice(v.Type(), v.Cap(), v.Cap())
		for i := 0; i < v.Cap(); i++ {
			all.Index(i).Set(copied(whole.Index(i)))
		}
		out.Set(all.Slice(0, v.Len()))
	}
	return out
}

// tell is a value as a text; of room, if it is asked, what stands in spare room, too.
func tell(b *strings.Builder, v reflect.Value, room bool) {
	switch v.Kind() {
	case reflect.Struct:
		b.WriteString("{")
		for i := 0; i < v.NumField(); i++ {
			tell(b, v.Field(i), room)
			b.WriteString(" ")
		}
		b.WriteString("}")
	case reflect.Array:
		for i := 0; i < v.Len(); i++ {
			tell(b, v.Index(i), room)
			b.WriteString(",")
		}
	case reflect.Slice:
		fmt.Fprintf(b, "%d[", v.Len())
		n := v.Len()
		if room && !v.IsNil() {
			n = v.Cap()
			v = v.Slice3(0, n, n)
		}
		for i := 0; i < n; i++ {
			tell(b, v.Index(i), room)
			b.WriteString(",")
		}
		b.WriteString("]")
	default:
		fmt.Fprintf(b, "%v", v.Interface())
	}
}

func text(v reflect.Value, room bool) string {
	var b strings.Builder
	tell(&b, v, room)
	return b.String()
}

// same tells whether two values are alike, a nil list being an empty one.
func same[T any](a, b T) bool {
	return alike(reflect.ValueOf(&a).Elem(), reflect.ValueOf(&b).Elem())
}

func alike(a, b reflect.Value) bool {
	switch a.Kind() {
	case reflect.Struct:
		for i := 0; i < a.NumField(); i++ {
			if !alike(a.Field(i), b.Field(i)) {
				return false
			}
		}
		return true
	case reflect.Slice, reflect.Array:
		if a.Len() != b.Len() {
			return false
		}
		for i := 0; i < a.Len(); i++ {
			if !alike(a.Index(i), b.Index(i)) {
				return false
			}
		}
		return true
	}
	return a.Equal(b)
}

// span is memory that a list takes, with its spare room.
type span struct{ from, to uintptr }

func spans(v reflect.Value, l []span) []span {
	switch v.Kind() {
	case reflect.Struct:
		for i := 0; i < v.NumField(); i++ {
			l = spans(v.Field(i), l)
		}
	case reflect.Array:
		for i := 0; i < v.Len(); i++ {
			l = spans(v.Index(i), l)
		}
	case reflect.Slice:
		if v.Cap() > 0 && v.Type().Elem().Size() > 0 {
			l = append(l, span{v.Pointer(), v.Pointer() + uintptr(v.Cap())*v.Type().Elem().Size()})
		}
		for i := 0; i < v.Len(); i++ {
			l = spans(v.Index(i), l)
		}
	}
	return l
}

// shared tells whether two of these lists have memory in common.
func shared(l []span) bool {
	sort.Slice(l, func(i, k int) bool { return l[i].from < l[k].from })
	for i := 1; i < len(l); i++ {
		if l[i].from < l[i-1].to {
			return true
		}
	}
	return false
}

func values(l []reflect.Value) string {
	var out []string
	for _, v := range l {
		out = append(out, text(v, false))
	}
	s := strings.Join(out, "; ")
	if len(s) > 600 {
		s = s[:600] + " .."
	}
	return s
}

func empty(v reflect.Value) bool {
	switch v.Kind() {
	case reflect.Slice:
		return v.Len() == 0
	case reflect.Struct:
		for i := 0; i < v.NumField(); i++ {
			if !empty(v.Field(i)) {
				return false
			}
		}
		return true
	}
	return v.IsZero()
}

// none tells whether a result says that there is nothing beside it, and whether it says so as it must.
func none(v reflect.Value, loose bool) (is, clean bool) {
	switch x := v.Interface().(type) {
	case api.Errno:
		return x != api.OK, true
	case api.Fault:
		return x.Errno != api.OK, x.Errno != api.OK || x.At == 0
	case api.Failure:
		return x.Stage != api.NoStage, x.Stage == api.NoStage == (x.Fault == api.Fault{})
	case bool:
		return !loose && !x, true
	}
	return false, true
}

func isError(v reflect.Value) bool {
	switch v.Interface().(type) {
	case api.Errno, api.Fault, api.Failure:
		return true
	}
	return false
}

// beside tells what stands in a result beside an error, a fault, a failure, or a false.
func beside(out []reflect.Value, loose bool) string {
	for i, v := range out {
		is, clean := none(v, loose)
		if !clean {
			return "a fault with none"
		}
		if !is {
			continue
		}
		for k, other := range out {
			_, toldBy := v.Interface().(bool)
			if k != i && !empty(other) && !(toldBy && isError(other)) {
				return "a result beside " + text(v, false)
			}
		}
	}
	return ""
}

func call(f reflect.Value, args []reflect.Value) []reflect.Value {
	if f.Type().IsVariadic() {
		return f.CallSlice(args)
	}
	return f.Call(args)
}

// whatever calls functions with all kinds of arguments. None panics (P1); beside an error all is 0 (P2); what is handed in stays as it is, and is not shared (P3); and what is answered is the same each time (P5).
func whatever(t *testing.T, times int, faces ...face) {
	t.Helper()
	for _, x := range faces {
		d := &dice{state: uint64(len(x.name))}
		for i := 0; i < times && !t.Failed(); i++ {
			once(t, d, x)
		}
	}
}

func once(t *testing.T, d *dice, x face) {
	t.Helper()
	f := reflect.ValueOf(x.fn)
	var args, kept, twin []reflect.Value
	for i := 0; i < f.Type().NumIn(); i++ {
		v := throw(d, f.Type().In(i))
		args = append(args, v)
		kept = append(kept, copied(v))
		twin = append(twin, copied(v))
	}
	defer func() {
		if p := recover(); p != nil {
			t.Errorf("%s(%s) panics: %v", x.name, values(kept), p)
		}
	}()
	out := call(f, args)
	for i := range args {
		if text(args[i], true) != text(kept[i], true) {
			t.Errorf("%s(%s) changes its argument %d", x.name, values(kept), i)
		}
	}
	if s := beside(out, x.loose); s != "" {
		t.Errorf("%s(%s) tells %s: %s", x.name, values(kept), values(out), s)
	}
	var own, all []span
	for _, v := range out {
		own = spans(v, own)
	}
	for _, v := range args {
		all = spans(v, all)
	}
	if shared(own) || shared(append(all, own...)) {
		t.Errorf("%s(%s) answers lists that are shared", x.name, values(kept))
	}
	again := call(f, twin)
	if values(again) != values(out) {
		t.Errorf("%s(%s) tells %s, and then %s", x.name, values(kept), values(out), values(again))
	}
}

// want tells where an answer is another one.
func want[T any](t *testing.T, what string, got, right T) {
	t.Helper()
	if !same(got, right) {
		t.Errorf("%s: %+v, not %+v", what, got, right)
	}
}

func typeOf[T any]() reflect.Type { return reflect.TypeFor[T]() }
