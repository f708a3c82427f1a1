package tests

import (
	"reflect"
	"runtime"
	"strconv"
	"strings"
	"testing"
)

// span is a piece of memory that a list has, with the spare room behind it.
type span struct{ from, to uintptr }

// memoryOf are the pieces of memory of all lists in x, and of the lists in these.
func memoryOf(x reflect.Value) []span {
	var out []span
	switch x.Kind() {
	case reflect.Slice:
		if size := x.Type().Elem().Size(); x.Cap() > 0 && size > 0 {
			out = append(out, span{x.Pointer(), x.Pointer() + uintptr(x.Cap())*size})
		}
		for i := range x.Len() {
			out = append(out, memoryOf(x.Index(i))...)
		}
	case reflect.Array:
		for i := range x.Len() {
			out = append(out, memoryOf(x.Index(i))...)
		}
	case reflect.Struct:
		for i := range x.NumField() {
			out = append(out, memoryOf(x.Field(i))...)
		}
	}
	return out
}

// shown tells all that is in x; with room also what stands in the spare room of its lists.
func shown(x reflect.Value, room bool) string {
	switch x.Kind() {
	case reflect.Slice:
		count := x.Len()
		if room {
			count = x.Cap()
		}
		all := x.Slice3(0, count, x.Cap())
		parts := []string{strconv.Itoa(x.Len())}
		for i := range count {
			parts = append(parts, shown(all.Index(i), room))
		}
		return "[" + strings.Join(parts, " ") + "]"
	case reflect.Struct:
		var parts []string
		for i := range x.NumField() {
			parts = append(parts, shown(x.Field(i), room))
		}
		return "{" + strings.Join(parts, " ") + "}"
	case reflect.Array:
		var parts []string
		for i := range x.Len() {
			parts = append(parts, shown(x.Index(i), room))
		}
		return "<" + strings.Join(parts, " ") + ">"
	case reflect.String:
		return strconv.Quote(x.String())
	case reflect.Bool:
		return strconv.FormatBool(x.Bool())
	case reflect.Uint64, reflect.Uint8:
		return strconv.FormatUint(x.Uint(), 10)
	case reflect.Int64:
		return strconv.FormatInt(x.Int(), 10)
	}
	panic("shown: " + x.Type().String())
}

// mark puts something into x that no answer would put there.
func mark(x reflect.Value) {
	switch x.Kind() {
	case reflect.Struct:
		for i := range x.NumField() {
			mark(x.Field(i))
		}
	case reflect.Int64:
		x.SetInt(770077)
	case reflect.Uint64, reflect.Uint8:
		x.SetUint(170)
	case reflect.String:
		x.SetString("mark")
	}
}

// roomyCopy is x in memory of its own, with marked spare room behind each list.
func roomyCopy(x reflect.Value) reflect.Value {
	out := reflect.New(x.Type()).Elem()
	out.Set(x)
	switch x.Kind() {
	case reflect.Slice:
		all := reflect.MakeSlice(x.Type(), x.Len()+3, x.Len()+3)
		for i := range all.Len() {
			if i < x.Len() {
				all.Index(i).Set(roomyCopy(x.Index(i)))
			} else {
				mark(all.Index(i))
			}
		}
		out.Set(all.Slice(0, x.Len()))
	case reflect.Struct:
		for i := range x.NumField() {
			out.Field(i).Set(roomyCopy(x.Field(i)))
		}
	}
	return out
}

func shownAll(list []reflect.Value, room bool) string {
	var parts []string
	for _, x := range list {
		parts = append(parts, shown(x, room))
	}
	return strings.Join(parts, ", ")
}

func memoryOfAll(list []reflect.Value) []span {
	var out []span
	for _, x := range list {
		out = append(out, memoryOf(x)...)
	}
	return out
}

// apartFrom tells whether no piece of a is also one of b.
func apartFrom(a []span, b []span) bool {
	for _, x := range a {
		for _, y := range b {
			if x.from < y.to && y.from < x.to {
				return false
			}
		}
	}
	return true
}

func allApart(list []span) bool {
	for i := range list {
		if !apartFrom(list[:i], list[i:i+1]) {
			return false
		}
	}
	return true
}

// staysAsGiven holds a call of f with these very arguments to promise 26: the arguments and the
// room behind them stay as they were, the answers are the same twice, and new memory each time.
func staysAsGiven(t *testing.T, f any, in ...reflect.Value) {
	t.Helper()
	call := reflect.ValueOf(f)
	name := runtime.FuncForPC(call.Pointer()).Name()
	before := shownAll(in, true)
	first := call.Call(in)
	told := shownAll(first, false)
	second := call.Call(in)
	if shownAll(in, true) != before {
		t.Error(name, "wrote into its arguments:", before)
	}
	if shownAll(first, false) != told || shownAll(second, false) != told {
		t.Error(name, "answers unlike, of", before)
	}
	answers := append(memoryOfAll(first), memoryOfAll(second)...)
	if !allApart(answers) || !apartFrom(answers, memoryOfAll(in)) {
		t.Error(name, "answers memory that something else has, of", before)
	}
}

// stays does so with copies of the arguments that have spare room behind each list.
func stays(t *testing.T, f any, args ...any) {
	t.Helper()
	var in []reflect.Value
	for _, x := range args {
		in = append(in, roomyCopy(reflect.ValueOf(x)))
	}
	staysAsGiven(t, f, in...)
}

// staysWithTwins takes the arguments as they are, whose lists may share memory with one another.
func staysWithTwins(t *testing.T, f any, args ...any) {
	t.Helper()
	var in []reflect.Value
	for _, x := range args {
		in = append(in, reflect.ValueOf(x))
	}
	staysAsGiven(t, f, in...)
}
