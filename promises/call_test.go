package promises

import (
	"reflect"
	"testing"

	"overhaul/api"
)

// call of the program: a function whose last result is an Errno (or which has none), and what is handed in.
type call struct {
	name string
	f    any
	in   []any
}

func (c call) handedIn(room int) []reflect.Value {
	var l []reflect.Value
	for _, x := range c.in {
		l = append(l, deep(reflect.ValueOf(x), room))
	}
	return l
}

func (c call) on(in []reflect.Value) []reflect.Value { return reflect.ValueOf(c.f).Call(in) }

func each(l []reflect.Value, do func(reflect.Value) reflect.Value) []reflect.Value {
	var all []reflect.Value
	for _, v := range l {
		all = append(all, do(v))
	}
	return all
}

func sameAll(a, b []reflect.Value) bool {
	for i := range a {
		if !same(a[i], b[i]) {
			return false
		}
	}
	return len(a) == len(b)
}

func spansOf(l []reflect.Value) []span {
	var all []span
	for _, v := range l {
		all = append(all, spans(v)...)
	}
	return all
}

// wantP1: with an error every other result is empty.
func wantP1(t *testing.T, c call, out []reflect.Value) {
	t.Helper()
	last := len(out) - 1
	if f, is := out[last].Interface().(api.Errno); !is || f == api.OK {
		return
	}
	for _, v := range out[:last] {
		if !isEmpty(v) {
			t.Fatalf("%s: with error %v it is %+v", c.name, out[last], v)
		}
	}
}

// wantP2: what is handed in is only read, the room behind it too; what is answered is new memory, no two lists of it have the same, and it is not seen when what was handed in is changed.
func wantP2(t *testing.T, c call, in, was, out []reflect.Value) {
	t.Helper()
	if !sameAll(each(in, whole), was) {
		t.Fatalf("%s: what was handed in is %+v; it was %+v", c.name, in, was)
	}
	if share(spansOf(out), spansOf(in)) {
		t.Fatalf("%s: what is answered shares memory with what was handed in: %+v", c.name, out)
	}
	if shareAmong(spansOf(out)) {
		t.Fatalf("%s: two lists share memory: %+v", c.name, out)
	}
	first := each(out, whole)
	for _, v := range in {
		spoil(settable(v))
	}
	if !sameAll(each(out, whole), first) {
		t.Fatalf("%s: it is %+v, and was %+v", c.name, out, first)
	}
}

// settable: a value that may be set, with the same lists.
func settable(v reflect.Value) reflect.Value {
	made := reflect.New(v.Type()).Elem()
	made.Set(v)
	return made
}

// wantP3: the same comes again, when what came first is spoilt, too.
func wantP3(t *testing.T, c call, out []reflect.Value) {
	t.Helper()
	first := each(out, func(v reflect.Value) reflect.Value { return deep(v, 0) })
	for _, v := range out {
		spoil(settable(v))
	}
	if again := c.on(c.handedIn(0)); !sameAll(again, first) {
		t.Fatalf("%s: it is %+v, and was %+v", c.name, again, first)
	}
}

// wantAll: the promises for all chapters, of one call.
func wantAll(t *testing.T, c call) {
	t.Helper()
	in := c.handedIn(3)
	was := each(in, whole)
	out := c.on(in)
	wantP1(t, c, out)
	wantP2(t, c, in, was, out)
	wantP3(t, c, out)
}
