package promises

import "reflect"

// deep copy of what is made of structs and lists; behind each list there is so much room, in which something stands.
func deep(v reflect.Value, room int) reflect.Value {
	made := reflect.New(v.Type()).Elem()
	made.Set(v)
	switch v.Kind() {
	case reflect.Slice:
		l := reflect.MakeSlice(v.Type(), v.Len()+room, v.Len()+room)
		for i := range v.Len() {
			l.Index(i).Set(deep(v.Index(i), room))
		}
		for i := range room {
			spoil(l.Index(v.Len() + i))
		}
		made.Set(l.Slice(0, v.Len()))
	case reflect.Struct:
		for i := range v.NumField() {
			made.Field(i).Set(deep(v.Field(i), room))
		}
	}
	return made
}

// whole: a deep copy in which lists are as long as their room.
func whole(v reflect.Value) reflect.Value {
	made := reflect.New(v.Type()).Elem()
	made.Set(v)
	switch v.Kind() {
	case reflect.Slice:
		l := v.Slice(0, v.Cap())
		made.Set(reflect.MakeSlice(v.Type(), l.Len(), l.Len()))
		for i := range l.Len() {
			made.Index(i).Set(whole(l.Index(i)))
		}
	case reflect.Struct:
		for i := range v.NumField() {
			made.Field(i).Set(whole(v.Field(i)))
		}
	}
	return made
}

// spoil all that is in something, lists with their room.
func spoil(v reflect.Value) {
	switch v.Kind() {
	case reflect.Int:
		v.SetInt(-77)
	case reflect.String:
		v.SetString("spoilt")
	case reflect.Bool:
		v.SetBool(!v.Bool())
	case reflect.Slice:
		l := v.Slice(0, v.Cap())
		for i := range l.Len() {
			spoil(l.Index(i))
		}
	case reflect.Struct:
		for i := range v.NumField() {
			spoil(v.Field(i))
		}
	}
}

// span of memory that a list has, with its room.
type span struct{ from, to uintptr }

func spans(v reflect.Value) []span {
	var l []span
	switch v.Kind() {
	case reflect.Slice:
		if v.Cap() > 0 {
			l = append(l, span{v.Pointer(), v.Pointer() + uintptr(v.Cap())*v.Type().Elem().Size()})
		}
		for i := range v.Len() {
			l = append(l, spans(v.Index(i))...)
		}
	case reflect.Struct:
		for i := range v.NumField() {
			l = append(l, spans(v.Field(i))...)
		}
	}
	return l
}

// share: does one of these spans have memory that one of those has?
func share(l, others []span) bool {
	for _, a := range l {
		for _, b := range others {
			if a.from < b.to && b.from < a.to {
				return true
			}
		}
	}
	return false
}

// shareAmong: do two of these spans have memory in common?
func shareAmong(l []span) bool {
	for i := range l {
		if share(l[i:i+1], l[:i]) {
			return true
		}
	}
	return false
}

// same, but for whether lists without elements are nil.
func same(a, b reflect.Value) bool {
	switch a.Kind() {
	case reflect.Slice:
		if a.Len() != b.Len() {
			return false
		}
		for i := range a.Len() {
			if !same(a.Index(i), b.Index(i)) {
				return false
			}
		}
		return true
	case reflect.Struct:
		for i := range a.NumField() {
			if !same(a.Field(i), b.Field(i)) {
				return false
			}
		}
		return true
	}
	return a.Equal(b)
}

func isEmpty(v reflect.Value) bool { return same(v, reflect.Zero(v.Type())) }
