package row

import "overhaul/api"

// reader of bytes: what is left of them; wrong, once no values have these bytes.
type reader struct {
	left  string
	wrong bool
}

// values, as many as the first byte says, be they right or not.
func (r *reader) values() []api.Value {
	var l []api.Value
	for many := r.number(1); many > 0 && !r.wrong; many-- {
		l = append(l, r.value())
	}
	return l
}

func (r *reader) value() api.Value {
	v := api.Value{Kind: r.number(1)}
	switch v.Kind {
	case 0:
	case api.TypeInt:
		v.N = r.number(intSize) - api.MaxInt
	case api.TypeText:
		v.S = r.take(r.number(1))
	case api.TypeBool:
		v.N = r.number(1)
	default:
		r.wrong = true
	}
	return v
}

// number of so many bytes, the lesser ones first.
func (r *reader) number(many int) int {
	n := 0
	for i, c := range []byte(r.take(many)) {
		n |= int(c) << (8 * i)
	}
	return n
}

// take so many bytes; none, if there are fewer.
func (r *reader) take(many int) string {
	if many > len(r.left) {
		r.wrong = true
		return ""
	}
	s := r.left[:many]
	r.left = r.left[many:]
	return s
}
