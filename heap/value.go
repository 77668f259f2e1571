package heap

import "strconv"

// Value is one.
type Value struct {
	Kind int
	N    int
	S    string
}

// Of is a number's.
func Of(n int) (_ Value) { return Value{Kind: Number, N: n} }

// Say is a text's.
func Say(s string) (_ Value) { return Value{Kind: Text, S: s} }

// Is is a truth's.
func Is(b bool) (_ Value) {
	if b {
		return Value{Kind: Bool, N: 1}
	}
	return Value{Kind: Bool}
}

// True says whether a value counts as true: all but undefined, null, false, 0 and the empty text.
func (v Value) True() (_ bool) {
	switch v.Kind {
	case Undefined, Null:
		return false
	case Bool, Number:
		return v.N != 0
	case Text:
		return v.S != ""
	}
	return true
}

// Show writes a value as print does; of no kind that there is: nothing.
func (h *Heap) Show(v Value) (_ string) {
	switch v.Kind {
	case Undefined:
		return "undefined"
	case Null:
		return "null"
	case Bool:
		return strconv.FormatBool(v.True())
	case Number:
		return strconv.Itoa(v.N)
	case Text:
		return v.S
	case Ref:
		return h.showObject(v.N)
	}
	return ""
}

func (h *Heap) showObject(object int) string {
	if h.Code(object) != 0 {
		return "function"
	}
	return "object"
}
