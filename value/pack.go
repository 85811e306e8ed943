package value

import (
	"strings"

	"touchstone/api"
	"touchstone/kind"
	"touchstone/tree"
)

// mark stands ahead of the bytes of a value.
const mark = "\x05"

// Told is the bytes of a value that is one of a type that can be told.
func Told(v api.Value) (string, api.Errno) {
	s, e := tree.Encode(treeOf(v))
	if e != api.OK {
		return "", e
	}
	if len(mark)+len(s) > api.MaxText {
		return "", api.ErrLong
	}
	return mark + s, api.OK
}

// Pack is the bytes of a value of a type that can be told.
func Pack(t api.Type, v api.Value) (string, api.Errno) {
	if !canTell(t, v) {
		return "", api.ErrType
	}
	return Told(v)
}

// Unpack is the value of a type that bytes tell.
func Unpack(t api.Type, s string) (api.Value, api.Errno) {
	rest, marked := strings.CutPrefix(s, mark)
	if !marked || len(s) > api.MaxText {
		return api.Value{}, api.ErrForm
	}
	n, e := tree.Decode(rest)
	if e != api.OK {
		return api.Value{}, api.ErrForm
	}
	v, e := Parse(t, n)
	if e != api.OK || !kind.Packed(t) {
		return api.Value{}, api.ErrForm
	}
	return v, api.OK
}
