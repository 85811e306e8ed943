package tree

import (
	"math/bits"

	"touchstone/api"
)

// Decode is the tree of bytes.
func Decode(s string) (api.Node, api.Errno) {
	r := &reader{rest: s}
	n := r.node(1)
	if r.rest != "" {
		r.fail(api.ErrForm)
	}
	if r.wrong != api.OK {
		return api.Node{}, r.wrong
	}
	return n, api.OK
}

// reader reads from the front of rest and remembers what went wrong first. From then on it stands still and takes nothing more, so that only who reads one thing after the other has to ask.
type reader struct {
	rest  string
	nodes int
	wrong api.Errno
}

func (r *reader) fail(e api.Errno) {
	if r.wrong == api.OK {
		r.wrong = e
	}
}

func (r *reader) node(depth int) api.Node {
	if r.nodes == api.MaxNodes || depth > api.MaxDepth {
		r.fail(api.ErrLong)
		return api.Node{}
	}
	r.nodes++
	n := api.Node{Kind: r.octet()}
	switch n.Kind {
	case api.Int:
		n.N = r.number()
	case api.Text:
		n.S = r.text()
	case api.Prim:
		n.P = r.prim()
		n.Args = r.args(depth)
	case api.Seq:
		n.Args = r.args(depth)
	default:
		r.fail(api.ErrForm)
	}
	return n
}

// args reads the Args of a node. How many they say they are may be far more than there are bytes, so no room is made ahead of reading them.
func (r *reader) args(depth int) []api.Node {
	var list []api.Node
	for left := r.count(); left > 0 && r.wrong == api.OK; left-- {
		list = append(list, r.node(depth+1))
	}
	return list
}

func (r *reader) prim() int {
	p := r.octet()
	if !isPrim(p) {
		r.fail(api.ErrForm)
	}
	return p
}

func (r *reader) text() string {
	n := r.count()
	if n > api.MaxText {
		r.fail(api.ErrForm)
	}
	return r.take(n)
}

// count reads a number that counts something.
func (r *reader) count() int {
	n := r.number()
	if n < 0 {
		r.fail(api.ErrForm)
		return 0
	}
	return n
}

// number reads a number that is within the bounds and has no more bytes than it takes.
func (r *reader) number() int {
	first := r.octet()
	below, size := first&sign != 0, first&(sign-1)
	last := first
	for shift := firstBits; last >= more; shift += nextBits {
		// All bits from here on stand above those of MaxInt, and might fall out of size unseen.
		if shift >= bits.Len(api.MaxInt) {
			r.fail(api.ErrForm)
			return 0
		}
		last = r.octet()
		size |= (last & (more - 1)) << shift
	}
	longer := first >= more && last == 0
	if longer || size > api.MaxInt || below && size == 0 {
		r.fail(api.ErrForm)
		return 0
	}
	if below {
		return -size
	}
	return size
}

func (r *reader) octet() int {
	s := r.take(1)
	if s == "" {
		return 0
	}
	return int(s[0])
}

func (r *reader) take(n int) string {
	if n > len(r.rest) {
		r.fail(api.ErrForm)
	}
	if r.wrong != api.OK {
		return ""
	}
	s := r.rest[:n]
	r.rest = r.rest[n:]
	return s
}
