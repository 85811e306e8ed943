package check

import (
	"slices"

	"touchstone/api"
	"touchstone/kind"
)

// way is where one of two ways leads to, or what is wrong with it.
type way struct {
	to api.Typed
	e  api.Errno
}

func led(to api.Typed, e api.Errno) way { return way{to, e} }

// meet is where two ways lead to, whichever is gone.
func meet(a, b way) (api.Typed, api.Errno) {
	switch {
	case a.e != api.OK:
		return refused(a.e)
	case b.e != api.OK:
		return refused(b.e)
	case a.to.Fails:
		return b.to, api.OK
	case b.to.Fails || slices.EqualFunc(a.to.Types, b.to.Types, kind.Same):
		return a.to, api.OK
	}
	return refused(api.ErrType)
}

// chooses: the instructions that go one of two ways.
func (i instruction) chooses(s []api.Type) (api.Typed, api.Errno) {
	switch {
	case i.p == api.IFLEFT && stand(s, api.Or):
		return i.either(s[1:], s[0].Args[:1], s[0].Args[1:])
	case i.p == api.IFNONE && stand(s, api.Option):
		return i.either(s[1:], nil, s[0].Args)
	case i.p == api.IFCONS && stand(s, api.List):
		return i.either(s[1:], []api.Type{s[0].Args[0], s[0]}, nil)
	case i.p == api.IF && stand(s, api.Bool):
		return i.either(s[1:], nil, nil)
	}
	return refused(api.ErrType)
}

// either is where an instruction's two rows lead to, each from what it finds on top of s.
func (i instruction) either(s, first, second []api.Type) (api.Typed, api.Errno) {
	return meet(
		led(row(i.rows[0], slices.Concat(first, s))),
		led(row(i.rows[1], slices.Concat(second, s))))
}

// enters: the instructions with one row, that is gone through never, once or often, and the one that goes through a lambda's.
func (i instruction) enters(s []api.Type) (api.Typed, api.Errno) {
	switch {
	case i.p == api.ITER && stand(s, api.List):
		return i.through(slices.Concat(s[0].Args, s[1:]), s[1:], s[1:])
	case i.p == api.ITER && stand(s, api.Map):
		item := []api.Type{of(api.Pair, s[0].Args...)}
		return i.through(slices.Concat(item, s[1:]), s[1:], s[1:])
	case i.p == api.LOOP && stand(s, api.Bool):
		return i.through(s[1:], s, s[1:])
	case i.p == api.LAMBDA && !mints(i.rows[0]):
		lambda := []api.Type{of(api.Lambda, i.types...)}
		return i.through(i.types[:1], i.types[1:], slices.Concat(lambda, s))
	case i.p == api.EXEC && stand(s, whatever, api.Lambda) && kind.Same(s[0], s[1].Args[0]):
		return put(s[2:], s[1].Args[1])
	case i.p == api.DIP && stand(s, whatever):
		return i.below(s[0], s[1:])
	}
	return refused(api.ErrType)
}

// through is behind, if an instruction's row leads from and to these.
func (i instruction) through(from, to, behind []api.Type) (api.Typed, api.Errno) {
	if _, e := meet(led(row(i.rows[0], from)), led(put(to))); e != api.OK {
		return refused(e)
	}
	return put(behind)
}

// below is where an instruction's row leads to from s, with top on top again.
func (i instruction) below(top api.Type, s []api.Type) (api.Typed, api.Errno) {
	to, e := row(i.rows[0], s)
	switch {
	case e != api.OK:
		return refused(e)
	case to.Fails:
		return refused(api.ErrForm)
	}
	return put(to.Types, top)
}
