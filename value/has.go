package value

import (
	"slices"

	"touchstone/api"
	"touchstone/kind"
	"touchstone/num"
)

// claim is that a value is one of a type, which is good.
type claim struct {
	t api.Type
	v api.Value
}

type claims []claim

// Has is whether a value is one of a good type.
func Has(t api.Type, v api.Value) bool {
	if !kind.Good(t) {
		return false
	}
	var maps [][]api.Value
	// Claims stand in a list and are not calls within calls: an operation may have another one as its argument, that one a third, deeper than there is room for calls.
	todo := claims{{t, v}}
	for len(todo) > 0 {
		last := len(todo) - 1
		next := todo[last]
		todo = todo[:last]
		if !fits(next.t, next.v) {
			return false
		}
		parts, ok := ofArgs(next.t, next.v)
		if !ok {
			return false
		}
		if next.t.T == api.Map {
			maps = append(maps, next.v.Args)
		}
		todo = append(todo, parts...)
	}
	// Keys are compared last: by then it is sure that they are of a type that can be.
	return !slices.ContainsFunc(maps, func(m []api.Value) bool { return !rises(m) })
}

// fits is whether a value is one of a type, but for its Args.
func fits(t api.Type, v api.Value) bool {
	return v.K == t.T &&
		fitsN(t.T, v.N) &&
		(v.A == 0 || isSent(t.T) && isAddress(v.A)) &&
		(v.S == "" || t.T == api.String && len(v.S) <= api.MaxText) &&
		fitsTypes(t, v.Types) &&
		(len(v.Code) == 0 || t.T == api.Lambda)
}

// fitsN is whether a value of the type t may have n as its N.
func fitsN(t, n int) bool {
	switch t {
	case api.Bool, api.Or:
		return n == 0 || n == 1
	case api.Integer:
		return num.In(n)
	case api.Nat, api.Mutez, api.Operation:
		return isAmount(n)
	case api.Ticket:
		return isAmount(n) && n != 0
	case api.Address:
		return isAddress(n)
	}
	return n == 0
}

// isSent is whether values of the type t have an address beside a number.
func isSent(t int) bool { return t == api.Operation || t == api.Ticket }

func isAmount(n int) bool { return n >= 0 && num.In(n) }

func isAddress(n int) bool { return n >= 0 && n < api.Accounts }

// fitsTypes is whether a value of the type t may have these Types.
func fitsTypes(t api.Type, types []api.Type) bool {
	switch t.T {
	case api.Operation:
		return len(types) == 1 && kind.Good(types[0])
	case api.Lambda:
		return slices.EqualFunc(types, t.Args, kind.Same)
	}
	return len(types) == 0
}

// ofArgs is what must be so of the Args of a value that fits a type, and whether they are as many as they may be.
func ofArgs(t api.Type, v api.Value) (claims, bool) {
	switch t.T {
	case api.Operation:
		return oneEach(v.Args, v.Types...)
	case api.Option:
		if len(v.Args) == 0 {
			return nil, true
		}
	case api.List:
		return items(v.Args, t.Args[0])
	case api.Map:
		return items(v.Args, api.Type{T: api.Pair, Args: t.Args})
	case api.Or:
		return oneEach(v.Args, t.Args[v.N])
	case api.Lambda:
		return oneEach(v.Args)
	}
	return oneEach(v.Args, t.Args...)
}

// oneEach claims that a list has one of each of these types.
func oneEach(list []api.Value, types ...api.Type) (claims, bool) {
	if len(list) != len(types) {
		return nil, false
	}
	c := slices.Grow(claims(nil), len(list))
	for i, v := range list {
		c = append(c, claim{types[i], v})
	}
	return c, true
}

// items claims that all of a list are of one type.
func items(list []api.Value, t api.Type) (claims, bool) {
	// How long it is comes first, so that no list is gone through that is too long.
	if len(list) > api.MaxItems {
		return nil, false
	}
	return oneEach(list, slices.Repeat([]api.Type{t}, len(list))...)
}

// rises is whether each key of a map's Pairs stands behind the one ahead of it.
func rises(m []api.Value) bool {
	for i := 1; i < len(m); i++ {
		if Order(keyOf(m[i-1]), keyOf(m[i])) >= 0 {
			return false
		}
	}
	return true
}
