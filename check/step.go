package check

import (
	"slices"

	"touchstone/api"
	"touchstone/kind"
	"touchstone/value"
)

// step is what one instruction makes of types, be they too many or too large. In all of what follows the types that stand there are good, so that they are made of as many as they should be.
func step(n api.Node, s []api.Type) (api.Typed, api.Errno) {
	if n.Kind == api.Seq {
		return row(n.Args, s)
	}
	i, ok := read(n)
	if !ok {
		return refused(api.ErrForm)
	}
	switch i.p {
	case api.DROP, api.DUP, api.SWAP, api.DIG, api.DUG:
		return i.moves(s)
	case api.PAIR, api.UNPAIR, api.CAR, api.CDR, api.LEFT, api.RIGHT, api.SOME, api.NONE:
		return i.binds(s)
	case api.NIL, api.CONS, api.SIZE, api.EMPTYMAP, api.GET, api.UPDATE:
		return i.gathers(s)
	case api.IFLEFT, api.IFNONE, api.IFCONS, api.IF:
		return i.chooses(s)
	case api.ITER, api.LOOP, api.LAMBDA, api.EXEC, api.DIP:
		return i.enters(s)
	case api.ADD, api.SUB, api.MUL, api.EDIV, api.ABS, api.ISNAT, api.INT:
		return i.reckons(s)
	case api.COMPARE, api.EQ, api.LT, api.GT, api.NOT, api.AND, api.OR:
		return i.asks(s)
	case api.PUSH, api.CONCAT, api.PACK, api.UNPACK, api.FAILWITH:
		return i.tells(s)
	case api.TICKET, api.READ, api.SPLIT, api.JOIN:
		return i.vouches(s)
	}
	return i.sends(s)
}

// moves: the instructions that make nothing new.
func (i instruction) moves(s []api.Type) (api.Typed, api.Errno) {
	switch {
	case i.p == api.DROP && stand(s, whatever):
		return put(s[1:])
	case i.p == api.DUP && 1 <= i.n && i.n <= len(s) && kind.Copied(s[i.n-1]):
		return put(s, s[i.n-1])
	case i.p == api.SWAP && stand(s, whatever, whatever):
		return put(s[2:], s[1], s[0])
	case i.p == api.DIG && i.n < len(s):
		return put(slices.Concat(s[:i.n], s[i.n+1:]), s[i.n])
	case i.p == api.DUG && i.n < len(s):
		return put(slices.Concat(s[:1], s[i.n+1:]), s[1:i.n+1]...)
	}
	return refused(api.ErrType)
}

// binds: the instructions on pairs, ors and options, but for the choices.
func (i instruction) binds(s []api.Type) (api.Typed, api.Errno) {
	switch {
	case i.p == api.PAIR && stand(s, whatever, whatever):
		return put(s[2:], of(api.Pair, s[0], s[1]))
	case i.p == api.UNPAIR && stand(s, api.Pair):
		return put(s[1:], s[0].Args...)
	case i.p == api.CAR && stand(s, api.Pair):
		return put(s[1:], s[0].Args[0])
	case i.p == api.CDR && stand(s, api.Pair):
		return put(s[1:], s[0].Args[1])
	case i.p == api.LEFT && stand(s, whatever):
		return put(s[1:], of(api.Or, s[0], i.types[0]))
	case i.p == api.RIGHT && stand(s, whatever):
		return put(s[1:], of(api.Or, i.types[0], s[0]))
	case i.p == api.SOME && stand(s, whatever):
		return put(s[1:], of(api.Option, s[0]))
	case i.p == api.NONE:
		return put(s, of(api.Option, i.types[0]))
	}
	return refused(api.ErrType)
}

// gathers: the instructions on lists and maps, but for those with ways.
func (i instruction) gathers(s []api.Type) (api.Typed, api.Errno) {
	switch {
	case i.p == api.NIL:
		return put(s, of(api.List, i.types[0]))
	case i.p == api.CONS && stand(s, whatever, api.List) && kind.Same(s[0], s[1].Args[0]):
		return put(s[1:])
	case i.p == api.SIZE && (stand(s, api.String) || stand(s, api.List) || stand(s, api.Map)):
		return put(s[1:], of(api.Nat))
	case i.p == api.EMPTYMAP && kind.Comparable(i.types[0]):
		return put(s, of(api.Map, i.types...))
	case i.p == api.GET && stand(s, whatever, api.Map):
		key, item := s[1].Args[0], s[1].Args[1]
		if kind.Same(s[0], key) && kind.Copied(item) {
			return put(s[2:], of(api.Option, item))
		}
	case i.p == api.UPDATE && stand(s, whatever, api.Option, api.Map):
		key, item := s[2].Args[0], s[2].Args[1]
		if kind.Same(s[0], key) && kind.Same(s[1].Args[0], item) {
			return put(s[2:])
		}
	}
	return refused(api.ErrType)
}

// reckons: the instructions on numbers.
func (i instruction) reckons(s []api.Type) (api.Typed, api.Errno) {
	switch {
	case i.p == api.ABS && stand(s, api.Integer):
		return put(s[1:], of(api.Nat))
	case i.p == api.ISNAT && stand(s, api.Integer):
		return put(s[1:], of(api.Option, of(api.Nat)))
	case i.p == api.INT && stand(s, api.Nat):
		return put(s[1:], of(api.Integer))
	case isOfTwo(i.p) && stand(s, whatever, whatever):
		if t, ok := reckoned(i.p, s[0].T, s[1].T); ok {
			return put(s[2:], t)
		}
	}
	return refused(api.ErrType)
}

func isOfTwo(p int) bool { return p == api.ADD || p == api.SUB || p == api.MUL || p == api.EDIV }

// reckoned is the type of what p makes of numbers of the kinds a and b, if it makes something of them.
func reckoned(p, a, b int) (api.Type, bool) {
	nat, mutez := of(api.Nat), of(api.Mutez)
	nats := a == api.Nat && b == api.Nat
	coins := a == api.Mutez && b == api.Mutez
	switch {
	case p == api.ADD && coins:
		return mutez, true
	case p == api.SUB && coins:
		return of(api.Option, mutez), true
	case p == api.MUL && (a == api.Mutez && b == api.Nat || a == api.Nat && b == api.Mutez):
		return mutez, true
	case p == api.EDIV && coins:
		return divided(nat, mutez), true
	case p == api.EDIV && a == api.Mutez && b == api.Nat:
		return divided(mutez, mutez), true
	case !isWhole(a) || !isWhole(b):
		return api.Type{}, false
	case p == api.EDIV && nats:
		return divided(nat, nat), true
	case p == api.EDIV:
		return divided(of(api.Integer), nat), true
	case p != api.SUB && nats:
		return nat, true
	}
	return of(api.Integer), true
}

func isWhole(t int) bool { return t == api.Integer || t == api.Nat }

// divided is the type of a quotient and a rest, if there are any.
func divided(q, r api.Type) api.Type { return of(api.Option, of(api.Pair, q, r)) }

// asks: the instructions that tell how values stand to each other, and what is true.
func (i instruction) asks(s []api.Type) (api.Typed, api.Errno) {
	switch {
	case i.p == api.COMPARE && stand(s, whatever, whatever) && kind.Same(s[0], s[1]) && kind.Comparable(s[0]):
		return put(s[2:], of(api.Integer))
	case (i.p == api.EQ || i.p == api.LT || i.p == api.GT) && stand(s, api.Integer):
		return put(s[1:], of(api.Bool))
	case i.p == api.NOT && stand(s, api.Bool):
		return put(s[1:], of(api.Bool))
	case (i.p == api.AND || i.p == api.OR) && stand(s, api.Bool, api.Bool):
		return put(s[2:], of(api.Bool))
	}
	return refused(api.ErrType)
}

// tells: the instructions on texts, and on values as they are told.
func (i instruction) tells(s []api.Type) (api.Typed, api.Errno) {
	switch {
	case i.p == api.PUSH && kind.Packed(i.types[0]):
		if _, e := value.Parse(i.types[0], i.data); e == api.OK {
			return put(s, i.types[0])
		}
	case i.p == api.CONCAT && stand(s, api.String, api.String):
		return put(s[2:], of(api.String))
	case i.p == api.PACK && stand(s, whatever) && kind.Packed(s[0]):
		return put(s[1:], of(api.String))
	case i.p == api.UNPACK && stand(s, api.String) && kind.Packed(i.types[0]):
		return put(s[1:], of(api.Option, i.types[0]))
	case i.p == api.FAILWITH && stand(s, whatever) && kind.Packed(s[0]):
		return api.Typed{Fails: true}, api.OK
	}
	return refused(api.ErrType)
}

// vouches: the instructions on tickets.
func (i instruction) vouches(s []api.Type) (api.Typed, api.Errno) {
	nat := of(api.Nat)
	switch {
	case i.p == api.TICKET && stand(s, whatever, api.Nat) && kind.Comparable(s[0]):
		return put(s[2:], of(api.Option, of(api.Ticket, s[0])))
	case i.p == api.READ && stand(s, api.Ticket):
		return put(s, of(api.Pair, of(api.Address), of(api.Pair, s[0].Args[0], nat)))
	case i.p == api.SPLIT && stand(s, api.Ticket, api.Pair) && stand(s[1].Args, api.Nat, api.Nat):
		return put(s[2:], of(api.Option, of(api.Pair, s[0], s[0])))
	case i.p == api.JOIN && stand(s, api.Pair) && stand(s[0].Args, api.Ticket, api.Ticket):
		if kind.Same(s[0].Args[0], s[0].Args[1]) {
			return put(s[1:], of(api.Option, s[0].Args[0]))
		}
	}
	return refused(api.ErrType)
}

// sends: the instructions on who runs, and who is sent to.
func (i instruction) sends(s []api.Type) (api.Typed, api.Errno) {
	switch {
	case i.p == api.TRANSFER && stand(s, whatever, api.Mutez, api.Address):
		if kind.Same(s[0], i.types[0]) && kind.Stored(s[0]) {
			return put(s[3:], of(api.Operation))
		}
	case i.p == api.SELF || i.p == api.SENDER:
		return put(s, of(api.Address))
	case i.p == api.AMOUNT || i.p == api.BALANCE:
		return put(s, of(api.Mutez))
	}
	return refused(api.ErrType)
}

// whatever is what stand takes for any type.
const whatever = 0

// stand is whether there are types of these kinds in front.
func stand(s []api.Type, kinds ...int) bool {
	if len(s) < len(kinds) {
		return false
	}
	for i, k := range kinds {
		if k != whatever && s[i].T != k {
			return false
		}
	}
	return true
}

// put is s with these on top of it.
func put(s []api.Type, top ...api.Type) (api.Typed, api.Errno) {
	// A list of its own: s may be a piece of one that is still asked for.
	return api.Typed{Types: slices.Concat(top, s)}, api.OK
}

func of(t int, args ...api.Type) api.Type { return api.Type{T: t, Args: args} }
