package run

import (
	"slices"

	"touchstone/api"
	"touchstone/kind"
	"touchstone/value"
)

// step does one instruction, up to where its rows begin.
func (m *machine) step(n api.Node) api.Errno {
	if n.Kind == api.Seq {
		m.enter(frame{rest: n.Args})
		return api.OK
	}
	if e := m.pay(); e != api.OK {
		return e
	}
	switch n.P {
	case api.DROP, api.DUP, api.SWAP, api.DIG, api.DUG:
		return m.moves(n)
	case api.PAIR, api.UNPAIR, api.CAR, api.CDR, api.LEFT, api.RIGHT, api.SOME, api.NONE:
		return m.binds(n.P)
	case api.NIL, api.CONS, api.SIZE, api.EMPTYMAP, api.GET, api.UPDATE:
		return m.gathers(n.P)
	case api.IFLEFT, api.IFNONE, api.IFCONS, api.IF:
		return m.chooses(n)
	case api.ITER, api.LOOP, api.LAMBDA, api.EXEC, api.DIP:
		return m.enters(n)
	case api.ADD, api.SUB, api.MUL, api.EDIV, api.ABS, api.ISNAT, api.INT:
		return m.reckons(n.P)
	case api.COMPARE, api.EQ, api.LT, api.GT, api.NOT, api.AND, api.OR:
		return m.asks(n.P)
	case api.PUSH, api.CONCAT, api.PACK, api.UNPACK, api.FAILWITH:
		return m.tells(n)
	case api.TICKET, api.READ, api.SPLIT, api.JOIN:
		return m.vouches(n.P)
	}
	return m.sends(n)
}

// moves: the instructions that make nothing new.
func (m *machine) moves(n api.Node) api.Errno {
	switch n.P {
	case api.DROP:
		m.take()
	case api.DUP:
		return m.put(m.stack[len(m.stack)-n.Args[0].N])
	case api.SWAP:
		a, b := m.take(), m.take()
		return m.put(b, a)
	case api.DIG:
		at := len(m.stack) - 1 - n.Args[0].N
		v := m.stack[at]
		m.stack = slices.Delete(m.stack, at, at+1)
		m.move(v)
	case api.DUG:
		v := m.take()
		m.stack = slices.Insert(m.stack, len(m.stack)-n.Args[0].N, v)
	}
	return api.OK
}

// binds: the instructions on pairs, ors and options, but for the choices.
func (m *machine) binds(p int) api.Errno {
	if p == api.NONE {
		return m.put(none())
	}
	a := m.take()
	switch p {
	case api.PAIR:
		return m.put(pair(a, m.take()))
	case api.CAR:
		return m.put(a.Args[0])
	case api.CDR:
		return m.put(a.Args[1])
	case api.LEFT:
		return m.put(api.Value{K: api.Or, N: 0, Args: []api.Value{a}})
	case api.RIGHT:
		return m.put(api.Value{K: api.Or, N: 1, Args: []api.Value{a}})
	case api.SOME:
		return m.put(some(a))
	}
	return m.put(a.Args...)
}

// gathers: the instructions on lists and maps, but for those with ways.
func (m *machine) gathers(p int) api.Errno {
	switch p {
	case api.NIL:
		return m.put(made(api.List))
	case api.EMPTYMAP:
		return m.put(made(api.Map))
	case api.SIZE:
		v := m.take()
		// A text has no Args, all else no text.
		return m.put(number(api.Nat, len(v.S)+len(v.Args)))
	case api.CONS:
		first, list := m.take(), m.take()
		return m.putItems(api.List, slices.Concat([]api.Value{first}, list.Args))
	case api.GET:
		key, list := m.take(), m.take().Args
		at, ok := value.Search(list, key)
		if !ok {
			return m.put(none())
		}
		return m.put(some(list[at].Args[1]))
	}
	key, item, list := m.take(), m.take(), m.take()
	return m.putItems(api.Map, updated(list.Args, key, item.Args...))
}

// putItems puts a list or a map, if there are not too many in it.
func (m *machine) putItems(k int, items []api.Value) api.Errno {
	if len(items) > api.MaxItems {
		return api.ErrBig
	}
	return m.put(made(k, items...))
}

// updated are a map's Pairs with an item at the key, or without the key if there is no item.
func updated(list []api.Value, key api.Value, item ...api.Value) []api.Value {
	at, ok := value.Search(list, key)
	behind := list[at:]
	if ok {
		behind = list[at+1:]
	}
	// Without spare room: what is added must not be written over the list, which others may have.
	ahead := list[:at:at]
	for _, v := range item {
		ahead = append(ahead, pair(key, v))
	}
	return slices.Concat(ahead, behind)
}

// tells: the instructions on texts, and on values as they are told.
func (m *machine) tells(n api.Node) api.Errno {
	if n.P == api.PUSH {
		// No error: the check has asked for that.
		v, _ := value.Parse(typeOf(n.Args[0]), n.Args[1])
		return m.put(v)
	}
	a := m.take()
	switch n.P {
	case api.CONCAT:
		s := a.S + m.take().S
		if len(s) > api.MaxText {
			return api.ErrBig
		}
		return m.put(text(s))
	case api.PACK:
		s, e := value.Told(a)
		if e != api.OK {
			return api.ErrBig
		}
		return m.put(text(s))
	case api.UNPACK:
		v, e := value.Unpack(typeOf(n.Args[0]), a.S)
		if e != api.OK {
			return m.put(none())
		}
		return m.put(some(v))
	}
	m.said = a
	return api.ErrFail
}

// typeOf is the type of a tree that is known to be one's.
func typeOf(n api.Node) api.Type {
	t, _ := kind.Parse(n)
	return t
}
