package run

import (
	"touchstone/api"
	"touchstone/num"
	"touchstone/value"
)

// vouches: the instructions on tickets.
func (m *machine) vouches(p int) api.Errno {
	a := m.take()
	switch p {
	case api.TICKET:
		return m.mints(a, m.take().N)
	case api.READ:
		return m.put(pair(number(api.Address, a.A), pair(a.Args[0], number(api.Nat, a.N))), a)
	case api.SPLIT:
		return m.splits(a, m.take())
	}
	return m.joins(a.Args[0], a.Args[1])
}

// mints puts n tickets of a value as one, if that is any.
func (m *machine) mints(of api.Value, n int) api.Errno {
	if n == 0 {
		return m.put(none())
	}
	all, e := num.Add(m.minted, n)
	if e != api.OK {
		return e
	}
	m.minted = all
	return m.put(some(ticket(m.env.Self, n, of)))
}

// splits puts a ticket's two parts, if they are as many as it is.
func (m *machine) splits(t, parts api.Value) api.Errno {
	a, b := parts.Args[0].N, parts.Args[1].N
	if a == 0 || b == 0 || a+b != t.N {
		return m.put(none())
	}
	return m.put(some(pair(ticket(t.A, a, t.Args[0]), ticket(t.A, b, t.Args[0]))))
}

// joins puts two tickets as one, if they are of one sort.
func (m *machine) joins(a, b api.Value) api.Errno {
	if a.A != b.A || !value.Same(a.Args[0], b.Args[0]) {
		return m.put(none())
	}
	n, e := num.Add(a.N, b.N)
	if e != api.OK {
		return e
	}
	return m.put(some(ticket(a.A, n, a.Args[0])))
}

// sends: the instructions on who runs, and who is sent to.
func (m *machine) sends(n api.Node) api.Errno {
	switch n.P {
	case api.SELF:
		return m.put(number(api.Address, m.env.Self))
	case api.SENDER:
		return m.put(number(api.Address, m.env.Sender))
	case api.AMOUNT:
		return m.put(number(api.Mutez, m.env.Amount))
	case api.BALANCE:
		return m.put(number(api.Mutez, m.env.Balance))
	}
	v, amount, to := m.take(), m.take(), m.take()
	return m.put(api.Value{K: api.Operation, A: to.N, N: amount.N, Args: []api.Value{v}, Types: []api.Type{typeOf(n.Args[0])}})
}
