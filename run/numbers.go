package run

import (
	"touchstone/api"
	"touchstone/num"
	"touchstone/value"
)

// reckons: the instructions on numbers.
func (m *machine) reckons(p int) api.Errno {
	a := m.take()
	switch p {
	case api.ABS:
		n, e := num.Abs(a.N)
		return m.putNumber(api.Nat, n, e)
	case api.ISNAT:
		if a.N < 0 {
			return m.put(none())
		}
		return m.put(some(number(api.Nat, a.N)))
	case api.INT:
		return m.put(number(api.Integer, a.N))
	case api.EDIV:
		return m.divides(a, m.take())
	}
	b := m.take()
	n, e := reckoned(p, a.N, b.N)
	if p == api.SUB && a.K == api.Mutez {
		if n < 0 {
			return m.put(none())
		}
		return m.put(some(number(api.Mutez, n)))
	}
	return m.putNumber(kindOf(p, a.K, b.K), n, e)
}

func reckoned(p, a, b int) (int, api.Errno) {
	switch p {
	case api.ADD:
		return num.Add(a, b)
	case api.SUB:
		return num.Sub(a, b)
	}
	return num.Mul(a, b)
}

// kindOf is of which kind a sum, a difference or a product of numbers of the kinds a and b is.
func kindOf(p, a, b int) int {
	switch {
	case a == api.Mutez || b == api.Mutez:
		return api.Mutez
	case p != api.SUB && a == api.Nat && b == api.Nat:
		return api.Nat
	}
	return api.Integer
}

// putNumber puts a number, if there is one.
func (m *machine) putNumber(k, n int, e api.Errno) api.Errno {
	if e != api.OK {
		return e
	}
	return m.put(number(k, n))
}

// divides puts the quotient and the rest of two numbers, if there are any.
func (m *machine) divides(a, b api.Value) api.Errno {
	q, r, e := num.Ediv(a.N, b.N)
	switch {
	case e == api.ErrNone:
		return m.put(none())
	case e != api.OK:
		return e
	}
	kq, kr := api.Integer, api.Nat
	switch {
	case a.K == api.Mutez && b.K == api.Mutez:
		kq, kr = api.Nat, api.Mutez
	case a.K == api.Mutez:
		kq, kr = api.Mutez, api.Mutez
	case a.K == api.Nat && b.K == api.Nat:
		kq = api.Nat
	}
	return m.put(some(pair(number(kq, q), number(kr, r))))
}

// asks: the instructions that tell how values stand to each other, and what is true.
func (m *machine) asks(p int) api.Errno {
	a := m.take()
	switch p {
	case api.COMPARE:
		return m.put(number(api.Integer, value.Order(a, m.take())))
	case api.EQ:
		return m.put(truth(a.N == 0))
	case api.LT:
		return m.put(truth(a.N < 0))
	case api.GT:
		return m.put(truth(a.N > 0))
	case api.NOT:
		return m.put(truth(!isTrue(a)))
	}
	b := m.take()
	if p == api.AND {
		return m.put(truth(isTrue(a) && isTrue(b)))
	}
	return m.put(truth(isTrue(a) || isTrue(b)))
}
