package run

import (
	"slices"

	"touchstone/api"
	"touchstone/value"
)

// machine is code at work.
type machine struct {
	env       api.Env
	gas, paid int
	minted    int
	said      api.Value
	stack     []api.Value // the top last
	frames    []frame
}

// frame is a row that is gone through.
type frame struct {
	rest  []api.Node  // what is left of it
	by    int         // the instruction that it is of, if there is something to do behind it
	row   []api.Node  // all of it, if it is gone through again
	aside []api.Value // ITER: the items to come; DIP: the top; EXEC: what the argument stood on
}

// work goes through all rows, till nothing is left of them or something ends it.
func (m *machine) work() api.Errno {
	for len(m.frames) > 0 {
		if e := m.next(); e != api.OK {
			return e
		}
	}
	return api.OK
}

// next does the next instruction of the last row, or what is to be done behind that row.
func (m *machine) next() api.Errno {
	last := m.last()
	if len(last.rest) == 0 {
		return m.leave()
	}
	n := last.rest[0]
	last.rest = last.rest[1:]
	return m.step(n)
}

// last is the frame of the row that is gone through now. It is not to be kept: with another frame the list may move.
func (m *machine) last() *frame { return &m.frames[len(m.frames)-1] }

// enter has a row gone through ahead of what is left of the others.
func (m *machine) enter(f frame) { m.frames = append(m.frames, f) }

// leave does what stands behind a row: to go through it again, or to end it.
func (m *machine) leave() api.Errno {
	last := m.last()
	switch last.by {
	case api.ITER:
		if len(last.aside) > 0 {
			m.move(last.aside[0])
			last.aside, last.rest = last.aside[1:], last.row
			return m.pay()
		}
	case api.LOOP:
		if isTrue(m.take()) {
			last.rest = last.row
			return m.pay()
		}
	case api.DIP:
		m.move(last.aside...)
	case api.EXEC:
		// Here the argument's stack is what is moved, onto what it stood on.
		left := m.stack
		m.stack = last.aside
		m.move(left...)
	}
	m.frames = m.frames[:len(m.frames)-1]
	return api.OK
}

// pay pays for a step, if there is one left.
func (m *machine) pay() api.Errno {
	if m.paid >= m.gas {
		return api.ErrGas
	}
	m.paid++
	return api.OK
}

// take takes the top off the stack.
func (m *machine) take() api.Value {
	top := len(m.stack) - 1
	v := m.stack[top]
	m.stack = m.stack[:top]
	return v
}

// put puts values on the stack, the first on top, if they are not too large.
func (m *machine) put(list ...api.Value) api.Errno {
	for _, v := range slices.Backward(list) {
		if value.Size(v) > api.MaxSize {
			return api.ErrBig
		}
		m.move(v)
	}
	return api.OK
}

// move lays values on the stack as they are, the last on top: what is moved may be of any size.
func (m *machine) move(list ...api.Value) { m.stack = append(m.stack, list...) }
