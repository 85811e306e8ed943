package run

import "touchstone/api"

// chooses: the instructions that go one of two ways.
func (m *machine) chooses(n api.Node) api.Errno {
	v := m.take()
	way, out := 0, v.Args
	switch {
	case n.P == api.IFLEFT:
		way = v.N
	case n.P == api.IFNONE:
		way = len(v.Args)
	case n.P == api.IF && !isTrue(v):
		way = 1
	case n.P == api.IFCONS && len(v.Args) == 0:
		way = 1
	case n.P == api.IFCONS:
		out = []api.Value{v.Args[0], made(api.List, v.Args[1:]...)}
	}
	m.enter(frame{rest: n.Args[way].Args})
	return m.put(out...)
}

// enters: the instructions with one row, that is gone through never, once or often, and the one that goes through a lambda's.
func (m *machine) enters(n api.Node) api.Errno {
	switch n.P {
	case api.ITER:
		m.enter(frame{by: n.P, row: n.Args[0].Args, aside: m.take().Args})
	case api.LOOP:
		m.enter(frame{by: n.P, row: n.Args[0].Args})
	case api.DIP:
		m.enter(frame{by: n.P, rest: n.Args[0].Args, aside: []api.Value{m.take()}})
	case api.EXEC:
		argument, lambda := m.take(), m.take()
		m.enter(frame{by: n.P, rest: lambda.Code, aside: m.stack})
		m.stack = []api.Value{argument}
	case api.LAMBDA:
		return m.put(api.Value{K: api.Lambda, Types: []api.Type{typeOf(n.Args[0]), typeOf(n.Args[1])}, Code: n.Args[2].Args})
	}
	return api.OK
}
