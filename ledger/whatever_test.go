package ledger

import (
	"math"
	"math/rand"
	"runtime/debug"
	"slices"
	"testing"

	"touchstone/api"
)

// testStays: what is handed in stays as it is, the spare room of its lists, too; and what is asked twice is answered alike.
func testStays(t *testing.T, l api.Ledger, s stamp, from, to, n int) {
	t.Helper()
	l = roomyLedger(l)
	s.t.Args, s.of = roomyTypes(s.t.Args), roomyValues([]api.Value{s.of})[0]
	look := func() []any {
		f := found{room: true}
		f.ledger(l)
		f.types([]api.Type{s.t})
		f.values([]api.Value{s.of})
		return f.all
	}
	before := look()
	sum, good, held := Sum(l), Good(l), Held(l, s.maker, s.t, s.of)
	moved, e := Move(l, from, to, n)
	if !slices.Equal(look(), before) {
		t.Fatalf("what was handed in is changed: %v", l)
	}
	if e != api.OK && !alikeLedgers(moved, l) {
		t.Fatalf("Move(%d, %d, %d) of %v: an error, and not as it was: %v", from, to, n, l, moved)
	}
	again, f := Move(l, from, to, n)
	if Sum(l) != sum || Good(l) != good || Held(l, s.maker, s.t, s.of) != held || f != e || !alikeLedgers(again, moved) {
		t.Fatalf("answered in two ways: %v", l)
	}
	if Sum(moved) != sum {
		t.Fatalf("Move(%d, %d, %d) of %v makes or loses something", from, to, n, l)
	}
	if Held(moved, s.maker, s.t, s.of) != held {
		t.Fatalf("Move(%d, %d, %d) of %v: another number of tickets is held", from, to, n, l)
	}
}

func TestStays(t *testing.T) {
	s := stamp{4, typeOf("string"), valueOf("string", `"x"`)}
	if Held(crowd(), s.maker, s.t, s.of) != 3 {
		t.Error("Held of crowd")
	}
	for _, x := range [][3]int{{0, 4, 50}, {5, 5, 9}, {6, 6, 700}, {0, 11, 1}, {0, 1, -1}, {0, 1, 101}} {
		testStays(t, crowd(), s, x[0], x[1], x[2])
	}
	mixed := stamp{4, typeOf("pair nat (option string)"), valueOf("pair nat (option string)", `DPair 1 (DSome "x")`)}
	l := with(keeper("map nat (list (ticket (pair nat (option string))))", `{DElt 1 {Ticket 4 7 (DPair 1 (DSome "x"))}}`))
	testStays(t, l, mixed, 1, 2, 3)
}

// mess makes anything, good or not, at random.
type mess struct{ *rand.Rand }

func (m mess) number() int {
	list := []int{0, 0, 0, 1, 1, 2, 4, 9, 11, 12, 15, 16, -1, 1000000, 4000000, api.MaxInt, api.MaxInt + 1, math.MaxInt, math.MinInt}
	return list[m.Intn(len(list))]
}

func (m mess) types(depth int) []api.Type {
	var list []api.Type
	for range m.Intn(min(depth, 3) + 1) {
		list = append(list, api.Type{T: m.Intn(18) - 1, Args: m.types(depth - 1)})
	}
	return list
}

func (m mess) nodes(depth int) []api.Node {
	var list []api.Node
	for range m.Intn(min(depth, 3) + 1) {
		list = append(list, api.Node{Kind: m.Intn(5), P: m.Intn(98) - 1, N: m.number() * m.Intn(2), Args: m.nodes(depth - 1)})
	}
	return list
}

func (m mess) values(depth int) []api.Value {
	var list []api.Value
	for range m.Intn(min(depth, 3) + 1) {
		v := api.Value{K: m.Intn(17), N: m.number(), Args: m.values(depth - 1)}
		if m.Intn(4) == 0 {
			v.A, v.S, v.Types, v.Code = m.number(), "x", m.types(2), m.nodes(2)
		}
		list = append(list, v)
	}
	return list
}

func (m mess) one(list []api.Value) api.Value {
	if len(list) == 0 {
		return api.Value{}
	}
	return list[0]
}

// account is one with little left of another one: as often as not its money and its kind, so that Good looks at the rest.
func (m mess) account(a api.Account) api.Account {
	if m.Intn(2) == 0 {
		a.Is, a.Balance, a.Counter = m.Intn(5)-1, m.number(), m.number()
	}
	if m.Intn(2) == 0 {
		a.Code = m.nodes(4)
	}
	if m.Intn(3) == 0 {
		return a
	}
	a.Storage = m.one(m.values(5))
	a.Param.T, a.Param.Args = m.Intn(17), m.types(3)
	a.Store.T, a.Store.Args = m.Intn(17), m.types(3)
	if m.Intn(2) == 0 {
		a.Store.T, a.Storage.K = api.Ticket, api.Ticket
	}
	return a
}

// Every call ends, and none panics, at whatever it is given.
func TestMess(t *testing.T) {
	m := mess{rand.New(rand.NewSource(77))}
	for range 4000 {
		l := crowd()
		for range m.Intn(4) {
			a := &l.Accounts[m.Intn(12)]
			*a = m.account(*a)
		}
		if m.Intn(4) == 0 {
			l.Fees = m.number()
		}
		s := stamp{m.number(), api.Type{T: m.Intn(17), Args: m.types(3)}, m.one(m.values(3))}
		testStays(t, l, s, m.number(), m.number(), m.number())
	}
}

// Types, code and values may be deeper than there is room for calls within calls, or hold themselves.
func TestDeep(t *testing.T) {
	defer debug.SetMaxStack(debug.SetMaxStack(1 << 20))
	const deep = 200000
	types := make([]api.Type, deep+1)
	nodes := make([]api.Node, deep+1)
	lists := make([]api.Value, deep+1)
	ops := make([]api.Value, deep+1)
	for i := range deep {
		types[i] = api.Type{T: api.List, Args: types[i+1 : i+2]}
		nodes[i] = api.Node{Kind: api.Seq, Args: nodes[i+1 : i+2]}
		lists[i] = api.Value{K: api.List, Args: lists[i+1 : i+2]}
		ops[i] = api.Value{K: api.Operation, Args: ops[i+1 : i+2], Types: []api.Type{{T: api.Operation}}}
	}
	types[deep], nodes[deep] = typeOf("nat"), seq()
	lists[deep], ops[deep] = valueOf("nat", "1"), valueOf("operation", "Operation 1 2 nat 3")
	ringTypes, ringNodes, ringValues := slices.Clone(types[:1]), slices.Clone(nodes[:1]), slices.Clone(lists[:1])
	ringTypes[0].Args, ringNodes[0].Args, ringValues[0].Args = ringTypes, ringNodes, ringValues
	for i, part := range []func(a *api.Account){
		func(a *api.Account) { a.Param = types[0] },
		func(a *api.Account) { a.Store = types[0] },
		func(a *api.Account) { a.Store, a.Storage = types[0], lists[0] },
		func(a *api.Account) { a.Code = nodes[:1] },
		func(a *api.Account) { a.Storage = lists[0] },
		func(a *api.Account) { a.Store, a.Storage = typeOf("list (list nat)"), lists[0] },
		func(a *api.Account) { a.Store, a.Storage = typeOf("operation"), ops[0] },
		func(a *api.Account) {
			a.Store, a.Storage = typeOf("list operation"), api.Value{K: api.List, Args: ops[:1]}
		},
		func(a *api.Account) { a.Param = ringTypes[0] },
		func(a *api.Account) { a.Store = ringTypes[0] },
		func(a *api.Account) { a.Code = ringNodes },
		func(a *api.Account) { a.Store, a.Storage = typeOf("list (list nat)"), ringValues[0] },
	} {
		for _, at := range []int{1, 4, 11} {
			l := crowd()
			part(&l.Accounts[at])
			if Good(l) {
				t.Errorf("part %d of account %d: good", i, at)
			}
			if Sum(l) != 4000000 || Held(l, 5, typeOf("string"), valueOf("string", `""`)) != 1 {
				t.Errorf("part %d of account %d: Sum is %d", i, at, Sum(l))
			}
			if _, e := Move(l, 2, 3, 1); e != api.OK {
				t.Errorf("part %d of account %d: Move: %s", i, at, errorNames[e])
			}
		}
	}
	l := with(keeper("ticket nat", "Ticket 4 7 1"))
	if Held(l, 4, types[0], lists[0]) != 0 || Held(l, 4, typeOf("nat"), ops[0]) != 0 || Held(l, 4, ringTypes[0], ringValues[0]) != 0 {
		t.Error("Held of what is deep")
	}
}
