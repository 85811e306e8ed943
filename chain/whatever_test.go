package chain

import (
	"math"
	"math/rand"
	"runtime/debug"
	"slices"
	"testing"

	"touchstone/api"
	"touchstone/ledger"
)

// testStays: what is handed in stays as it is, the spare room of its lists, too; what is asked twice is answered alike.
func testStays(t *testing.T, l api.Ledger, b api.Batch) (api.Ledger, api.Receipt) {
	t.Helper()
	l, b = roomyLedger(l), roomyBatch(b)
	list := append(make([]api.Batch, 0, 3), b, b)
	look := func() []any {
		f := found{room: true}
		f.ledger(l)
		for _, b := range list[:cap(list)] {
			f.batch(b)
		}
		return f.all
	}
	before := look()
	after, r := Apply(l, b)
	ran, receipts, e := Run(list)
	if !slices.Equal(look(), before) {
		t.Fatalf("what was handed in is changed: %+v", b)
	}
	again, s := Apply(l, b)
	if !alikeLedgers(again, after) || !alikeReceipts(r, s) {
		t.Fatalf("answered in two ways: %+v", b)
	}
	if e != api.OK || len(receipts) != 2 || !ledger.Good(ran) {
		t.Fatalf("Run: %s, %+v", errorName(e), receipts)
	}
	if r.Code == api.OK && !ledger.Good(after) {
		t.Fatalf("not good: %+v", b)
	}
	if r.Code != api.OK && (r.Done != 0 || r.Minted != 0 || len(r.Made) != 0) {
		t.Fatalf("an error, and more than gas: %+v", r)
	}
	return after, r
}

// crowd is a good ledger of people, contracts of all sorts and nobody.
func crowd() api.Ledger {
	return fund(with(contract(minter, "5"), contract(joiner, `DSome (Ticket 4 3 "x")`), contract(twins, "{1}"), contract(learns, "DSome {PUSH nat 5; ADD}"), contract(spray, "DUnit")), 8, 70)
}

func TestStays(t *testing.T) {
	for _, x := range []struct {
		e   api.Errno
		ops []api.Op
	}{
		{api.OK, []api.Op{transfer(2, 5, "DUnit"), transfer(4, 0, "7"), transfer(6, 0, "1"), originate(adder, 5, "1"), transfer(9, 0, "2")}},
		{api.OK, []api.Op{transfer(7, 5, "DSome 4"), transfer(7, 5, "DNone"), transfer(8, 0, "{DPair 2 3; DPair 3 4}"), originate(spray, 5, "DUnit")}},
		{api.ErrKind, []api.Op{transfer(4, 0, "7"), transfer(6, 0, "1"), originate(adder, 5, "1"), {}}},
		{api.ErrFail, []api.Op{originate(adder, 5, "1"), transfer(4, 0, "7"), transfer(4, 0, "0")}},
		{api.ErrFunds, []api.Op{transfer(8, 0, "{DPair 2 3; DPair 3 400}")}},
		{api.ErrType, []api.Op{transfer(6, 0, "2"), originate(adder, 5, "DUnit")}},
	} {
		_, r := testStays(t, crowd(), api.Batch{Source: 1, Counter: 1, Fee: 7, Gas: 500, Ops: x.ops})
		if r.Code != x.e {
			t.Errorf("%+v, wanted %s", r, errorName(x.e))
		}
	}
}

// What was checked stays, whatever becomes of the batch that brought it.
func TestOwnCode(t *testing.T) {
	op := originate(twins, 0, "{}")
	b := api.Batch{Source: 1, Counter: 1, Ops: []api.Op{op, op}}
	l, r := Apply(ledger.New(), b)
	want := with(contract(twins, "{}"), contract(twins, "{}"))
	want.Accounts[1].Counter = 1
	if r.Code != api.OK || !alikeLedgers(l, want) {
		t.Fatalf("%+v", r)
	}
	var spoil func(list []api.Node)
	spoil = func(list []api.Node) {
		for i := range list {
			spoil(list[i].Args)
			list[i].P = api.DROP
		}
	}
	spoil(op.Code.Args)
	if !alikeLedgers(l, want) {
		t.Error("the code is changed by who brought it")
	}
	spoil(l.Accounts[4].Code)
	if want.Accounts[4] = l.Accounts[4]; !alikeLedgers(l, want) {
		t.Error("two contracts have one list")
	}
}

// mess makes anything, good or not, at random.
type mess struct{ *rand.Rand }

func (m mess) number() int {
	list := []int{0, 0, 0, 1, 1, 1, 2, 4, 5, 6, 9, 11, 12, -1, 1000000, 4000000, api.MaxInt, api.MaxInt + 1, math.MaxInt, math.MinInt}
	return list[m.Intn(len(list))]
}

func (m mess) types(depth int) []api.Type {
	var list []api.Type
	for range m.Intn(min(depth, 3) + 1) {
		list = append(list, api.Type{T: m.Intn(18) - 1, Args: m.types(depth - 1)})
	}
	return list
}

func (m mess) nodes(depth int) []api.Node {
	var list []api.Node
	for range m.Intn(min(depth, 3) + 1) {
		list = append(list, api.Node{Kind: m.Intn(5), P: m.Intn(98) - 1, N: m.number() * m.Intn(2), Args: m.nodes(depth - 1)})
	}
	return list
}

func (m mess) values(depth int) []api.Value {
	var list []api.Value
	for range m.Intn(min(depth, 3) + 1) {
		v := api.Value{K: m.Intn(17), N: m.number(), Args: m.values(depth - 1)}
		if m.Intn(4) == 0 {
			v.A, v.S, v.Types, v.Code = m.number(), "x", m.types(2), m.nodes(2)
		}
		list = append(list, v)
	}
	return list
}

func (m mess) ledger() api.Ledger {
	l := crowd()
	if m.Intn(4) > 0 {
		return l
	}
	for range 1 + m.Intn(2) {
		a := &l.Accounts[m.Intn(12)]
		switch m.Intn(5) {
		case 0:
			a.Is, a.Balance, a.Counter = m.Intn(5)-1, m.number(), m.number()
		case 1:
			a.Code = m.nodes(4)
		case 2:
			a.Storage = api.Value{K: a.Storage.K, N: m.number(), Args: m.values(4)}
		case 3:
			a.Param.Args, a.Store.Args = m.types(3), m.types(3)
		case 4:
			a.Counter = m.number()
		}
	}
	return l
}

// node is another one, or one that means something, or that with something else in it.
func (m mess) node(n api.Node) api.Node {
	switch m.Intn(3) {
	case 0:
		return n
	case 1:
		return seq(append(slices.Clone(n.Args), m.nodes(3)...)...)
	}
	return api.Node{Kind: m.Intn(5), P: m.Intn(98), N: m.number() * m.Intn(2), Args: m.nodes(4)}
}

func (m mess) batch() api.Batch {
	b := api.Batch{Source: 1, Counter: 1, Fee: 3, Gas: 500}
	if m.Intn(4) == 0 {
		b = api.Batch{Source: m.number(), Counter: m.number(), Fee: m.number(), Gas: m.number()}
	}
	for range m.Intn(10) {
		op := originate(spray, 0, "DUnit")
		if m.Intn(2) == 0 {
			op = transfer(m.Intn(9), 0, []string{"DUnit", "3", "{}", "DNone"}[m.Intn(4)])
		}
		switch m.Intn(8) {
		case 0:
			op.Kind = m.number()
		case 1:
			op.To, op.Amount = m.number(), m.number()
		case 2:
			op.Arg = m.node(op.Arg)
		case 3:
			op.Types[m.Intn(2)] = m.node(op.Types[0])
		case 4:
			op.Code = m.node(op.Code)
		}
		b.Ops = append(b.Ops, op)
	}
	return b
}

// Every call ends, and none panics, at whatever it is given; and it is as the second opinion says.
func TestMess(t *testing.T) {
	m := mess{rand.New(rand.NewSource(88))}
	for range 2000 {
		l, b := m.ledger(), m.batch()
		after, r := testStays(t, l, b)
		want, opinion := opinionOf(l, b)
		if !alikeReceipts(r, opinion) || !alikeLedgers(after, want) {
			t.Fatalf("%+v\n%+v\nwanted %+v", b, r, opinion)
		}
	}
}

// Trees and values may be deeper than there is room for calls within calls, or hold themselves.
func TestDeep(t *testing.T) {
	defer debug.SetMaxStack(debug.SetMaxStack(1 << 20))
	const deep = 200000
	nodes := make([]api.Node, deep+1)
	lists := make([]api.Value, deep+1)
	for i := range deep {
		nodes[i] = api.Node{Kind: api.Seq, Args: nodes[i+1 : i+2]}
		lists[i] = api.Value{K: api.List, Args: lists[i+1 : i+2]}
	}
	nodes[deep], lists[deep] = seq(), valueOf("nat", "1")
	types := make([]api.Node, deep+1)
	for i := range deep {
		types[i] = api.Node{Kind: api.Prim, P: api.List, Args: types[i+1 : i+2]}
	}
	types[deep] = nodeOf("nat")
	ring := []api.Node{{Kind: api.Seq}}
	ring[0].Args = ring
	typeRing := []api.Node{{Kind: api.Prim, P: api.Option}}
	typeRing[0].Args = typeRing
	for i, x := range []struct {
		e  api.Errno
		op func(op *api.Op)
	}{
		{api.ErrType, func(op *api.Op) { op.Types[0] = types[0] }},
		{api.ErrType, func(op *api.Op) { op.Types[1] = typeRing[0] }},
		{api.ErrLong, func(op *api.Op) { op.Code = nodes[0] }},
		{api.ErrLong, func(op *api.Op) { op.Code = ring[0] }},
		{api.ErrType, func(op *api.Op) { op.Arg = nodes[0] }},
		{api.ErrType, func(op *api.Op) { op.Arg = ring[0] }},
		{api.ErrType, func(op *api.Op) { op.Kind, op.To, op.Arg = api.Transfer, 2, nodes[0] }},
		{api.ErrType, func(op *api.Op) { op.Kind, op.To, op.Arg = api.Transfer, 8, ring[0] }},
	} {
		op := originate(still, 0, "{}")
		x.op(&op)
		if _, r := Apply(crowd(), api.Batch{Source: 1, Counter: 1, Gas: 100, Ops: []api.Op{op}}); r.Code != x.e {
			t.Errorf("%d: %+v, wanted %s", i, r, errorName(x.e))
		}
	}
	l := with(contract(still, "{}"))
	l.Accounts[4].Storage = lists[0]
	if got, r := Apply(l, api.Batch{Source: 1, Counter: 1, Ops: []api.Op{transfer(2, 1, "DUnit")}}); r.Code != api.ErrRange || got.Accounts[1].Counter != 0 {
		t.Errorf("a deep storage: %+v", r)
	}
}
