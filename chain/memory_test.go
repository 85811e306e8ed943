package chain

import (
	"slices"

	"touchstone/api"
)

// found collects what is in ledgers, batches and receipts, so that two are alike if what is found is: nil and lists without elements are one. With room, what lies in the spare room of lists is found, too.
type found struct {
	all  []any
	room bool
}

func (f *found) add(x ...any) { f.all = append(f.all, x...) }

func (f *found) ledger(l api.Ledger) {
	f.add(l.Fees)
	for _, a := range l.Accounts {
		f.add(a.Is, a.Balance, a.Counter)
		f.types([]api.Type{a.Param, a.Store})
		f.nodes(a.Code)
		f.values([]api.Value{a.Storage})
	}
}

func (f *found) batch(b api.Batch) {
	f.add(b.Source, b.Counter, b.Fee, b.Gas, len(b.Ops))
	for _, op := range looked(b.Ops, f.room) {
		f.add(op.Kind, op.To, op.Amount)
		f.nodes([]api.Node{op.Arg, op.Types[0], op.Types[1], op.Code})
	}
}

func (f *found) receipt(r api.Receipt) {
	f.add(r.Code, r.Done, r.Gas, r.Minted, len(r.Made))
	for _, n := range r.Made {
		f.add(n)
	}
}

func looked[T any](list []T, room bool) []T {
	if room {
		return list[:cap(list)]
	}
	return list
}

func (f *found) values(list []api.Value) {
	f.add(len(list))
	for _, v := range looked(list, f.room) {
		f.add(v.K, v.N, v.A, v.S)
		f.values(v.Args)
		f.types(v.Types)
		f.nodes(v.Code)
	}
}

func (f *found) types(list []api.Type) {
	f.add(len(list))
	for _, t := range looked(list, f.room) {
		f.add(t.T)
		f.types(t.Args)
	}
}

func (f *found) nodes(list []api.Node) {
	f.add(len(list))
	for _, n := range looked(list, f.room) {
		f.add(n.Kind, n.N, n.P, n.S)
		f.nodes(n.Args)
	}
}

// alikeLedgers is whether two ledgers have the same in them.
func alikeLedgers(a, b api.Ledger) bool {
	var x, y found
	x.ledger(a)
	y.ledger(b)
	return slices.Equal(x.all, y.all)
}

// alikeReceipts is whether two receipts tell the same.
func alikeReceipts(a, b api.Receipt) bool {
	var x, y found
	x.receipt(a)
	y.receipt(b)
	return slices.Equal(x.all, y.all)
}

// roomy* are copies whose lists all have spare room with something in it.

func roomyLedger(l api.Ledger) api.Ledger {
	for i := range l.Accounts {
		a := &l.Accounts[i]
		a.Param.Args, a.Store.Args, a.Code = roomyTypes(a.Param.Args), roomyTypes(a.Store.Args), roomyNodes(a.Code)
		a.Storage = roomyValues([]api.Value{a.Storage})[0]
	}
	return l
}

func roomyBatch(b api.Batch) api.Batch {
	room := make([]api.Op, len(b.Ops)+2)
	for i := range room {
		room[i].Kind = -1
	}
	for i, op := range b.Ops {
		n := roomyNodes([]api.Node{op.Arg, op.Types[0], op.Types[1], op.Code})
		op.Arg, op.Types, op.Code = n[0], [2]api.Node{n[1], n[2]}, n[3]
		room[i] = op
	}
	b.Ops = room[:len(b.Ops)]
	return b
}

func roomyValues(list []api.Value) []api.Value {
	room := make([]api.Value, len(list)+2)
	for i := range room {
		room[i] = api.Value{K: -1, S: "spare"}
	}
	for i, v := range list {
		v.Args, v.Types, v.Code = roomyValues(v.Args), roomyTypes(v.Types), roomyNodes(v.Code)
		room[i] = v
	}
	return room[:len(list)]
}

func roomyTypes(list []api.Type) []api.Type {
	room := make([]api.Type, len(list)+2)
	for i := range room {
		room[i].T = -1
	}
	for i, t := range list {
		room[i] = api.Type{T: t.T, Args: roomyTypes(t.Args)}
	}
	return room[:len(list)]
}

func roomyNodes(list []api.Node) []api.Node {
	room := make([]api.Node, len(list)+2)
	for i := range room {
		room[i].Kind = -1
	}
	for i, n := range list {
		n.Args = roomyNodes(n.Args)
		room[i] = n
	}
	return room[:len(list)]
}
