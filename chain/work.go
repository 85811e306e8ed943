package chain

import (
	"touchstone/api"
	"touchstone/kind"
	"touchstone/value"
)

// work is a batch that is being done.
type work struct {
	ledger  api.Ledger
	source  int
	gas     int         // how many steps the batch may take in all
	receipt api.Receipt // what there is to tell till now
}

// request is an operation that is asked for, by an Op of the batch or by one that a script told: one of both is there.
type request struct {
	from int
	op   *api.Op
	told *api.Value
}

// all does the Ops of a batch.
func (w *work) all(ops []api.Op) api.Errno {
	for i := range ops {
		if e := w.row(request{from: w.source, op: &ops[i]}); e != api.OK {
			return e
		}
	}
	return api.OK
}

// row does what is asked for, and all that it leads to.
func (w *work) row(first request) api.Errno {
	queue := []request{first}
	// No range: the queue grows on the way.
	for i := 0; i < len(queue); i++ {
		if w.receipt.Done == api.MaxQueue {
			return api.ErrFull
		}
		more, e := w.do(queue[i])
		if e != api.OK {
			return e
		}
		w.receipt.Done++
		queue = append(queue, more...)
	}
	return api.OK
}

// do does one operation, and answers what that asks for.
func (w *work) do(r request) ([]request, api.Errno) {
	switch {
	case r.told != nil || r.op.Kind == api.Transfer:
		return w.transfer(r)
	case r.op.Kind == api.Originate:
		return nil, w.originate(r.op)
	}
	return nil, api.ErrKind
}

// requests are what a contract's script asks for by the operations that it told.
func requests(from int, told []api.Value) []request {
	var list []request
	for i := range told {
		list = append(list, request{from: from, told: &told[i]})
	}
	return list
}

// target is to whom a transfer goes, and how much.
func (r request) target() (to, amount int) {
	if r.told != nil {
		return r.told.A, r.told.N
	}
	return r.op.To, r.op.Amount
}

// argument is what a transfer brings, if that is of the type that is wanted there.
func (r request) argument(want api.Type) (api.Value, api.Errno) {
	if r.told != nil {
		if !kind.Same(r.told.Types[0], want) {
			return api.Value{}, api.ErrType
		}
		return r.told.Args[0], api.OK
	}
	v, e := value.Parse(want, r.op.Arg)
	if e != api.OK {
		return api.Value{}, api.ErrType
	}
	return v, api.OK
}
