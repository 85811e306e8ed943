package chain

import (
	"slices"

	"touchstone/api"
	"touchstone/check"
	"touchstone/kind"
	"touchstone/ledger"
	"touchstone/value"
)

// originate makes a contract where nobody is yet.
func (w *work) originate(op *api.Op) api.Errno {
	contract, e := contractOf(op)
	if e != api.OK {
		return e
	}
	at := free(&w.ledger)
	if at == api.Accounts {
		return api.ErrFull
	}
	w.ledger.Accounts[at] = contract
	moved, e := ledger.Move(w.ledger, w.source, at, op.Amount)
	if e != api.OK {
		return e
	}
	w.ledger = moved
	w.receipt.Made = append(w.receipt.Made, at)
	return api.OK
}

// contractOf is the contract, without money, that an Op tells, if it may be one.
func contractOf(op *api.Op) (api.Account, api.Errno) {
	param, e := kind.Parse(op.Types[0])
	if e != api.OK {
		return api.Account{}, api.ErrType
	}
	store, e := kind.Parse(op.Types[1])
	if e != api.OK {
		return api.Account{}, api.ErrType
	}
	if e := check.Script(param, store, op.Code); e != api.OK {
		return api.Account{}, e
	}
	storage, e := value.Parse(store, op.Arg)
	if e != api.OK || value.Size(storage) > api.MaxSize {
		return api.Account{}, api.ErrType
	}
	return api.Account{Is: api.Contract, Param: param, Store: store, Code: copied(op.Code.Args), Storage: storage}, api.OK
}

// free is the first address that is nobody's, or the one behind the last if there is none.
func free(l *api.Ledger) int {
	at := 0
	for at < api.Accounts && l.Accounts[at].Is != api.Nobody {
		at++
	}
	return at
}

// copied is code in memory of its own: what was checked must stay so, whatever becomes of the batch that brought it.
func copied(code []api.Node) []api.Node {
	code = slices.Clone(code)
	for i := range code {
		code[i].Args = copied(code[i].Args)
	}
	return code
}
