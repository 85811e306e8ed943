package chain

import (
	"touchstone/api"
	"touchstone/ledger"
	"touchstone/num"
	"touchstone/run"
)

// transfer moves money to an account, and has its script run if it has one.
func (w *work) transfer(r request) ([]request, api.Errno) {
	to, amount := r.target()
	moved, e := ledger.Move(w.ledger, r.from, to, amount)
	if e != api.OK {
		return nil, e
	}
	w.ledger = moved
	account := &w.ledger.Accounts[to]
	argument, e := r.argument(wanted(account))
	if e != api.OK {
		return nil, e
	}
	if account.Is == api.Person {
		return nil, api.OK
	}
	env := api.Env{Self: to, Sender: r.from, Amount: amount, Balance: account.Balance}
	return w.call(account, env, argument)
}

// wanted is the type of what an account takes.
func wanted(a *api.Account) api.Type {
	if a.Is == api.Person {
		return api.Type{T: api.Unit}
	}
	return a.Param
}

// call runs a contract's script, keeps its new storage, and answers what it asks for.
func (w *work) call(contract *api.Account, env api.Env, argument api.Value) ([]request, api.Errno) {
	code := api.Node{Kind: api.Seq, Args: contract.Code}
	types := []api.Type{{T: api.Pair, Args: []api.Type{contract.Param, contract.Store}}}
	stack := []api.Value{{K: api.Pair, Args: []api.Value{argument, contract.Storage}}}
	r := run.Run(env, code, types, stack, w.gas-w.receipt.Gas)
	// The steps count, however the script ended.
	w.receipt.Gas += r.Gas
	if r.Code != api.OK {
		return nil, r.Code
	}
	minted, e := num.Add(w.receipt.Minted, r.Minted)
	if e != api.OK {
		return nil, e
	}
	w.receipt.Minted = minted
	// That it is a Script says what it leaves: operations and a storage, in a pair.
	left := r.Stack[0].Args
	contract.Storage = left[1]
	return requests(env.Self, left[0].Args), api.OK
}
