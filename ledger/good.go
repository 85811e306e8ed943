package ledger

import (
	"touchstone/api"
	"touchstone/check"
	"touchstone/kind"
	"touchstone/value"
)

// Good is whether a ledger is one: people first, nobody has less than nothing, nothing was made, scripts mean something, and what they keep is of its type.
func Good(l api.Ledger) bool {
	// The money comes first: scripts take longer to look at.
	if !isCovered(l) {
		return false
	}
	for i, a := range l.Accounts {
		if (a.Is == api.Person) != (i < api.Implicit) || !isWhole(a) {
			return false
		}
	}
	return true
}

// isCovered is whether all balances and the fees come to the grants, none of them by another's being below 0.
func isCovered(l api.Ledger) bool {
	if !isShare(l.Fees) {
		return false
	}
	for _, a := range l.Accounts {
		if !isShare(a.Balance) {
			return false
		}
	}
	// By now it is sure that the sum does not wrap round.
	return Sum(l) == grants
}

func isShare(n int) bool { return n >= 0 && n <= grants }

// isWhole is whether an account has what one of its kind has, and nothing else.
func isWhole(a api.Account) bool {
	switch a.Is {
	case api.Nobody:
		return a.Balance == 0 && a.Counter == 0 && isBare(a)
	case api.Person:
		return isAmount(a.Counter) && isBare(a)
	case api.Contract:
		return a.Counter == 0 && isScripted(a)
	}
	return false
}

// isBare is whether an account has no script, and nothing of one.
func isBare(a api.Account) bool {
	return len(a.Code) == 0 &&
		kind.Same(a.Param, api.Type{}) &&
		kind.Same(a.Store, api.Type{}) &&
		value.Same(a.Storage, api.Value{})
}

// isScripted is whether an account has a script, and a storage that is one of its.
func isScripted(a api.Account) bool {
	code := api.Node{Kind: api.Seq, Args: a.Code}
	return check.Script(a.Param, a.Store, code) == api.OK &&
		check.Fits(a.Store, a.Storage) &&
		value.Size(a.Storage) <= api.MaxSize
}
