package ledger

import (
	"slices"

	"touchstone/api"
	"touchstone/kind"
	"touchstone/value"
)

// stamp is what tickets that can be joined have in common. The type stands beside the value: options that have none are alike, whatever they are of.
type stamp struct {
	maker int
	t     api.Type
	of    api.Value
}

// Held is how much of one ticket there is, in all that is kept: by who made it, and what it is of.
func Held(l api.Ledger, maker int, t api.Type, of api.Value) int {
	s := stamp{maker, t, of}
	sum := 0
	for _, a := range l.Accounts {
		// A ledger that is not good may have what is not of its type, and could not be gone through by it.
		if a.Is == api.Contract && value.Has(a.Store, a.Storage) {
			sum += s.within(a.Store, a.Storage)
		}
	}
	return sum
}

// within is how much of a stamp's ticket there is in a value of a type.
func (s stamp) within(t api.Type, v api.Value) int {
	if t.T == api.Ticket {
		return s.worth(t, v)
	}
	sum := 0
	for i, part := range partsOf(t, v) {
		sum += s.within(part, v.Args[i])
	}
	return sum
}

// worth is how much a ticket counts for: all that it is, if it has the stamp.
func (s stamp) worth(t api.Type, v api.Value) int {
	if v.A == s.maker && kind.Same(t.Args[0], s.t) && value.Same(v.Args[0], s.of) {
		return v.N
	}
	return 0
}

// partsOf are the types of a value's Args, if there may be tickets in these.
func partsOf(t api.Type, v api.Value) []api.Type {
	switch t.T {
	case api.Option, api.List:
		return slices.Repeat(t.Args, len(v.Args))
	case api.Map:
		return slices.Repeat([]api.Type{{T: api.Pair, Args: t.Args}}, len(v.Args))
	case api.Pair:
		return t.Args
	case api.Or:
		return t.Args[v.N : v.N+1]
	}
	// An operation is never kept, so what it would bring is not asked for: no value is gone through deeper than a type may be.
	return nil
}
