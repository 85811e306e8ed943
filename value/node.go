package value

import (
	"slices"

	"touchstone/api"
	"touchstone/kind"
	"touchstone/tree"
)

// row is a list of trees.
type row []api.Node

// Node is the tree of a value of a type that can be told.
func Node(t api.Type, v api.Value) (api.Node, api.Errno) {
	if !canTell(t, v) {
		return api.Node{}, api.ErrType
	}
	n := treeOf(v)
	if e := tree.Good(n); e != api.OK {
		return api.Node{}, e
	}
	return n, api.OK
}

// canTell is whether a value is of a type, and that can be told.
func canTell(t api.Type, v api.Value) bool { return Has(t, v) && kind.Packed(t) }

// treeOf is the tree of a value of a type that can be told. It is left off behind the first node that is one too many: it is refused as the whole tree would be, and whatever the value, there is little of it.
func treeOf(v api.Value) api.Node {
	count := 0
	var tell func(v api.Value) api.Node
	tell = func(v api.Value) api.Node {
		count++
		var args row
		for _, arg := range v.Args {
			if count > api.MaxNodes {
				break
			}
			args = append(args, tell(arg))
		}
		return written(v, args)
	}
	return tell(v)
}

// written is the tree of a value, given those of its Args.
func written(v api.Value, args row) api.Node {
	switch v.K {
	case api.Unit:
		return prim(api.DUnit)
	case api.Bool:
		return prim(choice(v.N, api.DFalse, api.DTrue))
	case api.Integer, api.Nat, api.Mutez, api.Address:
		return api.Node{Kind: api.Int, N: v.N}
	case api.String:
		return api.Node{Kind: api.Text, S: v.S}
	case api.Option:
		return prim(choice(len(args), api.DNone, api.DSome), args...)
	case api.Pair:
		return prim(api.DPair, args...)
	case api.Or:
		return prim(choice(v.N, api.DLeft, api.DRight), args...)
	case api.List:
		return api.Node{Kind: api.Seq, Args: args}
	case api.Map:
		return api.Node{Kind: api.Seq, Args: elts(args...)}
	}
	// Nothing else has a tree: no node is of this kind, and it is refused.
	return api.Node{Kind: -1}
}

func prim(p int, args ...api.Node) api.Node {
	return api.Node{Kind: api.Prim, P: p, Args: args}
}

func choice(n, none, some int) int {
	if n == 0 {
		return none
	}
	return some
}

// elts are the trees of a map's Pairs, made of those that they'd have elsewhere.
func elts(pairs ...api.Node) row {
	var r row
	for _, n := range pairs {
		n.P = api.DElt
		r = append(r, n)
	}
	return r
}

// Parse is the value of a type that a tree tells.
func Parse(t api.Type, n api.Node) (api.Value, api.Errno) {
	if !kind.Good(t) || tree.Good(n) != api.OK {
		return api.Value{}, api.ErrForm
	}
	v, ok := read(t, n)
	// That a tree has the form does not keep numbers, lists and keys to what they may be.
	if !ok || !Has(t, v) {
		return api.Value{}, api.ErrForm
	}
	return v, api.OK
}

// read is what a good tree tells, if it has the form of those of a good type.
func read(t api.Type, n api.Node) (api.Value, bool) {
	v := api.Value{K: t.T}
	ok := false
	switch t.T {
	case api.Integer, api.Nat, api.Mutez, api.Address:
		v.N, ok = n.N, n.Kind == api.Int
	case api.String:
		v.S, ok = n.S, n.Kind == api.Text
	case api.List:
		if n.Kind == api.Seq {
			v.Args, ok = readEach(n.Args, slices.Repeat(t.Args, len(n.Args))...)
		}
	case api.Map:
		if n.Kind == api.Seq {
			v.Args, ok = readElts(t, n.Args...)
		}
	default:
		var types []api.Type
		if v.N, types, ok = branch(t, n.P); ok {
			v.Args, ok = readEach(n.Args, types...)
		}
	}
	return v, ok
}

// branch is what a primitive tells of a value of a type: its N, and of which types its Args are.
func branch(t api.Type, p int) (int, []api.Type, bool) {
	switch {
	case t.T == api.Unit && p == api.DUnit:
		return 0, nil, true
	case t.T == api.Bool && p == api.DFalse:
		return 0, nil, true
	case t.T == api.Bool && p == api.DTrue:
		return 1, nil, true
	case t.T == api.Option && p == api.DNone:
		return 0, nil, true
	case t.T == api.Option && p == api.DSome:
		return 0, t.Args, true
	case t.T == api.Pair && p == api.DPair:
		return 0, t.Args, true
	case t.T == api.Or && p == api.DLeft:
		return 0, t.Args[:1], true
	case t.T == api.Or && p == api.DRight:
		return 1, t.Args[1:], true
	}
	return 0, nil, false
}

// readEach reads one of each of these types.
func readEach(nodes []api.Node, types ...api.Type) ([]api.Value, bool) {
	if len(nodes) != len(types) {
		return nil, false
	}
	list := slices.Grow([]api.Value(nil), len(nodes))
	for i, n := range nodes {
		v, ok := read(types[i], n)
		if !ok {
			return nil, false
		}
		list = append(list, v)
	}
	return list, true
}

// readElts reads the Pairs of a map of the type t.
func readElts(t api.Type, nodes ...api.Node) ([]api.Value, bool) {
	var list []api.Value
	for _, n := range nodes {
		args, ok := readEach(n.Args, t.Args...)
		if !ok || n.P != api.DElt {
			return nil, false
		}
		list = append(list, api.Value{K: api.Pair, Args: args})
	}
	return list, true
}
