package kind

import "touchstone/api"

// Parse is the type of a tree.
func Parse(n api.Node) (api.Type, api.Errno) {
	count := 0
	t, ok := read(n, &count)
	if !ok || !Good(t) {
		return api.Type{}, api.ErrForm
	}
	return t, api.OK
}

// read is the type of a tree, good or not, if its nodes are Prims with nothing but Args. A tree of more nodes than a good type's has is given up on the way; that it can't be deeper than it has nodes leaves room for the calls, too.
func read(n api.Node, count *int) (api.Type, bool) {
	*count++
	if *count > api.MaxNodes {
		return api.Type{}, false
	}
	if n.Kind != api.Prim || n.N != 0 || n.S != "" {
		return api.Type{}, false
	}
	t := api.Type{T: n.P}
	for _, arg := range n.Args {
		part, ok := read(arg, count)
		if !ok {
			return api.Type{}, false
		}
		t.Args = append(t.Args, part)
	}
	return t, true
}

// Node is the tree of a type.
func Node(t api.Type) (api.Node, api.Errno) {
	if !Good(t) {
		return api.Node{}, api.ErrForm
	}
	return written(t), api.OK
}

// written is the tree of a type that is good.
func written(t api.Type) api.Node {
	n := api.Node{Kind: api.Prim, P: t.T}
	for _, arg := range t.Args {
		n.Args = append(n.Args, written(arg))
	}
	return n
}
