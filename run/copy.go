package run

import (
	"slices"

	"touchstone/api"
)

// renewed are values in memory of their own: on the way they share lists with each other, with code and with what was handed in.
func renewed(stack []api.Value) []api.Value {
	stack = slices.Clone(stack)
	// A list of what is left, and no calls within calls: operations of operations may be deeper than there is room for.
	todo := [][]api.Value{stack}
	for len(todo) > 0 {
		last := len(todo) - 1
		next := todo[last]
		todo = todo[:last]
		for i := range next {
			v := &next[i]
			v.Args, v.Types, v.Code = slices.Clone(v.Args), copiedTypes(v.Types), copiedNodes(v.Code)
			if len(v.Args) > 0 {
				todo = append(todo, v.Args)
			}
		}
	}
	return stack
}

func copiedTypes(list []api.Type) []api.Type {
	list = slices.Clone(list)
	for i := range list {
		list[i].Args = copiedTypes(list[i].Args)
	}
	return list
}

func copiedNodes(list []api.Node) []api.Node {
	list = slices.Clone(list)
	for i := range list {
		list[i].Args = copiedNodes(list[i].Args)
	}
	return list
}
