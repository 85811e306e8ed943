package check

import (
	"touchstone/api"
	"touchstone/kind"
)

// instruction is one with what its Args say: of each form, by their order.
type instruction struct {
	p     int
	n     int
	types []api.Type
	rows  [][]api.Node
	data  api.Node
}

// read is the instruction that a node of a good tree is, if it is one and its Args are of the forms that stand with it.
func read(n api.Node) (instruction, bool) {
	forms := formsOf(n.P)
	if n.Kind != api.Prim || n.P < api.DROP || len(n.Args) != len(forms) {
		return instruction{}, false
	}
	i := instruction{p: n.P}
	for k, arg := range n.Args {
		if !i.take(forms[k], arg) {
			return instruction{}, false
		}
	}
	return i, true
}

// formsOf are the forms of the Args of the instruction p, by the letters that the document has for them.
func formsOf(p int) string {
	switch p {
	case api.DUP, api.DIG, api.DUG:
		return "n"
	case api.PUSH:
		return "tv"
	case api.LEFT, api.RIGHT, api.NONE, api.NIL, api.UNPACK, api.TRANSFER:
		return "t"
	case api.EMPTYMAP:
		return "tu"
	case api.IFLEFT, api.IFNONE, api.IFCONS, api.IF:
		return "cd"
	case api.ITER, api.LOOP, api.DIP:
		return "c"
	case api.LAMBDA:
		return "tuc"
	}
	return ""
}

// take keeps what an Arg says, and is whether it is of that form.
func (i *instruction) take(form byte, arg api.Node) bool {
	switch form {
	case 'n':
		i.n = arg.N
		return arg.Kind == api.Int && arg.N >= 0 && arg.N <= api.MaxStack
	case 't', 'u':
		t, e := kind.Parse(arg)
		i.types = append(i.types, t)
		return e == api.OK
	case 'c', 'd':
		i.rows = append(i.rows, arg.Args)
		return arg.Kind == api.Seq
	}
	i.data = arg
	return true
}
