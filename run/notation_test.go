package run

import (
	"slices"
	"strconv"
	"strings"
	"testing"
	"text/scanner"

	"touchstone/api"
)

// Tests tell code, types and values by texts: "PUSH nat 5; IF {DROP} {}" is code, "nat 5 : (list nat) {1; 2}" is a stack, the top first, a type ahead of each value. A value is told by its tree; (Ticket 5 3 "x") is one that 5 made, of 3 of "x", (Operation 2 9 nat 7) sends 9, with the number 7, to 2, and a lambda is told by its code.

const primNames = "unit bool integer nat mutez string address operation option list pair or map lambda ticket" +
	" . . . . DUnit DTrue DFalse DPair DLeft DRight DSome DNone DElt . . . . . . . . . . ." +
	" DROP DUP SWAP DIG DUG PUSH PAIR UNPAIR CAR CDR LEFT RIGHT IFLEFT SOME NONE IFNONE NIL CONS IFCONS SIZE ITER EMPTYMAP GET UPDATE IF LOOP LAMBDA EXEC DIP" +
	" ADD SUB MUL EDIV COMPARE EQ LT GT NOT AND OR CONCAT PACK UNPACK FAILWITH TICKET READ SPLIT JOIN TRANSFER SELF SENDER AMOUNT BALANCE ABS ISNAT INT" +
	" Ticket Operation"

// Beside the primitives of package api: what tells a ticket, and an operation.
const (
	ticketMark    = api.INT + 1
	operationMark = api.INT + 2
)

// names are those of all primitives, by their numbers less 1.
var names = strings.Fields(primNames)

func nameOf(p int) string { return names[p-1] }

func named(name string) int {
	p := slices.Index(names, name)
	if p < 0 {
		panic("no primitive: " + name)
	}
	return p + 1
}

func prim(p int, args ...api.Node) api.Node { return api.Node{Kind: api.Prim, P: p, Args: args} }

func seq(args ...api.Node) api.Node { return api.Node{Kind: api.Seq, Args: args} }

// reader goes through a text word by word.
type reader struct{ words []string }

func newReader(s string) *reader {
	var scan scanner.Scanner
	scan.Init(strings.NewReader(s))
	scan.Mode = scanner.ScanIdents | scanner.ScanInts | scanner.ScanStrings
	r := &reader{}
	for scan.Scan() != scanner.EOF {
		r.words = append(r.words, scan.TokenText())
	}
	return r
}

func (r *reader) next() string {
	if len(r.words) == 0 {
		return ""
	}
	return r.words[0]
}

func (r *reader) take() string {
	w := r.next()
	if w == "" {
		panic("the text ends")
	}
	r.words = r.words[1:]
	return w
}

func (r *reader) expect(w string) {
	if got := r.take(); got != w {
		panic("wanted " + w + ", not " + got)
	}
}

// whole is a primitive with all that follows as its Args, or what one reads.
func (r *reader) whole() api.Node {
	if w := r.next(); !isName(w) {
		return r.one()
	}
	n := prim(named(r.take()))
	for !slices.Contains([]string{"", ";", "}", ")", ":"}, r.next()) {
		n.Args = append(n.Args, r.one())
	}
	return n
}

func isName(w string) bool { return w[0]|32 >= 'a' && w[0]|32 <= 'z' }

// one is a number, a text, a row, a primitive without Args, or anything in brackets.
func (r *reader) one() api.Node {
	switch w := r.take(); {
	case w == "{":
		n := seq(r.row()...)
		r.expect("}")
		return n
	case w == "(":
		n := r.whole()
		r.expect(")")
		return n
	case w == "-":
		n := r.one()
		n.N = -n.N
		return n
	case w[0] == '"':
		s, err := strconv.Unquote(w)
		if err != nil {
			panic(err)
		}
		return api.Node{Kind: api.Text, S: s}
	case isName(w):
		return prim(named(w))
	default:
		n, err := strconv.Atoi(w)
		if err != nil {
			panic(err)
		}
		return api.Node{N: n}
	}
}

func (r *reader) row() []api.Node {
	var list []api.Node
	for r.next() != "" && r.next() != "}" {
		list = append(list, r.whole())
		if r.next() == ";" {
			r.take()
		}
	}
	return list
}

// codeOf is the code that a text tells.
func codeOf(s string) api.Node {
	r := newReader(s)
	n := seq(r.row()...)
	if r.next() != "" {
		panic("left: " + r.next())
	}
	return n
}

func typeIn(n api.Node) api.Type {
	t := api.Type{T: n.P}
	for _, arg := range n.Args {
		t.Args = append(t.Args, typeIn(arg))
	}
	return t
}

func typeNamed(s string) api.Type { return typeIn(newReader(s).whole()) }

func asNode(t api.Type) api.Node {
	n := prim(t.T)
	for _, arg := range t.Args {
		n.Args = append(n.Args, asNode(arg))
	}
	return n
}

// stackOf are the types and the values that a text tells.
func stackOf(s string) ([]api.Type, []api.Value) {
	var types []api.Type
	var values []api.Value
	r := newReader(s)
	for r.next() != "" {
		t := typeIn(r.one())
		types, values = append(types, t), append(values, valueIn(t, r.one()))
		if r.next() != "" {
			r.expect(":")
		}
	}
	return types, values
}

// valueIn is the value of a type that a tree tells, if it is any: nothing keeps it to what it may be.
func valueIn(t api.Type, n api.Node) api.Value {
	v := api.Value{K: t.T, N: n.N, S: n.S}
	each := func(types ...api.Type) {
		for i, x := range types {
			v.Args = append(v.Args, valueIn(x, n.Args[i]))
		}
	}
	switch t.T {
	case api.Bool:
		v.N = api.DFalse - n.P
	case api.Option, api.Pair:
		each(t.Args[:len(n.Args)]...)
	case api.Or:
		v.N = n.P - api.DLeft
		each(t.Args[v.N])
	case api.List:
		each(slices.Repeat(t.Args, len(n.Args))...)
	case api.Map:
		each(slices.Repeat([]api.Type{{T: api.Pair, Args: t.Args}}, len(n.Args))...)
	case api.Lambda:
		v.Types, v.Code = t.Args, n.Args
	case api.Ticket:
		v.A, v.N, v.Args = n.Args[0].N, n.Args[1].N, []api.Value{valueIn(t.Args[0], n.Args[2])}
	case api.Operation:
		of := typeIn(n.Args[2])
		v.A, v.N, v.Args, v.Types = n.Args[0].N, n.Args[1].N, []api.Value{valueIn(of, n.Args[3])}, []api.Type{of}
	}
	return v
}

// treeOf is the tree that tells a value.
func treeOf(v api.Value) api.Node {
	var args []api.Node
	for _, arg := range v.Args {
		args = append(args, treeOf(arg))
	}
	num := func(n int) api.Node { return api.Node{N: n} }
	switch v.K {
	case api.Unit:
		return prim(api.DUnit)
	case api.Bool:
		return prim(api.DFalse - v.N)
	case api.String:
		return api.Node{Kind: api.Text, S: v.S}
	case api.Option:
		return prim(api.DNone-len(args), args...)
	case api.Pair:
		return prim(api.DPair, args...)
	case api.Or:
		return prim(api.DLeft+v.N, args...)
	case api.List:
		return seq(args...)
	case api.Map:
		for i := range args {
			args[i].P = api.DElt
		}
		return seq(args...)
	case api.Lambda:
		return seq(v.Code...)
	case api.Ticket:
		return prim(ticketMark, num(v.A), num(v.N), args[0])
	case api.Operation:
		return prim(operationMark, num(v.A), num(v.N), asNode(v.Types[0]), args[0])
	}
	return num(v.N)
}

// shown is a tree as a text that a reader would read.
func shown(n api.Node) string {
	switch n.Kind {
	case api.Int:
		return strconv.Itoa(n.N)
	case api.Text:
		return strconv.Quote(n.S)
	case api.Prim:
		s := nameOf(n.P)
		for _, arg := range n.Args {
			s += " " + inBrackets(arg)
		}
		return s
	}
	var list []string
	for _, arg := range n.Args {
		list = append(list, shown(arg))
	}
	return "{" + strings.Join(list, "; ") + "}"
}

func inBrackets(n api.Node) string {
	if n.Kind == api.Prim && len(n.Args) > 0 {
		return "(" + shown(n) + ")"
	}
	return shown(n)
}

// shownStack are values as a text, without their types.
func shownStack(stack []api.Value) string {
	var list []string
	for _, v := range stack {
		list = append(list, inBrackets(treeOf(v)))
	}
	return strings.Join(list, " : ")
}

// shownTyped are values and their types, as a text that stackOf would read.
func shownTyped(types []api.Type, stack []api.Value) string {
	var list []string
	for i, v := range stack {
		list = append(list, inBrackets(asNode(types[i]))+" "+inBrackets(treeOf(v)))
	}
	return strings.Join(list, " : ")
}

var errorNames = strings.Fields("OK ErrForm ErrRange ErrKind ErrLong ErrType ErrNone ErrFull ErrFunds ErrOld ErrFail ErrOver ErrGas ErrBig ErrStuck")

// answer is what a result says, but for its Gas: the stack and, if there is any, what was minted ("1 : 2 | 5"), or the error, with what was said.
func answer(r api.Result) string {
	s := shownStack(r.Stack)
	switch {
	case r.Code == api.OK && isSaid(r.Said):
		return "OK, and something is said"
	case r.Code == api.OK && r.Minted != 0:
		return s + " | " + strconv.Itoa(r.Minted)
	case r.Code == api.OK:
		return s
	case s != "" || r.Minted != 0 || r.Code != api.ErrFail && isSaid(r.Said):
		return errorNames[r.Code] + ", and not nothing"
	case r.Code == api.ErrFail:
		return "ErrFail " + inBrackets(treeOf(r.Said))
	}
	return errorNames[r.Code]
}

func isSaid(v api.Value) bool {
	return v.K != 0 || v.N != 0 || v.A != 0 || v.S != "" || len(v.Args) > 0 || len(v.Types) > 0 || len(v.Code) > 0
}

// The texts mean what they say.
func TestNotation(t *testing.T) {
	for p, name := range map[int]string{api.Unit: "unit", api.Ticket: "ticket", api.DUnit: "DUnit", api.DElt: "DElt", api.DROP: "DROP", api.IFCONS: "IFCONS", api.COMPARE: "COMPARE", api.READ: "READ", api.INT: "INT"} {
		if nameOf(p) != name || named(name) != p {
			t.Errorf("%d is %s, %s is %d", p, nameOf(p), name, named(name))
		}
	}
	for _, s := range []string{
		"", "nat 5 : (list nat) {1; 2}", `(map string (option bool)) {DElt "a b" (DSome DTrue); DElt "c" DNone}`,
		"(or nat (pair unit integer)) (DRight (DPair DUnit -3)) : (or nat unit) (DLeft 1)",
		`(ticket string) (Ticket 5 3 "x") : operation (Operation 2 9 (list nat) {7}) : (lambda nat nat) {PUSH nat 1; DIP {DROP}}`,
	} {
		if got := shownTyped(stackOf(s)); got != s {
			t.Errorf("%q: %q", s, got)
		}
	}
	if n := codeOf("DUP 1; {}; IF {DROP} {}"); shown(n) != "{DUP 1; {}; IF {DROP} {}}" {
		t.Errorf("codeOf: %s", shown(n))
	}
}
