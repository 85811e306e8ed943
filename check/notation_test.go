package check

import (
	"slices"
	"strconv"
	"strings"
	"testing"
	"text/scanner"

	"touchstone/api"
)

// Tests tell types and code by texts, as the document does: "nat : list nat" are types, the top first, and "PUSH nat 5; IF {DROP} {}" is code. A letter by itself is a type that stands for any (see oracle_test.go).

var typeNames = map[string]int{
	"unit": api.Unit, "bool": api.Bool, "integer": api.Integer, "nat": api.Nat, "mutez": api.Mutez, "string": api.String, "address": api.Address, "operation": api.Operation,
	"option": api.Option, "list": api.List, "pair": api.Pair, "or": api.Or, "map": api.Map, "lambda": api.Lambda, "ticket": api.Ticket,
}

var dataNames = map[string]int{
	"DUnit": api.DUnit, "DTrue": api.DTrue, "DFalse": api.DFalse, "DPair": api.DPair, "DLeft": api.DLeft, "DRight": api.DRight, "DSome": api.DSome, "DNone": api.DNone, "DElt": api.DElt,
}

var instructionNames = map[string]int{
	"DROP": api.DROP, "DUP": api.DUP, "SWAP": api.SWAP, "DIG": api.DIG, "DUG": api.DUG, "PUSH": api.PUSH, "PAIR": api.PAIR, "UNPAIR": api.UNPAIR, "CAR": api.CAR, "CDR": api.CDR,
	"LEFT": api.LEFT, "RIGHT": api.RIGHT, "IFLEFT": api.IFLEFT, "SOME": api.SOME, "NONE": api.NONE, "IFNONE": api.IFNONE, "NIL": api.NIL, "CONS": api.CONS, "IFCONS": api.IFCONS,
	"SIZE": api.SIZE, "ITER": api.ITER, "EMPTYMAP": api.EMPTYMAP, "GET": api.GET, "UPDATE": api.UPDATE, "IF": api.IF, "LOOP": api.LOOP, "LAMBDA": api.LAMBDA, "EXEC": api.EXEC, "DIP": api.DIP,
	"ADD": api.ADD, "SUB": api.SUB, "MUL": api.MUL, "EDIV": api.EDIV, "COMPARE": api.COMPARE, "EQ": api.EQ, "LT": api.LT, "GT": api.GT, "NOT": api.NOT, "AND": api.AND, "OR": api.OR,
	"CONCAT": api.CONCAT, "PACK": api.PACK, "UNPACK": api.UNPACK, "FAILWITH": api.FAILWITH, "TICKET": api.TICKET, "READ": api.READ, "SPLIT": api.SPLIT, "JOIN": api.JOIN,
	"TRANSFER": api.TRANSFER, "SELF": api.SELF, "SENDER": api.SENDER, "AMOUNT": api.AMOUNT, "BALANCE": api.BALANCE, "ABS": api.ABS, "ISNAT": api.ISNAT, "INT": api.INT,
}

func prim(p int, args ...api.Node) api.Node { return api.Node{Kind: api.Prim, P: p, Args: args} }

func seq(args ...api.Node) api.Node { return api.Node{Kind: api.Seq, Args: args} }

func number(n int) api.Node { return api.Node{N: n} }

func text(s string) api.Node { return api.Node{Kind: api.Text, S: s} }

// reader goes through a text word by word.
type reader struct {
	words []string
}

func newReader(s string) *reader {
	var scan scanner.Scanner
	scan.Init(strings.NewReader(s))
	scan.Mode = scanner.ScanIdents | scanner.ScanInts | scanner.ScanStrings
	r := &reader{}
	for scan.Scan() != scanner.EOF {
		r.words = append(r.words, scan.TokenText())
	}
	return r
}

func (r *reader) next() string {
	if len(r.words) == 0 {
		return ""
	}
	return r.words[0]
}

func (r *reader) take() string {
	w := r.next()
	if w == "" {
		panic("the text ends")
	}
	r.words = r.words[1:]
	return w
}

func (r *reader) expect(w string) {
	if got := r.take(); got != w {
		panic("wanted " + w + ", not " + got)
	}
}

// named is the primitive of a name. A letter is below 0.
func named(w string) int {
	for _, names := range []map[string]int{typeNames, dataNames, instructionNames} {
		if p, ok := names[w]; ok {
			return p
		}
	}
	if len(w) == 1 && 'a' <= w[0] && w[0] <= 'z' {
		return -int(w[0])
	}
	panic("no primitive: " + w)
}

// whole is a primitive with all that follows as its Args, or what one reads.
func (r *reader) whole() api.Node {
	if w := r.next(); w == "{" || w == "(" || w[0] == '"' || w == "-" || '0' <= w[0] && w[0] <= '9' {
		return r.one()
	}
	n := prim(named(r.take()))
	for !slices.Contains([]string{"", ";", "}", ")", ":"}, r.next()) {
		n.Args = append(n.Args, r.one())
	}
	return n
}

// one is a number, a text, a row, a primitive without Args, or anything in brackets.
func (r *reader) one() api.Node {
	switch w := r.take(); {
	case w == "{":
		n := seq(r.row()...)
		r.expect("}")
		return n
	case w == "(":
		n := r.whole()
		r.expect(")")
		return n
	case w == "-":
		n := r.one()
		n.N = -n.N
		return n
	case w[0] == '"':
		s, err := strconv.Unquote(w)
		if err != nil {
			panic(err)
		}
		return text(s)
	case '0' <= w[0] && w[0] <= '9':
		n, err := strconv.Atoi(w)
		if err != nil {
			panic(err)
		}
		return number(n)
	default:
		return prim(named(w))
	}
}

func (r *reader) row() []api.Node {
	var list []api.Node
	for r.next() != "" && r.next() != "}" {
		list = append(list, r.whole())
		if r.next() == ";" {
			r.take()
		}
	}
	return list
}

// rowOf is the code that a text tells, as a Seq.
func rowOf(s string) api.Node {
	r := newReader(s)
	n := seq(r.row()...)
	if r.next() != "" {
		panic("left: " + r.next())
	}
	return n
}

// typesOf are the types that a text tells.
func typesOf(s string) []api.Type {
	var list []api.Type
	r := newReader(s)
	for r.next() != "" {
		list = append(list, asType(r.whole()))
		if r.next() != "" {
			r.expect(":")
		}
	}
	return list
}

func asType(n api.Node) api.Type {
	t := api.Type{T: n.P}
	for _, arg := range n.Args {
		t.Args = append(t.Args, asType(arg))
	}
	return t
}

func typeOf(s string) api.Type {
	list := typesOf(s)
	if len(list) != 1 {
		panic("not one type: " + s)
	}
	return list[0]
}

// names are the names of all primitives, by their numbers.
var names = func() map[int]string {
	m := map[int]string{}
	for _, list := range []map[string]int{typeNames, dataNames, instructionNames} {
		for name, p := range list {
			m[p] = name
		}
	}
	return m
}()

func nameOf(p int) string {
	if name, ok := names[p]; ok {
		return name
	}
	return "?" + strconv.Itoa(p)
}

// shown is a tree as a text that rowOf and typesOf would read.
func shown(n api.Node) string {
	switch n.Kind {
	case api.Int:
		return strconv.Itoa(n.N)
	case api.Text:
		return strconv.Quote(n.S)
	case api.Prim:
		s := nameOf(n.P)
		for _, arg := range n.Args {
			a := shown(arg)
			if arg.Kind == api.Prim && len(arg.Args) > 0 {
				a = "(" + a + ")"
			}
			s += " " + a
		}
		return s
	case api.Seq:
		var list []string
		for _, arg := range n.Args {
			list = append(list, shown(arg))
		}
		return "{" + strings.Join(list, "; ") + "}"
	}
	return "?"
}

func asNode(t api.Type) api.Node {
	n := prim(t.T)
	for _, arg := range t.Args {
		n.Args = append(n.Args, asNode(arg))
	}
	return n
}

func shownTypes(s []api.Type) string {
	var list []string
	for _, t := range s {
		list = append(list, shown(asNode(t)))
	}
	return strings.Join(list, " : ")
}

var errorNames = []string{"OK", "ErrForm", "ErrRange", "ErrKind", "ErrLong", "ErrType", "ErrNone", "ErrFull"}

// answer is what Code says, as a text: an error, "Fails", or types.
func answer(x api.Typed, e api.Errno) string {
	switch {
	case e != api.OK && (x.Fails || len(x.Types) > 0):
		return "an error, and not nothing"
	case e != api.OK:
		return errorNames[e]
	case x.Fails && len(x.Types) > 0:
		return "Fails, and has types"
	case x.Fails:
		return "Fails"
	}
	return shownTypes(x.Types)
}

// The texts mean what they say.
func TestNotation(t *testing.T) {
	for _, s := range []string{"", "nat", "pair nat (list operation) : lambda unit (map string (option nat)) : bool"} {
		if got := shownTypes(typesOf(s)); got != s {
			t.Errorf("types %q: %q", s, got)
		}
	}
	for _, s := range []string{"{}", `{{}; DROP; PUSH (map string nat) {DElt "a b" -3}; IF {DUP 2; {CAR}} {}; LAMBDA nat (list nat) {NIL nat}}`} {
		if got := shown(rowOf(s).Args[0]); got != s {
			t.Errorf("code %q: %q", s, got)
		}
	}
	if n := rowOf("DUP 1; DROP"); n.Kind != api.Seq || len(n.Args) != 2 || n.Args[0].P != api.DUP || n.Args[0].Args[0].N != 1 || n.Args[1].P != api.DROP {
		t.Errorf("rowOf: %v", n)
	}
	if len(typeNames) != 15 || len(dataNames) != 9 || len(instructionNames) != 56 {
		t.Error("a name is lacking")
	}
}
