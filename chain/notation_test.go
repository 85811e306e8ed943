package chain

import (
	"slices"
	"strconv"
	"strings"
	"testing"
	"text/scanner"

	"touchstone/api"
	"touchstone/ledger"
	"touchstone/value"
)

// Tests tell types, values and code by texts: "list nat" is a type, "{1; 2}" a value of it, "CDR; NIL operation; PAIR" is code. A value is told by its tree; Ticket 5 3 "x" is one that 5 made, of 3 of "x", and a lambda is told by its code.

const primNames = "unit bool integer nat mutez string address operation option list pair or map lambda ticket" +
	" . . . . DUnit DTrue DFalse DPair DLeft DRight DSome DNone DElt . . . . . . . . . . ." +
	" DROP DUP SWAP DIG DUG PUSH PAIR UNPAIR CAR CDR LEFT RIGHT IFLEFT SOME NONE IFNONE NIL CONS IFCONS SIZE ITER EMPTYMAP GET UPDATE IF LOOP LAMBDA EXEC DIP" +
	" ADD SUB MUL EDIV COMPARE EQ LT GT NOT AND OR CONCAT PACK UNPACK FAILWITH TICKET READ SPLIT JOIN TRANSFER SELF SENDER AMOUNT BALANCE ABS ISNAT INT" +
	" Ticket"

// names are those of all primitives, by their numbers less 1.
var names = strings.Fields(primNames)

func named(name string) int {
	p := slices.Index(names, name)
	if p < 0 {
		panic("no primitive: " + name)
	}
	return p + 1
}

func prim(p int, args ...api.Node) api.Node { return api.Node{Kind: api.Prim, P: p, Args: args} }

func seq(args ...api.Node) api.Node { return api.Node{Kind: api.Seq, Args: args} }

// reader goes through a text word by word.
type reader struct{ words []string }

func newReader(s string) *reader {
	var scan scanner.Scanner
	scan.Init(strings.NewReader(s))
	scan.Mode = scanner.ScanIdents | scanner.ScanInts | scanner.ScanStrings
	r := &reader{}
	for scan.Scan() != scanner.EOF {
		r.words = append(r.words, scan.TokenText())
	}
	return r
}

func (r *reader) next() string {
	if len(r.words) == 0 {
		return ""
	}
	return r.words[0]
}

func (r *reader) take() string {
	w := r.next()
	if w == "" {
		panic("the text ends")
	}
	r.words = r.words[1:]
	return w
}

func (r *reader) expect(w string) {
	if got := r.take(); got != w {
		panic("wanted " + w + ", not " + got)
	}
}

// whole is a primitive with all that follows as its Args, or what one reads.
func (r *reader) whole() api.Node {
	if w := r.next(); !isName(w) {
		return r.one()
	}
	n := prim(named(r.take()))
	for !slices.Contains([]string{"", ";", "}", ")"}, r.next()) {
		n.Args = append(n.Args, r.one())
	}
	return n
}

func isName(w string) bool { return w[0]|32 >= 'a' && w[0]|32 <= 'z' }

// one is a number, a text, a row, a primitive without Args, or anything in brackets.
func (r *reader) one() api.Node {
	switch w := r.take(); {
	case w == "{":
		n := seq(r.row()...)
		r.expect("}")
		return n
	case w == "(":
		n := r.whole()
		r.expect(")")
		return n
	case w == "-":
		n := r.one()
		n.N = -n.N
		return n
	case w[0] == '"':
		s, err := strconv.Unquote(w)
		if err != nil {
			panic(err)
		}
		return api.Node{Kind: api.Text, S: s}
	case isName(w):
		return prim(named(w))
	default:
		n, err := strconv.Atoi(w)
		if err != nil {
			panic(err)
		}
		return api.Node{N: n}
	}
}

func (r *reader) row() []api.Node {
	var list []api.Node
	for r.next() != "" && r.next() != "}" {
		list = append(list, r.whole())
		if r.next() == ";" {
			r.take()
		}
	}
	return list
}

// end is n, if nothing is left to read.
func (r *reader) end(n api.Node) api.Node {
	if r.next() != "" {
		panic("left: " + r.next())
	}
	return n
}

func nodeOf(s string) api.Node {
	r := newReader(s)
	return r.end(r.whole())
}

func codeOf(s string) []api.Node {
	r := newReader(s)
	return r.end(seq(r.row()...)).Args
}

func typeIn(n api.Node) api.Type {
	t := api.Type{T: n.P}
	for _, arg := range n.Args {
		t.Args = append(t.Args, typeIn(arg))
	}
	return t
}

func typeOf(s string) api.Type { return typeIn(nodeOf(s)) }

// valueOf is a value that a text tells as one of the type that another one tells.
func valueOf(t, s string) api.Value { return inType(typeOf(t), s) }

// inType is a value that a text tells as one of a type.
func inType(t api.Type, s string) api.Value { return valueIn(t, nodeOf(s)) }

// valueIn is the value of a type that a tree tells, if it is any: nothing keeps it to what it may be.
func valueIn(t api.Type, n api.Node) api.Value {
	v := api.Value{K: t.T, N: n.N, S: n.S}
	each := func(types ...api.Type) {
		for i, x := range types {
			v.Args = append(v.Args, valueIn(x, n.Args[i]))
		}
	}
	switch t.T {
	case api.Bool:
		v.N = api.DFalse - n.P
	case api.Option, api.Pair:
		each(t.Args[:len(n.Args)]...)
	case api.Or:
		v.N = n.P - api.DLeft
		each(t.Args[v.N])
	case api.List:
		each(slices.Repeat(t.Args, len(n.Args))...)
	case api.Map:
		each(slices.Repeat([]api.Type{{T: api.Pair, Args: t.Args}}, len(n.Args))...)
	case api.Lambda:
		v.Types, v.Code = t.Args, n.Args
	case api.Ticket:
		v.A, v.N, v.Args = n.Args[0].N, n.Args[1].N, []api.Value{valueIn(t.Args[0], n.Args[2])}
	}
	return v
}

// transfer is an Op that sends an amount, with what a text tells.
func transfer(to, amount int, arg string) api.Op {
	return api.Op{Kind: api.Transfer, To: to, Amount: amount, Arg: nodeOf(arg)}
}

// script is a contract's: of which types, and its code.
type script struct{ param, store, code string }

// originate is an Op that makes a contract.
func originate(s script, amount int, storage string) api.Op {
	types := [2]api.Node{nodeOf(s.param), nodeOf(s.store)}
	return api.Op{Kind: api.Originate, Amount: amount, Arg: nodeOf(storage), Types: types, Code: seq(codeOf(s.code)...)}
}

// contract is an account of a script, with no money.
func contract(s script, storage string) api.Account {
	return api.Account{Is: api.Contract, Param: typeOf(s.param), Store: typeOf(s.store), Code: codeOf(s.code), Storage: valueOf(s.store, storage)}
}

// with is a new ledger with contracts behind the people.
func with(contracts ...api.Account) api.Ledger {
	l := ledger.New()
	copy(l.Accounts[api.Implicit:], contracts)
	return l
}

var errorNames = strings.Fields("OK ErrForm ErrRange ErrKind ErrLong ErrType ErrNone ErrFull ErrFunds ErrOld ErrFail ErrOver ErrGas ErrBig ErrStuck")

func errorName(e api.Errno) string {
	if e < 0 || int(e) >= len(errorNames) {
		return strconv.Itoa(int(e))
	}
	return errorNames[e]
}

// The texts mean what they say.
func TestNotation(t *testing.T) {
	for p, name := range map[int]string{api.Unit: "unit", api.Ticket: "ticket", api.DUnit: "DUnit", api.DElt: "DElt", api.DROP: "DROP", api.IFCONS: "IFCONS", api.COMPARE: "COMPARE", api.READ: "READ", api.INT: "INT"} {
		if named(name) != p {
			t.Errorf("%s is %d", name, named(name))
		}
	}
	nat := api.Type{T: api.Nat}
	for _, x := range []struct {
		t, s string
		want api.Value
	}{
		{"nat", "5", api.Value{K: api.Nat, N: 5}},
		{"integer", "-5", api.Value{K: api.Integer, N: -5}},
		{"string", `"a b"`, api.Value{K: api.String, S: "a b"}},
		{"bool", "DTrue", api.Value{K: api.Bool, N: 1}},
		{"ticket nat", "Ticket 4 7 1", api.Value{K: api.Ticket, A: 4, N: 7, Args: []api.Value{{K: api.Nat, N: 1}}}},
		{"or unit (option nat)", "DRight (DSome 3)", api.Value{K: api.Or, N: 1, Args: []api.Value{{K: api.Option, Args: []api.Value{{K: api.Nat, N: 3}}}}}},
		{"lambda nat nat", "{PUSH nat 1; ADD}", api.Value{K: api.Lambda, Types: []api.Type{nat, nat}, Code: []api.Node{prim(api.PUSH, prim(api.Nat), api.Node{N: 1}), prim(api.ADD)}}},
	} {
		if got := valueOf(x.t, x.s); !value.Same(got, x.want) {
			t.Errorf("%s of %s: %+v", x.s, x.t, got)
		}
	}
}
