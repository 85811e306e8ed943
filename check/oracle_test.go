package check

import (
	"math/rand"
	"slices"
	"strings"
	"testing"

	"touchstone/api"
	"touchstone/kind"
	"touchstone/tree"
	"touchstone/value"
)

// A second opinion: the document's table as texts, laid on types by matching letters.

// rule is a line of the table: an instruction, the types that it goes from and to (letters of from, and t and u of its Args, stand for any types), what is said with it, and its ways.
type rule struct{ name, from, to, said, ways string }

// The ways are told by what is on top of S: "a | b" of two rows, "a & b" of a row and of where it must lead to.
var rules = []rule{
	{"DROP", "a", "", "", ""},
	{"SWAP", "a : b", "b : a", "", ""},
	{"PUSH", "", "t", "packed t", ""},
	{"PAIR", "a : b", "pair a b", "", ""},
	{"UNPAIR", "pair a b", "a : b", "", ""},
	{"CAR", "pair a b", "a", "", ""},
	{"CDR", "pair a b", "b", "", ""},
	{"LEFT", "a", "or a t", "", ""},
	{"RIGHT", "a", "or t a", "", ""},
	{"IFLEFT", "or a b", "", "", "a | b"},
	{"SOME", "a", "option a", "", ""},
	{"NONE", "", "option t", "", ""},
	{"IFNONE", "option a", "", "", " | a"},
	{"NIL", "", "list t", "", ""},
	{"CONS", "a : list a", "list a", "", ""},
	{"IFCONS", "list a", "", "", "a : list a | "},
	{"SIZE", "string", "nat", "", ""},
	{"SIZE", "list a", "nat", "", ""},
	{"SIZE", "map a b", "nat", "", ""},
	{"ITER", "list a", "", "", "a & "},
	{"ITER", "map k a", "", "", "pair k a & "},
	{"EMPTYMAP", "", "map t u", "comparable t", ""},
	{"GET", "k : map k a", "option a", "copied a", ""},
	{"UPDATE", "k : option a : map k a", "map k a", "", ""},
	{"IF", "bool", "", "", " | "},
	{"LOOP", "bool", "", "", " & bool"},
	{"EXEC", "a : lambda a b", "b", "", ""},
	{"ADD", "nat : nat", "nat", "", ""},
	{"ADD", "mutez : mutez", "mutez", "", ""},
	{"ADD", "integer : integer", "integer", "", ""},
	{"ADD", "integer : nat", "integer", "", ""},
	{"ADD", "nat : integer", "integer", "", ""},
	{"SUB", "mutez : mutez", "option mutez", "", ""},
	{"SUB", "nat : nat", "integer", "", ""},
	{"SUB", "integer : integer", "integer", "", ""},
	{"SUB", "integer : nat", "integer", "", ""},
	{"SUB", "nat : integer", "integer", "", ""},
	{"MUL", "nat : nat", "nat", "", ""},
	{"MUL", "mutez : nat", "mutez", "", ""},
	{"MUL", "nat : mutez", "mutez", "", ""},
	{"MUL", "integer : integer", "integer", "", ""},
	{"MUL", "integer : nat", "integer", "", ""},
	{"MUL", "nat : integer", "integer", "", ""},
	{"EDIV", "mutez : mutez", "option (pair nat mutez)", "", ""},
	{"EDIV", "mutez : nat", "option (pair mutez mutez)", "", ""},
	{"EDIV", "nat : nat", "option (pair nat nat)", "", ""},
	{"EDIV", "integer : integer", "option (pair integer nat)", "", ""},
	{"EDIV", "integer : nat", "option (pair integer nat)", "", ""},
	{"EDIV", "nat : integer", "option (pair integer nat)", "", ""},
	{"ABS", "integer", "nat", "", ""},
	{"ISNAT", "integer", "option nat", "", ""},
	{"INT", "nat", "integer", "", ""},
	{"COMPARE", "a : a", "integer", "comparable a", ""},
	{"EQ", "integer", "bool", "", ""},
	{"LT", "integer", "bool", "", ""},
	{"GT", "integer", "bool", "", ""},
	{"NOT", "bool", "bool", "", ""},
	{"AND", "bool : bool", "bool", "", ""},
	{"OR", "bool : bool", "bool", "", ""},
	{"CONCAT", "string : string", "string", "", ""},
	{"PACK", "a", "string", "packed a", ""},
	{"UNPACK", "string", "option t", "packed t", ""},
	{"FAILWITH", "a", "", "packed a", ""},
	{"TICKET", "a : nat", "option (ticket a)", "comparable a", ""},
	{"READ", "ticket a", "pair address (pair a nat) : ticket a", "", ""},
	{"SPLIT", "ticket a : pair nat nat", "option (pair (ticket a) (ticket a))", "", ""},
	{"JOIN", "pair (ticket a) (ticket a)", "option (ticket a)", "", ""},
	{"TRANSFER", "t : mutez : address", "operation", "stored t", ""},
	{"SELF", "", "address", "", ""},
	{"SENDER", "", "address", "", ""},
	{"AMOUNT", "", "mutez", "", ""},
	{"BALANCE", "", "mutez", "", ""},
}

// line is a rule that was read.
type line struct {
	from, to    []api.Type
	said        string
	of          int
	ways        [2][]api.Type
	both, check bool
}

// table are the lines of each instruction.
var table = func() map[int][]line {
	m := map[int][]line{}
	for _, r := range rules {
		l := line{from: typesOf(r.from), to: typesOf(r.to)}
		if said, of, ok := strings.Cut(r.said, " "); ok {
			l.said, l.of = said, -int(of[0])
		}
		if c, d, ok := strings.Cut(r.ways, "|"); ok {
			l.both, l.ways = true, [2][]api.Type{typesOf(c), typesOf(d)}
		}
		if c, d, ok := strings.Cut(r.ways, "&"); ok {
			l.check, l.ways = true, [2][]api.Type{typesOf(c), typesOf(d)}
		}
		p := instructionNames[r.name]
		m[p] = append(m[p], l)
	}
	return m
}()

// letters are the types that letters stand for.
type letters map[int]api.Type

// match is whether a type is like a pattern, with what its letters must stand for.
func (b letters) match(pattern, t api.Type) bool {
	if pattern.T < 0 {
		if x, ok := b[pattern.T]; ok {
			return similar(x, t)
		}
		b[pattern.T] = t
		return true
	}
	if pattern.T != t.T || len(pattern.Args) != len(t.Args) {
		return false
	}
	for i, arg := range pattern.Args {
		if !b.match(arg, t.Args[i]) {
			return false
		}
	}
	return true
}

// fill is a pattern's type.
func (b letters) fill(pattern api.Type) api.Type {
	if pattern.T < 0 {
		return b[pattern.T]
	}
	t := api.Type{T: pattern.T}
	for _, arg := range pattern.Args {
		t.Args = append(t.Args, b.fill(arg))
	}
	return t
}

func (b letters) on(patterns, s []api.Type) []api.Type {
	var list []api.Type
	for _, x := range patterns {
		list = append(list, b.fill(x))
	}
	return append(list, s...)
}

func similar(a, b api.Type) bool { return a.T == b.T && slices.EqualFunc(a.Args, b.Args, similar) }

// has is whether a type is, or has in it, one of these; what a lambda is of counts or not.
func has(t api.Type, inLambdas bool, kinds ...int) bool {
	if slices.Contains(kinds, t.T) {
		return true
	}
	if t.T == api.Lambda && !inLambdas {
		return false
	}
	return slices.ContainsFunc(t.Args, func(x api.Type) bool { return has(x, inLambdas, kinds...) })
}

func holds(said string, t api.Type) bool {
	switch said {
	case "comparable":
		return !has(t, true, api.Operation, api.List, api.Map, api.Lambda, api.Ticket)
	case "packed":
		return !has(t, true, api.Operation, api.Lambda, api.Ticket)
	case "copied":
		return !has(t, false, api.Operation, api.Ticket)
	case "stored":
		return !has(t, false, api.Operation)
	}
	return true
}

// measure is how deep a type is, and of how many types.
func measure(t api.Type) (depth, size int) {
	for _, arg := range t.Args {
		d, n := measure(arg)
		depth, size = max(depth, d), size+n
	}
	return depth + 1, size + 1
}

// outcome is what comes of code.
type outcome struct {
	types []api.Type
	fails bool
	e     api.Errno
}

func wrong(e api.Errno) outcome { return outcome{e: e} }

// wantCode is as Code should be, of good trees and types.
func wantCode(s []api.Type, nodes []api.Node) outcome {
	x := outcome{types: s}
	for _, n := range nodes {
		if x.fails {
			return wrong(api.ErrForm)
		}
		if x = wantOne(n, x.types); x.e != api.OK {
			return wrong(x.e)
		}
		if len(x.types) > 40 {
			return wrong(api.ErrFull)
		}
		for _, t := range x.types {
			if depth, size := measure(t); depth > 24 || size > 300 {
				return wrong(api.ErrLong)
			}
		}
	}
	return x
}

// formed is whether Args are of the forms that a text tells, with the types that they tell.
func formed(args []api.Node, forms string) (letters, bool) {
	b := letters{}
	for i, arg := range args {
		switch form := forms[i]; {
		case form == 'n' && (arg.Kind != api.Int || arg.N < 0 || arg.N > 40):
			return nil, false
		case (form == 'c' || form == 'd') && arg.Kind != api.Seq:
			return nil, false
		case form == 't' || form == 'u':
			t, e := kind.Parse(arg)
			if e != api.OK {
				return nil, false
			}
			b[-int(form)] = t
		}
	}
	return b, true
}

var wantForms = map[string]string{
	"DUP": "n", "DIG": "n", "DUG": "n", "PUSH": "tv", "LEFT": "t", "RIGHT": "t", "IFLEFT": "cd", "NONE": "t", "IFNONE": "cd", "NIL": "t", "IFCONS": "cd", "ITER": "c",
	"EMPTYMAP": "tu", "IF": "cd", "LOOP": "c", "LAMBDA": "tuc", "DIP": "c", "UNPACK": "t", "TRANSFER": "t",
}

func wantOne(n api.Node, s []api.Type) outcome {
	if n.Kind == api.Seq {
		return wantCode(s, n.Args)
	}
	if n.Kind != api.Prim || n.P < api.DROP {
		return wrong(api.ErrForm)
	}
	forms := wantForms[nameOf(n.P)]
	if len(n.Args) != len(forms) {
		return wrong(api.ErrForm)
	}
	b, ok := formed(n.Args, forms)
	if !ok {
		return wrong(api.ErrForm)
	}
	switch n.P {
	case api.DUP, api.DIG, api.DUG:
		return wantMoved(n.P, n.Args[0].N, s)
	case api.LAMBDA:
		return wantLambda(b, n.Args[2], s)
	case api.DIP:
		if len(s) == 0 {
			return wrong(api.ErrType)
		}
		x := wantCode(s[1:], n.Args[0].Args)
		if x.fails {
			return wrong(api.ErrForm)
		}
		x.types = append([]api.Type{s[0]}, x.types...)
		return x
	}
	for _, l := range table[n.P] {
		if x, ok := l.want(n, b, s); ok {
			return x
		}
	}
	return wrong(api.ErrType)
}

func wantMoved(p, n int, s []api.Type) outcome {
	list := slices.Clone(s)
	switch {
	case p == api.DUP && n > 0 && n <= len(s) && holds("copied", s[n-1]):
		return outcome{types: slices.Insert(list, 0, s[n-1])}
	case p == api.DIG && n < len(s):
		return outcome{types: slices.Insert(slices.Delete(list, n, n+1), 0, s[n])}
	case p == api.DUG && n < len(s):
		return outcome{types: slices.Insert(slices.Delete(list, 0, 1), n, s[0])}
	}
	return wrong(api.ErrType)
}

func wantLambda(b letters, c api.Node, s []api.Type) outcome {
	t, u := b[-'t'], b[-'u']
	if strings.Contains(shown(c), "TICKET") {
		return wrong(api.ErrType)
	}
	x := wantCode([]api.Type{t}, c.Args)
	if x.e != api.OK {
		return x
	}
	if !x.fails && !slices.EqualFunc(x.types, []api.Type{u}, similar) {
		return wrong(api.ErrType)
	}
	return outcome{types: append([]api.Type{wrap(api.Lambda, t, u)}, s...)}
}

// want is what a line of the table says of an instruction, if it speaks of these types.
func (l line) want(n api.Node, args letters, s []api.Type) (outcome, bool) {
	b := letters{}
	for k, t := range args {
		b[k] = t
	}
	if len(s) < len(l.from) {
		return outcome{}, false
	}
	for i, x := range l.from {
		if !b.match(x, s[i]) {
			return outcome{}, false
		}
	}
	if l.said != "" && !holds(l.said, b[l.of]) {
		return outcome{}, false
	}
	if n.P == api.PUSH {
		if _, e := value.Parse(b[-'t'], n.Args[1]); e != api.OK {
			return outcome{}, false
		}
	}
	rest := s[len(l.from):]
	switch {
	case n.P == api.FAILWITH:
		return outcome{fails: true}, true
	case l.both:
		return wantMeet(wantCode(b.on(l.ways[0], rest), n.Args[0].Args), wantCode(b.on(l.ways[1], rest), n.Args[1].Args)), true
	case l.check:
		x := wantMeet(wantCode(b.on(l.ways[0], rest), n.Args[0].Args), outcome{types: b.on(l.ways[1], rest)})
		x.types = rest
		return x, true
	}
	return outcome{types: b.on(l.to, rest)}, true
}

func wantMeet(c, d outcome) outcome {
	switch {
	case c.e != api.OK:
		return c
	case d.e != api.OK:
		return d
	case c.fails:
		return d
	case d.fails:
		return c
	case slices.EqualFunc(c.types, d.types, similar):
		return c
	}
	return wrong(api.ErrType)
}

// agree tests that Code says what the second opinion says.
func agree(t *testing.T, nodes []api.Node, s []api.Type) outcome {
	t.Helper()
	want := wantCode(s, nodes)
	if want.e != api.OK {
		want = wrong(want.e)
	}
	x, e := Code(seq(nodes...), s)
	if e != want.e || x.Fails != want.fails || !slices.EqualFunc(x.Types, want.types, similar) {
		t.Fatalf("%s from %q: %q, wanted %q", shown(seq(nodes...)), shownTypes(s), answer(x, e), answer(api.Typed{Types: want.types, Fails: want.fails}, want.e))
	}
	return want
}

// samples are types of which stacks are made.
var samples = []string{
	"unit", "bool", "integer", "nat", "mutez", "string", "address", "operation", "option nat", "list nat", "pair nat nat", "or nat string", "map nat nat", "lambda nat nat", "ticket nat",
	"pair (ticket nat) (ticket nat)", "option (ticket nat)", "map nat (ticket nat)", "option integer",
}

var sampleRows = []string{"{}", "{DROP}", "{DROP; DROP}", "{FAILWITH}", "{PUSH bool DTrue}", "{CAR; DROP}", "{DROP; SELF}", "{INT}", "{CAR 1}", "{FAILWITH; DROP}"}

// variants are all instructions, with Args of many sorts.
func variants() []api.Node {
	var list []api.Node
	add := func(s string) { list = append(list, rowOf(s).Args...) }
	inBrackets := func(s string) string { return "(" + s + ")" }
	for name := range instructionNames {
		switch wantForms[name] {
		case "":
			add(name)
		case "n":
			for _, n := range []string{"-1", "0", "1", "2", "3", "4", "40", "41"} {
				add(name + " " + n)
			}
		case "t":
			for _, s := range samples {
				add(name + " " + inBrackets(s))
			}
		case "tu":
			for _, s := range samples {
				add(name + inBrackets(s) + " nat")
				add(name + " nat " + inBrackets(s))
			}
		case "tv":
			for _, s := range samples {
				for _, v := range []string{"1", "-1", "{}", "DNone", `"x"`, "DUnit", "DTrue", "(DPair 1 1)", "(DLeft 1)"} {
					add(name + inBrackets(s) + " " + v)
				}
			}
		case "tuc":
			for _, s := range samples {
				for _, c := range append(sampleRows, "{UNPAIR; TICKET}", "{UNPAIR}", "{JOIN}") {
					add(name + inBrackets(s) + inBrackets(s) + c)
					add(name + " nat " + inBrackets(s) + c)
					add(name + inBrackets(s) + " (option (ticket nat))" + c)
				}
			}
		case "c":
			for _, c := range sampleRows {
				add(name + " " + c)
			}
		case "cd":
			for _, c := range sampleRows {
				for _, d := range sampleRows {
					add(name + " " + c + " " + d)
				}
			}
		}
	}
	return list
}

// Every instruction on all small stacks.
func TestCodeAgreesOnSmallStacks(t *testing.T) {
	stacks := [][]api.Type{nil}
	for _, a := range samples {
		stacks = append(stacks, typesOf(a))
		for _, b := range samples {
			stacks = append(stacks, typesOf(a+" : "+b))
		}
	}
	for _, n := range variants() {
		for _, s := range stacks {
			agree(t, []api.Node{n}, s)
		}
	}
	ofThree := []string{"UPDATE", "SPLIT", "DIG 2", "DUG 2", "DUP 3", "DIG 1", "DUG 1"}
	for _, s := range samples {
		ofThree = append(ofThree, "TRANSFER ("+s+")")
	}
	for _, s := range stacks {
		if len(s) < 2 {
			continue
		}
		for _, c := range samples {
			whole := append(slices.Clone(s), typeOf(c))
			for _, code := range ofThree {
				agree(t, rowOf(code).Args, whole)
			}
		}
	}
}

// maker makes code that mostly means something.
type maker struct {
	*rand.Rand
	next int // the instruction to try first, if there is one
}

func (m *maker) pick(list ...string) string { return list[m.Intn(len(list))] }

// someType is one that stands there, a piece of such a one, or a small one.
func (m *maker) someType(s []api.Type) api.Type {
	if len(s) == 0 || m.Intn(3) == 0 {
		return typeOf(m.pick(samples...))
	}
	t := s[m.Intn(min(len(s), 3))]
	if len(t.Args) > 0 && m.Intn(3) == 0 {
		t = t.Args[m.Intn(len(t.Args))]
	}
	return t
}

// made is code that puts a type on a stack, if there is such code, or Fails.
func made(t api.Type) []api.Node {
	each := func(args ...api.Type) []api.Node {
		var list []api.Node
		for _, arg := range slices.Backward(args) {
			list = append(list, made(arg)...)
		}
		return list
	}
	push := func(v api.Node) []api.Node { return []api.Node{prim(api.PUSH, asNode(t), v)} }
	switch t.T {
	case api.Unit:
		return push(prim(api.DUnit))
	case api.Bool:
		return push(prim(api.DTrue))
	case api.Integer, api.Nat, api.Mutez, api.Address:
		return push(number(1))
	case api.String:
		return push(text("x"))
	case api.Option:
		return []api.Node{prim(api.NONE, asNode(t.Args[0]))}
	case api.List:
		return []api.Node{prim(api.NIL, asNode(t.Args[0]))}
	case api.Map:
		return []api.Node{prim(api.EMPTYMAP, asNode(t.Args[0]), asNode(t.Args[1]))}
	case api.Pair:
		return append(each(t.Args...), prim(api.PAIR))
	case api.Or:
		return append(made(t.Args[0]), prim(api.LEFT, asNode(t.Args[1])))
	case api.Lambda:
		return []api.Node{prim(api.LAMBDA, asNode(t.Args[0]), asNode(t.Args[1]), rowOf("DROP; PUSH unit DUnit; FAILWITH"))}
	}
	return rowOf("PUSH unit DUnit; FAILWITH").Args
}

// lead is code that leads from one stack to the other.
func lead(from, to []api.Type) []api.Node {
	same := 0
	for same < min(len(from), len(to)) && similar(from[len(from)-1-same], to[len(to)-1-same]) {
		same++
	}
	var list []api.Node
	for range len(from) - same {
		list = append(list, prim(api.DROP))
	}
	for _, t := range slices.Backward(to[:len(to)-same]) {
		for _, n := range made(t) {
			list = append(list, n)
			if n.P == api.FAILWITH {
				return list
			}
		}
	}
	return list
}

// row is a random row from a stack, and where it leads to.
func (m *maker) row(s []api.Type, depth int) ([]api.Node, outcome) {
	var list []api.Node
	x := outcome{types: s}
	for range m.Intn(7) {
		if x.fails && m.Intn(10) > 0 {
			break
		}
		n, next := m.instruction(x.types, depth)
		for range 30 {
			// An error now and then, but not too often.
			if next.e == api.OK || m.Intn(150) == 0 {
				break
			}
			n, next = m.instruction(x.types, depth)
		}
		list = append(list, n)
		if x = next; x.e != api.OK {
			break
		}
	}
	return list, x
}

// toward is a random row that leads to a stack, or mostly does.
func (m *maker) toward(s, to []api.Type, depth int) api.Node {
	list, x := m.row(s, depth)
	if x.e == api.OK && !x.fails && m.Intn(50) > 0 {
		list = append(list, lead(x.types, to)...)
	}
	return seq(list...)
}

// instruction is a random one, and where it leads to.
func (m *maker) instruction(s []api.Type, depth int) (api.Node, outcome) {
	p := api.DROP + m.Intn(api.INT-api.DROP+1)
	if m.Intn(30) == 0 && depth > 0 {
		list, x := m.row(s, depth-1)
		return seq(list...), x
	}
	if m.next != 0 {
		p, m.next = m.next, 0
	}
	n := prim(p)
	forms := wantForms[nameOf(p)]
	for _, form := range forms {
		switch form {
		case 'n':
			n.Args = append(n.Args, number(m.Intn(len(s)+2)))
		case 't', 'u':
			n.Args = append(n.Args, asNode(m.someType(s)))
		case 'v':
			n.Args = append(n.Args, m.valueOf(asType(n.Args[0])))
		}
	}
	if strings.ContainsAny(forms, "cd") {
		if depth == 0 {
			return n, wrong(api.ErrForm)
		}
		n.Args = append(n.Args, m.rows(n, s, depth-1)...)
	}
	if m.Intn(500) == 0 {
		n.Args = append(n.Args, number(1))
	}
	return n, wantOne(n, s)
}

// valueOf is the tree of a value that code would push, or of none.
func (m *maker) valueOf(t api.Type) api.Node {
	if code := made(t); code[0].P == api.PUSH {
		return code[0].Args[1]
	}
	return rowOf(m.pick("{}", "DNone", "DSome 1", "DPair 1 1", "DLeft 1")).Args[0]
}

// rows are those of an instruction that has some.
func (m *maker) rows(n api.Node, s []api.Type, depth int) []api.Node {
	if n.P == api.LAMBDA {
		t, u := asType(n.Args[0]), asType(n.Args[1])
		return []api.Node{m.toward([]api.Type{t}, []api.Type{u}, depth)}
	}
	if n.P == api.DIP {
		list, _ := m.row(s[min(1, len(s)):], depth)
		return []api.Node{seq(list...)}
	}
	for _, l := range table[n.P] {
		b := letters{}
		if len(s) == 0 || !b.match(l.from[0], s[0]) {
			continue
		}
		c, d := b.on(l.ways[0], s[1:]), b.on(l.ways[1], s[1:])
		if l.check {
			return []api.Node{m.toward(c, d, depth)}
		}
		list, x := m.row(c, depth)
		return []api.Node{seq(list...), m.toward(d, x.types, depth)}
	}
	return nil
}

// stack is a random one: few types or nearly as many as may be, now and then a deep one, or those that the instruction to try first goes from.
func (m *maker) stack() []api.Type {
	size := m.Intn(5)
	if m.Intn(10) == 0 {
		size = 36 + m.Intn(5)
	}
	var s []api.Type
	for range size {
		s = append(s, typeOf(m.pick(samples...)))
	}
	if m.Intn(10) == 0 {
		s = append([]api.Type{under(20+m.Intn(4), typeOf("nat"))}, s...)
	}
	if m.Intn(3) == 0 {
		r := rules[m.Intn(len(rules))]
		m.next = instructionNames[r.name]
		b := letters{}
		for _, letter := range "abkt" {
			b[-int(letter)] = typeOf(m.pick(samples...))
		}
		s = b.on(typesOf(r.from), s)
	}
	return s
}

func TestCodeAgrees(t *testing.T) {
	m := &maker{Rand: rand.New(rand.NewSource(51))}
	seen := map[string]int{}
	done := map[int]int{}
	for range 40000 {
		s := m.stack()
		if len(s) > api.MaxStack || slices.ContainsFunc(s, func(t api.Type) bool { return !kind.Good(t) }) {
			continue
		}
		list, _ := m.row(s, 3)
		if tree.Good(seq(list...)) != api.OK {
			continue
		}
		x := agree(t, list, s)
		switch {
		case x.e != api.OK:
			seen[errorNames[x.e]]++
		case x.fails:
			seen["Fails"]++
		default:
			seen["OK"]++
			counts(list, done)
		}
	}
	for _, name := range []string{"OK", "Fails", "ErrForm", "ErrType", "ErrFull", "ErrLong"} {
		if seen[name] < 100 {
			t.Errorf("%s came out %d times of %v", name, seen[name], seen)
		}
	}
	for name, p := range instructionNames {
		if done[p] < 20 {
			t.Errorf("%s was in code that means something %d times", name, done[p])
		}
	}
}

func counts(list []api.Node, done map[int]int) {
	for _, n := range list {
		if n.Kind == api.Prim {
			done[n.P]++
		}
		counts(n.Args, done)
	}
}
