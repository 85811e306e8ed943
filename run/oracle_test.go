package run

import (
	"math/big"
	"math/rand"
	"slices"
	"strings"
	"testing"

	"touchstone/api"
	"touchstone/check"
	"touchstone/kind"
	"touchstone/tree"
	"touchstone/value"
)

// A second opinion: rows within rows as calls within calls, stacks that are never written to, numbers without bounds.

// judge goes through code.
type judge struct {
	env               api.Env
	gas, paid, minted int
	done              map[string]int // how often each instruction was done
}

// stop is what ends a run ahead of its end.
type stop struct {
	e    api.Errno
	said api.Value
}

// judged is as Run should be, of code that means something on the stack.
func (j *judge) judged(code api.Node, stack []api.Value) (r api.Result) {
	defer func() {
		switch x := recover().(type) {
		case nil:
		case stop:
			r = api.Result{Code: x.e, Said: x.said, Gas: j.paid}
		default:
			panic(x)
		}
	}()
	s := j.row(code, stack)
	return api.Result{Stack: s, Gas: j.paid, Minted: j.minted}
}

func (j *judge) pay() {
	if j.gas <= j.paid {
		panic(stop{e: api.ErrGas})
	}
	j.paid++
}

func (j *judge) row(code api.Node, s []api.Value) []api.Value {
	for _, n := range code.Args {
		if n.Kind == api.Seq {
			s = j.row(n, s)
			continue
		}
		j.pay()
		name := nameOf(n.P)
		j.done[name]++
		if does, ok := rules[name]; ok {
			s = onto(does.put(j, n, s), s[does.takes:])
		} else {
			s = j.through(name, n, s)
		}
	}
	return s
}

func onto(top, s []api.Value) []api.Value { return slices.Concat(top, s) }

// through: the instructions with rows, and those that reach into the stack.
func (j *judge) through(name string, n api.Node, s []api.Value) []api.Value {
	switch name {
	case "DROP":
		return s[1:]
	case "DUP":
		k := n.Args[0].N
		fit(s[k-1 : k])
		return onto(s[k-1:k], s)
	case "DIG":
		k := n.Args[0].N
		return slices.Concat(s[k:k+1], s[:k], s[k+1:])
	case "DUG":
		k := n.Args[0].N
		return slices.Concat(s[1:k+1], s[:1], s[k+1:])
	case "DIP":
		return onto(s[:1], j.row(n.Args[0], s[1:]))
	case "EXEC":
		return onto(j.row(seq(s[1].Code...), s[:1]), s[2:])
	case "ITER":
		items, s := s[0].Args, s[1:]
		for _, item := range items {
			j.pay()
			s = j.row(n.Args[0], onto([]api.Value{item}, s))
		}
		return s
	case "LOOP":
		for s[0].N == 1 {
			j.pay()
			s = j.row(n.Args[0], s[1:])
		}
		return s[1:]
	}
	v, s := s[0], s[1:]
	first, out := true, v.Args
	switch name {
	case "IF":
		first = v.N == 1
	case "IFLEFT":
		first = v.N == 0
	case "IFNONE":
		first = len(v.Args) == 0
	case "IFCONS":
		if first = len(v.Args) > 0; first {
			out = []api.Value{v.Args[0], {K: api.List, Args: v.Args[1:]}}
		}
	}
	fit(out)
	if first {
		return j.row(n.Args[0], onto(out, s))
	}
	return j.row(n.Args[1], onto(out, s))
}

func fit(list []api.Value) {
	for _, v := range list {
		if largeness(v) > 200 {
			panic(stop{e: api.ErrBig})
		}
	}
}

func largeness(v api.Value) int {
	n := 1 + len(v.S)/8
	for _, arg := range v.Args {
		n += largeness(arg)
	}
	return n
}

// rule is an instruction that takes so many values and puts others.
type rule struct {
	takes int
	does  func(j *judge, n api.Node, a []api.Value) []api.Value
}

func (r rule) put(j *judge, n api.Node, s []api.Value) []api.Value {
	out := r.does(j, n, s[:r.takes])
	fit(out)
	return out
}

// one is a rule that puts one value, whatever its node.
func one(takes int, does func(a []api.Value) api.Value) rule {
	return rule{takes, func(_ *judge, _ api.Node, a []api.Value) []api.Value { return []api.Value{does(a)} }}
}

func val(k, n int, args ...api.Value) api.Value { return api.Value{K: k, N: n, Args: args} }

func maybe(ok bool, v api.Value) api.Value {
	if ok {
		return val(api.Option, 0, v)
	}
	return val(api.Option, 0)
}

func yesNo(ok bool) api.Value {
	if ok {
		return val(api.Bool, 1)
	}
	return val(api.Bool, 0)
}

func refuse(wrong bool, e api.Errno) {
	if wrong {
		panic(stop{e: e})
	}
}

var bound = big.NewInt(1 << 60)

// within is a number of a kind, if it is within the bounds.
func within(k int, n *big.Int) api.Value {
	refuse(n.CmpAbs(bound) > 0, api.ErrOver)
	return val(k, int(n.Int64()))
}

func large(v api.Value) *big.Int { return big.NewInt(int64(v.N)) }

func words(v api.Value) string { return shown(treeOf(v)) }

var rules map[string]rule

func init() {
	rules = map[string]rule{
		"SWAP": {2, func(_ *judge, _ api.Node, a []api.Value) []api.Value { return []api.Value{a[1], a[0]} }},
		"PUSH": {0, func(_ *judge, n api.Node, _ []api.Value) []api.Value {
			return []api.Value{valueIn(typeIn(n.Args[0]), n.Args[1])}
		}},
		"PAIR":     one(2, func(a []api.Value) api.Value { return val(api.Pair, 0, a...) }),
		"UNPAIR":   {1, func(_ *judge, _ api.Node, a []api.Value) []api.Value { return a[0].Args }},
		"CAR":      one(1, func(a []api.Value) api.Value { return a[0].Args[0] }),
		"CDR":      one(1, func(a []api.Value) api.Value { return a[0].Args[1] }),
		"LEFT":     one(1, func(a []api.Value) api.Value { return val(api.Or, 0, a[0]) }),
		"RIGHT":    one(1, func(a []api.Value) api.Value { return val(api.Or, 1, a[0]) }),
		"SOME":     one(1, func(a []api.Value) api.Value { return maybe(true, a[0]) }),
		"NONE":     one(0, func([]api.Value) api.Value { return val(api.Option, 0) }),
		"NIL":      one(0, func([]api.Value) api.Value { return val(api.List, 0) }),
		"EMPTYMAP": one(0, func([]api.Value) api.Value { return val(api.Map, 0) }),
		"CONS": one(2, func(a []api.Value) api.Value {
			refuse(len(a[1].Args) == 24, api.ErrBig)
			return val(api.List, 0, onto(a[:1], a[1].Args)...)
		}),
		"SIZE": one(1, func(a []api.Value) api.Value {
			if a[0].K == api.String {
				return val(api.Nat, len(a[0].S))
			}
			return val(api.Nat, len(a[0].Args))
		}),
		"GET":    one(2, wantGet),
		"UPDATE": one(3, wantUpdate),
		"ADD": one(2, func(a []api.Value) api.Value {
			return within(wantKind(a, true), new(big.Int).Add(large(a[0]), large(a[1])))
		}),
		"MUL": one(2, func(a []api.Value) api.Value {
			return within(wantKind(a, true), new(big.Int).Mul(large(a[0]), large(a[1])))
		}),
		"SUB":     one(2, wantSub),
		"EDIV":    one(2, wantEdiv),
		"ABS":     one(1, func(a []api.Value) api.Value { return within(api.Nat, new(big.Int).Abs(large(a[0]))) }),
		"ISNAT":   one(1, func(a []api.Value) api.Value { return maybe(a[0].N >= 0, val(api.Nat, a[0].N)) }),
		"INT":     one(1, func(a []api.Value) api.Value { return val(api.Integer, a[0].N) }),
		"COMPARE": one(2, func(a []api.Value) api.Value { return val(api.Integer, value.Order(a[0], a[1])) }),
		"EQ":      one(1, func(a []api.Value) api.Value { return yesNo(a[0].N == 0) }),
		"LT":      one(1, func(a []api.Value) api.Value { return yesNo(a[0].N < 0) }),
		"GT":      one(1, func(a []api.Value) api.Value { return yesNo(a[0].N > 0) }),
		"NOT":     one(1, func(a []api.Value) api.Value { return yesNo(a[0].N == 0) }),
		"AND":     one(2, func(a []api.Value) api.Value { return yesNo(a[0].N+a[1].N == 2) }),
		"OR":      one(2, func(a []api.Value) api.Value { return yesNo(a[0].N+a[1].N > 0) }),
		"CONCAT": one(2, func(a []api.Value) api.Value {
			refuse(len(a[0].S)+len(a[1].S) > 200, api.ErrBig)
			return api.Value{K: api.String, S: strings.Join([]string{a[0].S, a[1].S}, "")}
		}),
		"PACK": one(1, func(a []api.Value) api.Value {
			s, e := tree.Encode(treeOf(a[0]))
			refuse(e != api.OK || len(s) > 199, api.ErrBig)
			return api.Value{K: api.String, S: "\x05" + s}
		}),
		"UNPACK": {1, func(_ *judge, n api.Node, a []api.Value) []api.Value {
			v, e := value.Unpack(typeIn(n.Args[0]), a[0].S)
			return []api.Value{maybe(e == api.OK, v)}
		}},
		"FAILWITH": {1, func(_ *judge, _ api.Node, a []api.Value) []api.Value { panic(stop{api.ErrFail, a[0]}) }},
		"LAMBDA": {0, func(_ *judge, n api.Node, _ []api.Value) []api.Value {
			return []api.Value{{K: api.Lambda, Types: []api.Type{typeIn(n.Args[0]), typeIn(n.Args[1])}, Code: n.Args[2].Args}}
		}},
		"TRANSFER": {3, func(_ *judge, n api.Node, a []api.Value) []api.Value {
			return []api.Value{{K: api.Operation, A: a[2].N, N: a[1].N, Args: a[:1], Types: []api.Type{typeIn(n.Args[0])}}}
		}},
		"TICKET": {2, wantTicket},
		"READ":   {1, wantRead},
		"SPLIT":  one(2, wantSplit),
		"JOIN":   one(1, wantJoin),
		"SELF": {0, func(j *judge, _ api.Node, _ []api.Value) []api.Value {
			return []api.Value{val(api.Address, j.env.Self)}
		}},
		"SENDER": {0, func(j *judge, _ api.Node, _ []api.Value) []api.Value {
			return []api.Value{val(api.Address, j.env.Sender)}
		}},
		"AMOUNT": {0, func(j *judge, _ api.Node, _ []api.Value) []api.Value {
			return []api.Value{val(api.Mutez, j.env.Amount)}
		}},
		"BALANCE": {0, func(j *judge, _ api.Node, _ []api.Value) []api.Value {
			return []api.Value{val(api.Mutez, j.env.Balance)}
		}},
	}
}

// wantKind is the type of what is reckoned of two numbers.
func wantKind(a []api.Value, stays bool) int {
	kinds := map[int]bool{a[0].K: true, a[1].K: true}
	switch {
	case kinds[api.Mutez]:
		return api.Mutez
	case kinds[api.Integer] || !stays:
		return api.Integer
	}
	return api.Nat
}

func wantSub(a []api.Value) api.Value {
	v := within(wantKind(a, false), new(big.Int).Sub(large(a[0]), large(a[1])))
	if v.K == api.Mutez {
		return maybe(v.N >= 0, v)
	}
	return v
}

func wantEdiv(a []api.Value) api.Value {
	if a[1].N == 0 {
		return val(api.Option, 0)
	}
	q, r := new(big.Int).DivMod(large(a[0]), large(a[1]), new(big.Int))
	kinds := map[[2]int][2]int{
		{api.Mutez, api.Mutez}: {api.Nat, api.Mutez}, {api.Mutez, api.Nat}: {api.Mutez, api.Mutez}, {api.Nat, api.Nat}: {api.Nat, api.Nat},
	}
	k, ok := kinds[[2]int{a[0].K, a[1].K}]
	if !ok {
		k = [2]int{api.Integer, api.Nat}
	}
	return maybe(true, val(api.Pair, 0, within(k[0], q), within(k[1], r)))
}

func wantGet(a []api.Value) api.Value {
	for _, pair := range a[1].Args {
		if words(pair.Args[0]) == words(a[0]) {
			return maybe(true, pair.Args[1])
		}
	}
	return val(api.Option, 0)
}

func wantUpdate(a []api.Value) api.Value {
	var list []api.Value
	for _, pair := range a[2].Args {
		if words(pair.Args[0]) != words(a[0]) {
			list = append(list, pair)
		}
	}
	for _, v := range a[1].Args {
		list = append(list, val(api.Pair, 0, a[0], v))
	}
	slices.SortFunc(list, func(x, y api.Value) int { return value.Order(x.Args[0], y.Args[0]) })
	refuse(len(list) > 24, api.ErrBig)
	return val(api.Map, 0, list...)
}

func wantTicket(j *judge, _ api.Node, a []api.Value) []api.Value {
	if a[1].N == 0 {
		return []api.Value{val(api.Option, 0)}
	}
	refuse(a[1].N > 1<<60-j.minted, api.ErrOver)
	j.minted += a[1].N
	return []api.Value{maybe(true, api.Value{K: api.Ticket, A: j.env.Self, N: a[1].N, Args: a[:1]})}
}

func wantRead(_ *judge, _ api.Node, a []api.Value) []api.Value {
	t := a[0]
	return []api.Value{val(api.Pair, 0, val(api.Address, t.A), val(api.Pair, 0, t.Args[0], val(api.Nat, t.N))), t}
}

func wantSplit(a []api.Value) api.Value {
	x, y := a[0], a[0]
	x.N, y.N = a[1].Args[0].N, a[1].Args[1].N
	return maybe(x.N > 0 && y.N > 0 && x.N == a[0].N-y.N, val(api.Pair, 0, x, y))
}

func wantJoin(a []api.Value) api.Value {
	x, y := a[0].Args[0], a[0].Args[1]
	if x.A != y.A || words(x.Args[0]) != words(y.Args[0]) {
		return val(api.Option, 0)
	}
	x.N = within(api.Nat, new(big.Int).Add(large(x), large(y))).N
	return maybe(true, x)
}

// maker makes code that means something, and values.
type maker struct{ *rand.Rand }

// common are instructions that mean something on nearly every stack: they would crowd out the others.
var common = strings.Fields("DROP DUP SWAP DIG DUG PUSH PAIR LEFT RIGHT SOME NONE NIL EMPTYMAP LAMBDA DIP PACK FAILWITH SELF SENDER AMOUNT BALANCE")

// samples are types of which stacks are made.
var samples = strings.Split("unit,bool,integer,nat,mutez,string,address,operation,option nat,list nat,pair nat nat,or nat string,map nat nat,lambda nat nat,ticket nat,"+
	"pair (ticket nat) (ticket nat),option (ticket nat),map nat (ticket nat),list (list string),map string (list nat),pair nat (lambda nat nat),list operation,list (lambda nat integer),list bool,"+
	"or (ticket nat) bool,option string,map (pair nat string) (option nat)", ",")

// starts are stacks that instructions go from which chance seldom comes to.
var starts = strings.Split("ticket nat : pair nat nat,nat : option nat : map nat nat,nat : option (ticket nat) : map nat (ticket nat),nat : lambda nat nat,nat : mutez : address,string : option (list nat) : map string (list nat),"+
	"list string : list (list string),nat : map nat nat,string : map string (list nat),bool : bool : bool : bool,mutez : nat,mutez : mutez,string : nat,nat : nat : nat : nat,integer : integer,string : string : string : string,list (list string) : list (list string),operation : list operation,"+
	"ticket nat : pair nat nat : ticket nat,pair (ticket nat) (ticket nat) : pair (ticket nat) (ticket nat),pair nat (lambda nat nat) : lambda (pair nat (lambda nat nat)) nat,ticket nat : lambda (ticket nat) (pair (ticket nat) nat)", ",")

func (m *maker) pick(list []string) string { return list[m.Intn(len(list))] }

// types are those of a random stack.
func (m *maker) types() []api.Type {
	var list []api.Type
	add := func(s string) {
		for _, t := range strings.Split(s, " : ") {
			list = append(list, typeNamed(t))
		}
	}
	if m.Intn(2) == 0 {
		add(m.pick(starts))
	}
	for range m.Intn(5) {
		add(m.pick(samples))
	}
	return list
}

// someType is one that stands there, a piece of such a one, or a small one.
func (m *maker) someType(s []api.Type) api.Type {
	if len(s) == 0 || m.Intn(3) == 0 {
		return typeNamed(m.pick(samples))
	}
	t := s[m.Intn(min(len(s), 3))]
	if len(t.Args) > 0 && m.Intn(3) == 0 {
		t = t.Args[m.Intn(len(t.Args))]
	}
	return t
}

// amount is a number that is not below 0, now and then at the edge.
func (m *maker) amount() int {
	if m.Intn(8) == 0 {
		return []int{1 << 60, 1<<60 - 1, 1 << 59, 1<<59 + 1, 1 << 30, 1<<30 + 1}[m.Intn(6)]
	}
	return m.Intn(6)
}

// many is how many there are, few mostly, now and then nearly as many as there may be.
func (m *maker) many(most int) int {
	if m.Intn(12) == 0 {
		return most - m.Intn(3)
	}
	return m.Intn(4)
}

// value is a random one of a type.
func (m *maker) value(t api.Type) api.Value {
	v := api.Value{K: t.T}
	switch t.T {
	case api.Bool:
		v.N = m.Intn(2)
	case api.Integer:
		v.N = m.amount() * (1 - 2*m.Intn(2))
	case api.Nat, api.Mutez:
		v.N = m.amount()
	case api.String:
		v.S = m.text()
	case api.Address:
		v.N = m.Intn(12)
	case api.Operation:
		of := typeNamed(m.pick(samples[:7]))
		v.A, v.N, v.Types, v.Args = m.Intn(12), m.amount(), []api.Type{of}, []api.Value{m.value(of)}
	case api.Option:
		if m.Intn(3) > 0 {
			v.Args = m.values(t.Args)
		}
	case api.Pair:
		v.Args = m.values(t.Args)
	case api.Or:
		v.N = m.Intn(2)
		v.Args = m.values(t.Args[v.N : v.N+1])
	case api.List:
		v.Args = m.values(slices.Repeat(t.Args, m.many(24)))
	case api.Map:
		for range m.many(24) {
			entry := val(api.Pair, 0, m.values(t.Args)...)
			v = wantUpdate([]api.Value{entry.Args[0], maybe(true, entry.Args[1]), v})
		}
	case api.Lambda:
		v.Types, v.Code = t.Args, m.lambda(t.Args[0], t.Args[1]).Args
	case api.Ticket:
		v.A, v.N, v.Args = m.Intn(2), 1+m.amount()/2, m.values(t.Args)
	}
	return v
}

func (m *maker) values(types []api.Type) []api.Value {
	var list []api.Value
	for _, t := range types {
		list = append(list, m.value(t))
	}
	return list
}

// text is one of few bytes, of many, or one that tells a value.
func (m *maker) text() string {
	if m.Intn(4) == 0 {
		t := typeNamed(m.pick(samples))
		if kind.Packed(t) {
			s, _ := value.Told(m.value(t))
			return s
		}
	}
	return strings.Repeat(string(rune('a'+m.Intn(3))), m.many(200))
}

// lambda is code from one type to another.
func (m *maker) lambda(from, to api.Type) api.Node {
	for range 20 {
		n := m.toward([]api.Type{from}, []api.Type{to}, 1)
		if check.Fits(api.Type{T: api.Lambda, Args: []api.Type{from, to}}, api.Value{K: api.Lambda, Types: []api.Type{from, to}, Code: n.Args}) {
			return n
		}
	}
	return codeOf("DROP; PUSH unit DUnit; FAILWITH")
}

// row is a random row from a stack, and where it leads to.
func (m *maker) row(s []api.Type, depth int) ([]api.Node, api.Typed) {
	var list []api.Node
	x := api.Typed{Types: s}
	for range m.Intn(7) {
		if x.Fails {
			break
		}
		n, next := m.instruction(x.Types, depth)
		list, x = append(list, n), next
	}
	return list, x
}

// instruction is a random one of those that mean something on a stack.
func (m *maker) instruction(s []api.Type, depth int) (api.Node, api.Typed) {
	for {
		p := api.DROP + m.Intn(api.INT-api.DROP+1)
		if slices.Contains(common, nameOf(p)) && m.Intn(15) > 0 {
			continue
		}
		n := prim(p)
		if depth > 0 && m.Intn(100) == 0 {
			list, _ := m.row(s, depth-1)
			n = seq(list...)
		} else {
			n.Args = m.args(p, s, depth)
		}
		if x, e := check.Code(seq(n), s); e == api.OK {
			return n, x
		}
	}
}

// args are those that an instruction may have, or none.
func (m *maker) args(p int, s []api.Type, depth int) []api.Node {
	some := func() api.Node { return asNode(m.someType(s)) }
	switch p {
	case api.DUP, api.DIG, api.DUG:
		return []api.Node{{N: m.Intn(len(s) + 1)}}
	case api.LEFT, api.RIGHT, api.NONE, api.NIL, api.UNPACK:
		return []api.Node{some()}
	case api.TRANSFER:
		if len(s) > 0 {
			return []api.Node{asNode(s[0])}
		}
	case api.EMPTYMAP:
		return []api.Node{some(), some()}
	case api.PUSH:
		if t := m.someType(s); kind.Packed(t) {
			return []api.Node{asNode(t), treeOf(m.value(t))}
		}
	case api.LAMBDA:
		t, u := m.someType(s), m.someType(s)
		return []api.Node{asNode(t), asNode(u), m.lambda(t, u)}
	}
	if depth == 0 || len(s) == 0 {
		return nil
	}
	return m.rows(p, s[0], s[1:], depth-1)
}

// rows are those of an instruction that has some, from a top on a stack.
func (m *maker) rows(p int, top api.Type, s []api.Type, depth int) []api.Node {
	on := func(types ...api.Type) []api.Type { return slices.Concat(types, s) }
	both := func(c, d []api.Type) []api.Node {
		list, x := m.row(c, depth)
		if x.Fails {
			list2, _ := m.row(d, depth)
			return []api.Node{seq(list...), seq(list2...)}
		}
		return []api.Node{seq(list...), m.toward(d, x.Types, depth)}
	}
	switch {
	case p == api.DIP:
		list, _ := m.row(s, depth)
		return []api.Node{seq(list...)}
	case p == api.LOOP && top.T == api.Bool:
		return []api.Node{m.toward(s, on(top), depth)}
	case p == api.ITER && top.T == api.List:
		return []api.Node{m.toward(on(top.Args...), s, depth)}
	case p == api.ITER && top.T == api.Map:
		return []api.Node{m.toward(on(api.Type{T: api.Pair, Args: top.Args}), s, depth)}
	case p == api.IF && top.T == api.Bool:
		return both(s, s)
	case p == api.IFLEFT && top.T == api.Or:
		return both(on(top.Args[0]), on(top.Args[1]))
	case p == api.IFNONE && top.T == api.Option:
		return both(s, on(top.Args[0]))
	case p == api.IFCONS && top.T == api.List:
		return both(on(top.Args[0], top), s)
	}
	return nil
}

// toward is a random row that leads to a stack, or says no.
func (m *maker) toward(s, to []api.Type, depth int) api.Node {
	list, x := m.row(s, depth)
	if x.Fails {
		return seq(list...)
	}
	same := 0
	for same < min(len(x.Types), len(to)) && kind.Same(x.Types[len(x.Types)-1-same], to[len(to)-1-same]) {
		same++
	}
	for range len(x.Types) - same {
		list = append(list, prim(api.DROP))
	}
	for _, t := range slices.Backward(to[:len(to)-same]) {
		list = append(list, m.made(t)...)
	}
	return seq(list...)
}

// made is code that puts a value of a type, or says no.
func (m *maker) made(t api.Type) []api.Node {
	if kind.Packed(t) {
		return []api.Node{prim(api.PUSH, asNode(t), treeOf(m.value(t)))}
	}
	args := func(k int) api.Node { return asNode(t.Args[k]) }
	switch t.T {
	case api.Option:
		return []api.Node{prim(api.NONE, args(0))}
	case api.List:
		return []api.Node{prim(api.NIL, args(0))}
	case api.Map:
		return []api.Node{prim(api.EMPTYMAP, args(0), args(1))}
	case api.Pair:
		return slices.Concat(m.made(t.Args[1]), m.made(t.Args[0]), []api.Node{prim(api.PAIR)})
	case api.Or:
		return append(m.made(t.Args[0]), prim(api.LEFT, args(1)))
	case api.Lambda:
		return []api.Node{prim(api.LAMBDA, args(0), args(1), codeOf("DROP; PUSH unit DUnit; FAILWITH"))}
	case api.Operation:
		return codeOf("SELF; AMOUNT; PUSH nat 1; TRANSFER nat").Args
	case api.Ticket:
		return slices.Concat(codeOf("PUSH nat 2").Args, m.made(t.Args[0]), codeOf("TICKET; IFNONE {PUSH unit DUnit; FAILWITH} {}").Args)
	}
	return nil
}

// sums are how many tickets of each sort are in values.
func sums(stack []api.Value) map[string]*big.Int {
	m := map[string]*big.Int{}
	var add func(list []api.Value)
	add = func(list []api.Value) {
		for _, v := range list {
			if v.K == api.Ticket {
				sort := words(val(api.Pair, 0, val(api.Nat, v.A), v.Args[0]))
				if m[sort] == nil {
					m[sort] = new(big.Int)
				}
				m[sort].Add(m[sort], large(v))
			}
			add(v.Args)
		}
	}
	add(stack)
	return m
}

// testSums: of no sort of tickets there are more than there were, but of those that were minted.
func testSums(t *testing.T, self int, before []api.Value, r api.Result) {
	t.Helper()
	had := sums(before)
	grown := new(big.Int)
	for sort, n := range sums(r.Stack) {
		more := new(big.Int).Set(n)
		if had[sort] != nil {
			more.Sub(n, had[sort])
		}
		if more.Sign() <= 0 {
			continue
		}
		if !strings.HasPrefix(sort, "DPair "+words(val(api.Nat, self))+" ") {
			t.Fatalf("%s: more than there were", sort)
		}
		grown.Add(grown, more)
	}
	if grown.Cmp(big.NewInt(int64(r.Minted))) > 0 {
		t.Fatalf("%d were minted, and there are %s more", r.Minted, grown)
	}
}

func TestRunAgrees(t *testing.T) {
	m := &maker{rand.New(rand.NewSource(61))}
	seen, done := map[api.Errno]int{}, map[string]int{}
	for range 10000 {
		types := m.types()
		list, _ := m.row(types, 3)
		code := seq(list...)
		typed, e := check.Code(code, types)
		if e != api.OK {
			continue
		}
		stack := m.values(types)
		env := api.Env{Self: m.Intn(2), Sender: m.Intn(12), Amount: m.amount(), Balance: m.amount()}
		gas := []int{m.Intn(20), 200, 3000}[m.Intn(3)]
		j := &judge{env: env, gas: gas, done: done}
		want, got := j.judged(code, stack), Run(env, code, types, stack, gas)
		if got.Code != want.Code || got.Gas != want.Gas || got.Minted != want.Minted || !value.Same(got.Said, want.Said) || !slices.EqualFunc(got.Stack, want.Stack, value.Same) {
			t.Fatalf("%s on %q, gas %d: %q by %d steps, wanted %q by %d", shown(code), shownTyped(types, stack), gas, answer(got), got.Gas, answer(want), want.Gas)
		}
		if got.Code == api.OK && (typed.Fails || !slices.EqualFunc(typed.Types, got.Stack, check.Fits)) {
			t.Fatalf("%s on %q: %q is not of its types", shown(code), shownTyped(types, stack), answer(got))
		}
		testSums(t, env.Self, stack, got)
		seen[got.Code]++
	}
	for _, e := range []api.Errno{api.OK, api.ErrFail, api.ErrOver, api.ErrGas, api.ErrBig} {
		if seen[e] < 30 {
			t.Errorf("%s: only %d times", errorNames[e], seen[e])
		}
	}
	if len(seen) != 5 {
		t.Errorf("seen: %v", seen)
	}
	for p := api.DROP; p <= api.INT; p++ {
		if done[nameOf(p)] < 50 {
			t.Errorf("%s: done only %d times", nameOf(p), done[nameOf(p)])
		}
	}
}
