package value

import (
	"bytes"
	"math"
	"math/rand"
	"reflect"
	"runtime/debug"
	"slices"
	"strings"
	"testing"

	"touchstone/api"
)

func ty(t int, args ...api.Type) api.Type { return api.Type{T: t, Args: args} }

func val(k, n int, args ...api.Value) api.Value { return api.Value{K: k, N: n, Args: args} }

func text(s string) api.Value { return api.Value{K: api.String, S: s} }

func nat(n int) api.Value { return val(api.Nat, n) }

func some(v api.Value) api.Value { return val(api.Option, 0, v) }

func both(a, b api.Value) api.Value { return val(api.Pair, 0, a, b) }

func left(v api.Value) api.Value { return val(api.Or, 0, v) }

func right(v api.Value) api.Value { return val(api.Or, 1, v) }

func ticket(maker, n int, of api.Value) api.Value {
	return api.Value{K: api.Ticket, A: maker, N: n, Args: []api.Value{of}}
}

func sent(to, n int, t api.Type, v api.Value) api.Value {
	return api.Value{K: api.Operation, A: to, N: n, Args: []api.Value{v}, Types: []api.Type{t}}
}

func code(from, to api.Type, nodes ...api.Node) api.Value {
	return api.Value{K: api.Lambda, Types: []api.Type{from, to}, Code: nodes}
}

// asMap is a map of n numbers to what value makes of them.
func asMap(n int, value func(int) api.Value) api.Value {
	m := val(api.Map, 0)
	for i := range n {
		m.Args = append(m.Args, both(nat(i), value(i)))
	}
	return m
}

// asList is a list of n that are made by value.
func asList(n int, value func(int) api.Value) api.Value {
	l := val(api.List, 0)
	for i := range n {
		l.Args = append(l.Args, value(i))
	}
	return l
}

var (
	unitT   = ty(api.Unit)
	boolT   = ty(api.Bool)
	intT    = ty(api.Integer)
	natT    = ty(api.Nat)
	mutezT  = ty(api.Mutez)
	textT   = ty(api.String)
	addrT   = ty(api.Address)
	opT     = ty(api.Operation)
	listT   = ty(api.List, natT)
	mapT    = ty(api.Map, natT, textT)
	lamT    = ty(api.Lambda, natT, textT)
	tickT   = ty(api.Ticket, textT)
	nothing = val(api.Option, 0)
	unit    = val(api.Unit, 0)
	deepest = under(23, natT)
)

// under lays a type under n options, one within the other.
func under(n int, t api.Type) api.Type {
	for range n {
		t = ty(api.Option, t)
	}
	return t
}

// within lays a value in n options, one within the other.
func within(n int, v api.Value) api.Value {
	for range n {
		v = some(v)
	}
	return v
}

// chained is as within, for very many options: it makes one list for all of them.
func chained(n int, x api.Value) api.Value {
	row := make([]api.Value, n+1)
	for i := range n {
		row[i] = api.Value{K: api.Option, Args: row[i+1 : i+2]}
	}
	row[n] = x
	return row[0]
}

// alike is as Same should be, with calls within calls.
func alike(a, b api.Value) bool {
	return a.K == b.K && a.N == b.N && a.A == b.A && a.S == b.S &&
		slices.EqualFunc(a.Args, b.Args, alike) &&
		slices.EqualFunc(a.Types, b.Types, alikeTypes) &&
		slices.EqualFunc(a.Code, b.Code, alikeNodes)
}

func alikeTypes(a, b api.Type) bool {
	return a.T == b.T && slices.EqualFunc(a.Args, b.Args, alikeTypes)
}

func alikeNodes(a, b api.Node) bool {
	return a.Kind == b.Kind && a.N == b.N && a.P == b.P && a.S == b.S && slices.EqualFunc(a.Args, b.Args, alikeNodes)
}

// bare is whether a value is the zero value, but for lists without elements.
func bare(v api.Value) bool { return alike(v, api.Value{}) }

func bareNode(n api.Node) bool { return alikeNodes(n, api.Node{}) }

// copyOf shares no list with a value, and has empty lists for such as are not there.
func copyOf(v api.Value) api.Value {
	c := v
	c.Args, c.Types, c.Code = []api.Value{}, []api.Type{}, []api.Node{}
	for _, arg := range v.Args {
		c.Args = append(c.Args, copyOf(arg))
	}
	for _, t := range v.Types {
		c.Types = append(c.Types, copyOfType(t))
	}
	for _, n := range v.Code {
		c.Code = append(c.Code, copyOfNode(n))
	}
	return c
}

func copyOfType(t api.Type) api.Type {
	c := api.Type{T: t.T, Args: []api.Type{}}
	for _, arg := range t.Args {
		c.Args = append(c.Args, copyOfType(arg))
	}
	return c
}

func copyOfNode(n api.Node) api.Node {
	c := n
	c.Args = []api.Node{}
	for _, arg := range n.Args {
		c.Args = append(c.Args, copyOfNode(arg))
	}
	return c
}

// P4.1

func TestSize(t *testing.T) {
	for _, x := range []struct {
		v    api.Value
		size int
	}{
		{api.Value{}, 1},
		{unit, 1},
		{nat(api.MaxInt), 1},
		{val(-9, math.MinInt), 1},
		{text(""), 1},
		{text("1234567"), 1},
		{text("12345678"), 2},
		{text("123456789"), 2},
		{text(strings.Repeat("x", 15)), 2},
		{text(strings.Repeat("x", 16)), 3},
		{text(strings.Repeat("x", 199)), 25},
		{text(strings.Repeat("x", 200)), 26},
		{text(strings.Repeat("x", 8000)), 1001},
		{nothing, 1},
		{some(nat(1)), 2},
		{both(nat(1), nat(2)), 3},
		{both(text("1234567"), text("1234567")), 3},
		{both(text("12345678"), text("123456789abcdefg")), 6},
		{asList(24, nat), 25},
		{asList(1000, nat), 1001},
		{asMap(24, nat), 73},
		{asMap(2, func(int) api.Value { return text("12345678") }), 9},
		{within(50, nat(1)), 51},
		{right(both(left(nat(1)), some(text("12345678")))), 7},
		{ticket(3, 500, text("12345678")), 3},
		{sent(3, 5, textT, text("x")), 2},
		// What a value has beside its text and its Args does not count.
		{sent(3, 5, ty(api.Pair, natT, natT), both(nat(1), nat(2))), 4},
		{code(natT, natT), 1},
		{code(natT, natT, api.Node{Kind: api.Text, S: strings.Repeat("x", 100)}, api.Node{Kind: api.Seq, Args: make([]api.Node, 9)}), 1},
		// Whatever the kind, texts and Args count.
		{api.Value{K: api.Nat, S: "12345678", Args: []api.Value{nat(1), {S: "12345678", Args: []api.Value{{}}}}}, 6},
	} {
		if n := Size(x.v); n != x.size {
			t.Errorf("Size(%v): %d, wanted %d", x.v, n, x.size)
		}
	}
}

func sizeOf(v api.Value) int {
	n := 1 + len(v.S)/8
	for _, arg := range v.Args {
		n += sizeOf(arg)
	}
	return n
}

// fields are a value that has something everywhere, and the same but for one thing each.
func fields() []api.Value {
	full := func() api.Value {
		return api.Value{
			K: api.Pair, N: 3, A: 4, S: "abc",
			Args:  []api.Value{nat(1), both(nat(2), text("x"))},
			Types: []api.Type{natT, ty(api.Pair, natT, textT)},
			Code:  []api.Node{{N: 1}, {Kind: api.Seq, Args: []api.Node{{Kind: api.Prim, P: api.ADD}, {Kind: api.Text, S: "x"}}}},
		}
	}
	list := []api.Value{full()}
	for _, change := range []func(v *api.Value){
		func(v *api.Value) { v.K = api.Or },
		func(v *api.Value) { v.K += 1 << 32 },
		func(v *api.Value) { v.N = -3 },
		func(v *api.Value) { v.A = 5 },
		func(v *api.Value) { v.S = "abd" },
		func(v *api.Value) { v.S = "ab" },
		func(v *api.Value) { v.Args = nil },
		func(v *api.Value) { v.Args = v.Args[:1] },
		func(v *api.Value) { v.Args = append(v.Args, nat(1)) },
		func(v *api.Value) { v.Args = append(v.Args, api.Value{}) },
		func(v *api.Value) { v.Args[0], v.Args[1] = v.Args[1], v.Args[0] },
		func(v *api.Value) { v.Args[0].K = api.Integer },
		func(v *api.Value) { v.Args[1].A = 1 },
		func(v *api.Value) { v.Args[1].Args[0].N = 1 },
		func(v *api.Value) { v.Args[1].Args[1].S = "y" },
		func(v *api.Value) { v.Args[1].Args[1].Types = []api.Type{natT} },
		func(v *api.Value) { v.Args[1].Args[1].Code = []api.Node{{}} },
		func(v *api.Value) { v.Args[1].Args = v.Args[1].Args[:1] },
		func(v *api.Value) { v.Types = nil },
		func(v *api.Value) { v.Types = v.Types[:1] },
		func(v *api.Value) { v.Types = append(v.Types, natT) },
		func(v *api.Value) { v.Types[0].T = api.Integer },
		func(v *api.Value) { v.Types[1].Args[1].T = api.Unit },
		func(v *api.Value) { v.Types[1].Args = v.Types[1].Args[:1] },
		func(v *api.Value) { v.Code = nil },
		func(v *api.Value) { v.Code = v.Code[:1] },
		func(v *api.Value) { v.Code = append(v.Code, api.Node{}) },
		func(v *api.Value) { v.Code[0].N = 2 },
		func(v *api.Value) { v.Code[0].Kind = api.Prim },
		func(v *api.Value) { v.Code[0].P = 1 },
		func(v *api.Value) { v.Code[0].S = "x" },
		func(v *api.Value) { v.Code[0].Args = []api.Node{{}} },
		func(v *api.Value) { v.Code[1].Args[0].P = api.SUB },
		func(v *api.Value) { v.Code[1].Args[1].S = "y" },
		func(v *api.Value) { v.Code[1].Args = v.Code[1].Args[:1] },
	} {
		v := full()
		change(&v)
		list = append(list, v)
	}
	return list
}

func TestSame(t *testing.T) {
	list := slices.Concat(fields(), []api.Value{{}, unit, nothing, nat(0), nat(1), some(nat(1)), some(some(nat(1))), text(""), text("a"),
		val(api.List, 0), val(api.Map, 0), val(api.Map, 0, both(nat(1), nat(2))), val(api.List, 0, both(nat(1), nat(2))),
		val(api.Map, 0, both(nat(1), nat(3))), both(both(nat(1), nat(2)), nat(3)), both(nat(1), both(nat(2), nat(3))),
		code(natT, textT), code(textT, natT), ticket(1, 2, nat(3)), ticket(2, 1, nat(3)), ticket(1, 2, nat(4)),
		sent(1, 2, natT, nat(3)), sent(1, 2, intT, nat(3)), within(100, nat(1)), within(101, nat(1)), within(100, nat(2)),
		{N: math.MinInt}, {A: math.MaxInt}, asList(200, nat), asList(201, nat)})
	for i, a := range list {
		for j, b := range list {
			if Same(a, b) != (i == j) {
				t.Errorf("Same of values %d and %d: %v", i, j, i != j)
			}
		}
		if b := copyOf(a); !Same(a, b) || !Same(b, a) {
			t.Errorf("Same of value %d and its copy: false", i)
		}
	}
}

// Values of any depth are among all values: little room for calls within calls must do.
func TestDeep(t *testing.T) {
	defer debug.SetMaxStack(debug.SetMaxStack(1 << 20))
	const deep = 200000
	plain, longer, other := chained(deep, nat(7)), chained(deep+1, nat(7)), chained(deep, nat(8))
	if Size(plain) != deep+1 || Size(longer) != deep+2 {
		t.Errorf("Size: %d, %d", Size(plain), Size(longer))
	}
	if !Same(plain, chained(deep, nat(7))) || Same(plain, other) || Same(plain, longer) || Same(longer, plain) {
		t.Error("Same")
	}
	if Order(plain, chained(deep, nat(7))) != 0 || Order(plain, other) != -1 || Order(other, plain) != 1 {
		t.Error("Order")
	}
	if Has(deepest, plain) || Has(natT, plain) || Has(opT, plain) {
		t.Error("Has")
	}
	ops := make([]api.Value, deep+1)
	for i := range deep {
		ops[i] = api.Value{K: api.Operation, Args: ops[i+1 : i+2], Types: []api.Type{opT}}
	}
	ops[deep] = sent(1, 2, natT, nat(3))
	if !Has(opT, ops[0]) || Size(ops[0]) != deep+2 {
		t.Error("operations of operations")
	}
	ops[deep].N = -1
	if Has(opT, ops[0]) {
		t.Error("operations of operations, and the last is none")
	}
	if _, e := Compare(deepest, plain, plain); e != api.ErrType {
		t.Errorf("Compare: %d", e)
	}
	if n, e := Node(deepest, plain); !bareNode(n) || e != api.ErrType {
		t.Errorf("Node: %v, %d", n, e)
	}
	if s, e := Pack(deepest, plain); s != "" || e != api.ErrType {
		t.Errorf("Pack: %q, %d", s, e)
	}
	if s, e := Told(plain); s != "" || e != api.ErrLong {
		t.Errorf("Told: %q, %d", s, e)
	}
	if i, ok := Search([]api.Value{both(plain, unit), both(other, unit)}, other); i != 1 || !ok {
		t.Errorf("Search: %d, %v", i, ok)
	}
	lambda := code(natT, natT, deepNode(deep, 1))
	if !Same(lambda, code(natT, natT, deepNode(deep, 1))) || Same(lambda, code(natT, natT, deepNode(deep, 2))) {
		t.Error("deep code")
	}
	if !Has(ty(api.Lambda, natT, natT), lambda) {
		t.Error("Has of deep code")
	}
	if v, e := Parse(listT, deepNode(deep, 1)); !bare(v) || e != api.ErrForm {
		t.Errorf("Parse: %v, %d", v, e)
	}
}

// deepNode is a number in n rows, one within the other.
func deepNode(n, number int) api.Node {
	row := make([]api.Node, n+1)
	for i := range n {
		row[i] = api.Node{Kind: api.Seq, Args: row[i+1 : i+2]}
	}
	row[n].N = number
	return row[0]
}

// P4.3

// ordered are types with values of theirs that rise.
func ordered() []struct {
	t    api.Type
	list []api.Value
} {
	texts := []api.Value{text(""), text("\x00"), text("\x00a"), text("A"), text("a"), text("a\x00"), text("aa"), text("ab"), text("b"), text("z"),
		text("\x7f"), text("\x80"), text("é"), text("\xff"), text("\xff\x00"), text(strings.Repeat("\xff", 200))}
	numbers := []api.Value{nat(0), nat(1), nat(2), nat(9), nat(10), nat(api.MaxInt - 1), nat(api.MaxInt)}
	sides := []api.Value{left(nothing), left(some(nat(0))), left(some(nat(3))), right(text("")), right(text("a")), right(text("b"))}
	pairs := []api.Value{both(nat(0), text("z")), both(nat(1), text("")), both(nat(1), text("b")), both(nat(2), text("a")), both(nat(10), text(""))}
	return []struct {
		t    api.Type
		list []api.Value
	}{
		{unitT, []api.Value{unit}},
		{boolT, []api.Value{val(api.Bool, 0), val(api.Bool, 1)}},
		{intT, []api.Value{val(api.Integer, -api.MaxInt), val(api.Integer, -10), val(api.Integer, -9), val(api.Integer, -1), val(api.Integer, 0), val(api.Integer, 1), val(api.Integer, api.MaxInt)}},
		{natT, numbers},
		{mutezT, []api.Value{val(api.Mutez, 0), val(api.Mutez, 7), val(api.Mutez, api.MaxInt)}},
		{textT, texts},
		{addrT, []api.Value{val(api.Address, 0), val(api.Address, 2), val(api.Address, 11)}},
		{ty(api.Option, natT), []api.Value{nothing, some(nat(0)), some(nat(1)), some(nat(api.MaxInt))}},
		{ty(api.Option, ty(api.Option, textT)), []api.Value{nothing, some(nothing), some(some(text(""))), some(some(text("a")))}},
		{ty(api.Or, ty(api.Option, natT), textT), sides},
		{ty(api.Or, natT, natT), []api.Value{left(nat(5)), left(nat(6)), right(nat(1)), right(nat(5))}},
		{ty(api.Pair, natT, textT), pairs},
		{ty(api.Pair, ty(api.Option, natT), natT), []api.Value{both(nothing, nat(9)), both(some(nat(0)), nat(3)), both(some(nat(0)), nat(4)), both(some(nat(1)), nat(0))}},
		{ty(api.Pair, ty(api.Pair, natT, natT), natT), []api.Value{
			both(both(nat(1), nat(2)), nat(9)), both(both(nat(1), nat(3)), nat(0)), both(both(nat(1), nat(3)), nat(1)), both(both(nat(2), nat(0)), nat(0))}},
		{ty(api.Pair, unitT, ty(api.Or, natT, textT)), []api.Value{both(unit, left(nat(2))), both(unit, right(text("")))}},
		{deepest, []api.Value{within(3, nothing), within(22, nothing), within(23, nat(0)), within(23, nat(1))}},
	}
}

func TestOrder(t *testing.T) {
	for _, x := range ordered() {
		for i, a := range x.list {
			for j, b := range x.list {
				want := 0
				if i < j {
					want = -1
				} else if i > j {
					want = 1
				}
				if n := Order(a, copyOf(b)); n != want {
					t.Errorf("Order(%v, %v): %d, wanted %d", a, b, n, want)
				}
				if n, e := Compare(x.t, a, copyOf(b)); n != want || e != api.OK {
					t.Errorf("Compare(%v, %v, %v): %d, %d, wanted %d", x.t, a, b, n, e, want)
				}
			}
		}
	}
}

func TestCompareWrong(t *testing.T) {
	ten := asList(10, nat)
	for _, x := range []struct {
		t    api.Type
		a, b api.Value
	}{
		// Types that can't be compared.
		{listT, ten, ten},
		{listT, val(api.List, 0), val(api.List, 0)},
		{ty(api.Map, natT, natT), asMap(2, nat), asMap(2, nat)},
		{lamT, code(natT, textT), code(natT, textT)},
		{tickT, ticket(1, 2, text("a")), ticket(1, 2, text("a"))},
		{opT, sent(1, 2, natT, nat(1)), sent(1, 2, natT, nat(1))},
		{ty(api.Option, listT), nothing, nothing},
		{ty(api.Or, natT, tickT), left(nat(1)), left(nat(2))},
		{ty(api.Pair, natT, listT), both(nat(1), ten), both(nat(2), ten)},
		{ty(api.Option, ty(api.Option, opT)), nothing, nothing},
		// Values of another type: one, the other, both.
		{natT, nat(1), val(api.Integer, 1)},
		{natT, val(api.Integer, 1), nat(1)},
		{natT, val(api.Integer, 1), val(api.Integer, 1)},
		{natT, nat(1), nat(-1)},
		{natT, nat(api.MaxInt + 1), nat(1)},
		{boolT, val(api.Bool, 0), val(api.Bool, 2)},
		{textT, text(strings.Repeat("x", 201)), text("x")},
		{addrT, val(api.Address, 12), val(api.Address, 1)},
		{ty(api.Option, natT), some(nat(1)), some(text("a"))},
		{ty(api.Pair, natT, textT), both(nat(1), text("a")), both(nat(1), nat(1))},
		{ty(api.Or, natT, textT), right(nat(1)), left(nat(1))},
		{natT, api.Value{K: api.Nat, A: 1}, nat(1)},
		{natT, api.Value{}, api.Value{}},
		// Types that are not good.
		{api.Type{}, api.Value{}, api.Value{}},
		{ty(16), val(16, 0), val(16, 0)},
		{ty(api.Nat, natT), nat(1), nat(2)},
		{ty(api.Option), nothing, nothing},
		{under(24, natT), nothing, nothing},
	} {
		if n, e := Compare(x.t, x.a, x.b); n != 0 || e != api.ErrType {
			t.Errorf("Compare(%v, %v, %v): %d, %d", x.t, x.a, x.b, n, e)
		}
	}
}

func TestSearch(t *testing.T) {
	for _, x := range ordered() {
		for mask := range 1 << min(len(x.list), 7) {
			var m []api.Value
			for i, key := range x.list {
				if mask>>i&1 == 1 {
					m = append(m, both(key, nat(i)))
				}
			}
			for i, key := range x.list {
				at := 0
				for j := range i {
					at += mask >> j & 1
				}
				want := mask>>i&1 == 1
				if k, ok := Search(m, copyOf(key)); k != at || ok != want {
					t.Errorf("Search(%v, %v): %d, %v, wanted %d, %v", m, key, k, ok, at, want)
				}
			}
		}
	}
}

// A map of any length can be searched, and what the keys stand with does not count.
func TestSearchMany(t *testing.T) {
	for _, n := range []int{0, 1, 2, 3, 23, 24, 25, 1000} {
		var m []api.Value
		for i := range n {
			m = append(m, both(nat(2*i+1), nat(n-i)))
		}
		for key := range 2*n + 2 {
			want := key%2 == 1 && key < 2*n
			if k, ok := Search(m, nat(key)); k != min(key/2, n) || ok != want {
				t.Errorf("Search of %d among %d: %d, %v", key, n, k, ok)
			}
		}
	}
}

func TestSearchNoPairs(t *testing.T) {
	for _, m := range [][]api.Value{nil, {{}}, {unit, unit, unit}, {nothing, both(nat(1), nat(2)), nat(7)}, {{Args: []api.Value{}}}} {
		if k, _ := Search(m, nat(1)); k < 0 || k > len(m) {
			t.Errorf("Search(%v): %d", m, k)
		}
	}
}

// orderOf is as Order should be, by the type.
func orderOf(t api.Type, a, b api.Value) int {
	switch t.T {
	case api.Unit:
		return 0
	case api.String:
		return bytes.Compare([]byte(a.S), []byte(b.S))
	case api.Option:
		if len(a.Args) != len(b.Args) {
			return len(a.Args) - len(b.Args)
		}
		if len(a.Args) == 0 {
			return 0
		}
		return orderOf(t.Args[0], a.Args[0], b.Args[0])
	case api.Or:
		if a.N != b.N {
			return a.N - b.N
		}
		return orderOf(t.Args[a.N], a.Args[0], b.Args[0])
	case api.Pair:
		if n := orderOf(t.Args[0], a.Args[0], b.Args[0]); n != 0 {
			return n
		}
		return orderOf(t.Args[1], a.Args[1], b.Args[1])
	}
	switch {
	case a.N < b.N:
		return -1
	case a.N > b.N:
		return 1
	}
	return 0
}

func TestOrderAgrees(t *testing.T) {
	r := rand.New(rand.NewSource(43))
	for range 20000 {
		x := someType(r, 4, true)
		a, b := someValue(r, x), someValue(r, x)
		want := orderOf(x, a, b)
		if n, e := Compare(x, a, b); n != want || e != api.OK {
			t.Fatalf("Compare(%v, %v, %v): %d, %d, wanted %d", x, a, b, n, e, want)
		}
		if Order(a, b) != want || Order(b, a) != -want || Order(a, a) != 0 {
			t.Fatalf("Order(%v, %v): not %d", a, b, want)
		}
		if Same(a, b) != (want == 0) {
			t.Fatalf("Same(%v, %v) and Order %d", a, b, want)
		}
	}
}

// What is handed in

func TestStays(t *testing.T) {
	spare := []api.Value{both(nat(1), text("a")), both(nat(3), text("b")), nat(8), nat(9)}
	m := api.Value{K: api.Map, Args: spare[:2]}
	types := []api.Type{natT, textT, boolT}
	mt := api.Type{T: api.Map, Args: types[:2]}
	nodes := []api.Node{
		{Kind: api.Prim, P: api.DElt, Args: []api.Node{{N: 1}, {Kind: api.Text, S: "a"}}},
		{Kind: api.Prim, P: api.DElt, Args: []api.Node{{N: 3}, {Kind: api.Text, S: "b"}}},
		{N: 5},
	}
	n := api.Node{Kind: api.Seq, Args: nodes[:2]}
	wantSpare, wantNodes := copyOf(api.Value{Args: spare}), copyOfNode(api.Node{Args: nodes})
	Size(m)
	Same(m, m)
	Order(m, m)
	Compare(mt, m, m)
	Search(m.Args, nat(3))
	Told(m)
	if !Has(mt, m) {
		t.Error("Has")
	}
	back, e := Parse(mt, n)
	if e != api.OK || !alike(back, m) {
		t.Errorf("Parse: %v, %d", back, e)
	}
	told, e := Node(mt, m)
	if e != api.OK || !alikeNodes(told, n) {
		t.Errorf("Node: %v, %d", told, e)
	}
	s, e := Pack(mt, m)
	if v, e := Unpack(mt, s); e != api.OK || !alike(v, m) {
		t.Errorf("Unpack: %v, %d", v, e)
	}
	// What was answered is new memory: writing into it is seen nowhere else.
	spoilAll(&back)
	told.Args[0].Args[0].N, told.Args[1] = 99, api.Node{}
	if !alike(api.Value{Args: spare}, wantSpare) || !alikeNodes(api.Node{Args: nodes}, wantNodes) {
		t.Errorf("what was handed in is now %v, %v", spare, nodes)
	}
	if !reflect.DeepEqual(types, []api.Type{natT, textT, boolT}) {
		t.Errorf("types are now %v", types)
	}
}

func spoilAll(v *api.Value) {
	for i := range v.Args {
		spoilAll(&v.Args[i])
		v.Args[i] = api.Value{K: -1}
	}
}
