package value

import (
	"math"
	"math/rand"
	"slices"
	"strings"
	"testing"

	"touchstone/api"
	"touchstone/tree"
)

func count(n int) api.Node { return api.Node{Kind: api.Int, N: n} }

func word(s string) api.Node { return api.Node{Kind: api.Text, S: s} }

func seq(args ...api.Node) api.Node { return api.Node{Kind: api.Seq, Args: args} }

func data(p int, args ...api.Node) api.Node { return api.Node{Kind: api.Prim, P: p, Args: args} }

// withTree is a value of a type, and its tree.
type withTree struct {
	t api.Type
	v api.Value
	n api.Node
}

// trees are values of types that can be told, and their trees.
func trees() []withTree {
	return []withTree{
		{unitT, unit, data(api.DUnit)},
		{boolT, val(api.Bool, 0), data(api.DFalse)},
		{boolT, val(api.Bool, 1), data(api.DTrue)},
		{intT, val(api.Integer, 0), count(0)},
		{intT, val(api.Integer, api.MaxInt), count(api.MaxInt)},
		{intT, val(api.Integer, -api.MaxInt), count(-api.MaxInt)},
		{natT, nat(0), count(0)},
		{natT, nat(api.MaxInt), count(api.MaxInt)},
		{mutezT, val(api.Mutez, 12), count(12)},
		{mutezT, val(api.Mutez, api.MaxInt), count(api.MaxInt)},
		{addrT, val(api.Address, 0), count(0)},
		{addrT, val(api.Address, 11), count(11)},
		{textT, text(""), word("")},
		{textT, text("a\x00\xff"), word("a\x00\xff")},
		{textT, text(longest), word(longest)},
		{ty(api.Option, natT), nothing, data(api.DNone)},
		{ty(api.Option, natT), some(nat(4)), data(api.DSome, count(4))},
		{ty(api.Option, ty(api.Option, natT)), some(nothing), data(api.DSome, data(api.DNone))},
		{ty(api.Pair, natT, textT), both(nat(1), text("a")), data(api.DPair, count(1), word("a"))},
		{ty(api.Pair, natT, ty(api.Pair, unitT, boolT)), both(nat(1), both(unit, val(api.Bool, 1))), data(api.DPair, count(1), data(api.DPair, data(api.DUnit), data(api.DTrue)))},
		{ty(api.Or, natT, textT), left(nat(3)), data(api.DLeft, count(3))},
		{ty(api.Or, natT, textT), right(text("b")), data(api.DRight, word("b"))},
		{ty(api.Or, natT, natT), right(nat(3)), data(api.DRight, count(3))},
		{listT, val(api.List, 0), seq()},
		{listT, val(api.List, 0, nat(2), nat(1)), seq(count(2), count(1))},
		{listT, asList(24, zero), seq(make([]api.Node, 24)...)},
		{ty(api.List, ty(api.Pair, natT, natT)), val(api.List, 0, both(nat(2), nat(1))), seq(data(api.DPair, count(2), count(1)))},
		{ty(api.List, listT), val(api.List, 0, val(api.List, 0), val(api.List, 0, nat(1))), seq(seq(), seq(count(1)))},
		{mapT, val(api.Map, 0), seq()},
		{mapT, val(api.Map, 0, both(nat(1), text("b")), both(nat(2), text("a"))), seq(data(api.DElt, count(1), word("b")), data(api.DElt, count(2), word("a")))},
		{ty(api.Map, natT, ty(api.Pair, natT, natT)), val(api.Map, 0, both(nat(1), both(nat(2), nat(3)))), seq(data(api.DElt, count(1), data(api.DPair, count(2), count(3))))},
		{ty(api.Map, ty(api.Pair, natT, natT), unitT), val(api.Map, 0, both(both(nat(2), nat(3)), unit)), seq(data(api.DElt, data(api.DPair, count(2), count(3)), data(api.DUnit)))},
		{ty(api.Map, natT, ty(api.Map, natT, unitT)), asMap(1, func(int) api.Value { return asMap(1, func(int) api.Value { return unit }) }),
			seq(data(api.DElt, count(0), seq(data(api.DElt, count(0), data(api.DUnit)))))},
		{deepest, within(22, nothing), shell(22, data(api.DNone))},
		{deepest, within(23, nat(7)), shell(23, count(7))},
	}
}

// shell lays a tree in n DSomes, one within the other.
func shell(n int, x api.Node) api.Node {
	for range n {
		x = data(api.DSome, x)
	}
	return x
}

// maps lays a type in n maps, and a value of it: its tree is two deeper for each.
func maps(n int, t api.Type, v api.Value) (api.Type, api.Value) {
	for range n {
		inner := v
		t, v = ty(api.Map, natT, t), asMap(1, func(int) api.Value { return inner })
	}
	return t, v
}

// lists is a list of lists that have n numbers together: its tree has 25 nodes more.
func lists(n int) api.Value {
	return asList(24, func(i int) api.Value { return asList((n+i)/24, nat) })
}

// P4.4

func TestNode(t *testing.T) {
	for _, x := range trees() {
		if n, e := Node(x.t, x.v); !alikeNodes(n, x.n) || e != api.OK {
			t.Errorf("Node(%v, %v): %v, %d", x.t, x.v, n, e)
		}
		if n, e := Node(x.t, copyOf(x.v)); !alikeNodes(n, x.n) || e != api.OK {
			t.Errorf("Node(%v, %v), of a copy: %v, %d", x.t, x.v, n, e)
		}
	}
}

// untold are values of types that are not Packed.
func untold() []sample {
	return []sample{
		{opT, sent(0, 0, natT, nat(1))}, {lamT, code(natT, textT)}, {tickT, ticket(1, 2, text("a"))},
		{ty(api.Option, opT), nothing}, {ty(api.Option, lamT), nothing}, {ty(api.Option, tickT), nothing},
		{ty(api.Option, tickT), some(ticket(1, 2, text("a")))},
		{ty(api.List, opT), val(api.List, 0)}, {ty(api.List, lamT), val(api.List, 0, code(natT, textT))},
		{ty(api.Map, natT, tickT), val(api.Map, 0)}, {ty(api.Map, natT, lamT), val(api.Map, 0)},
		{ty(api.Or, natT, opT), left(nat(1))}, {ty(api.Or, tickT, natT), right(nat(1))}, {ty(api.Or, natT, ty(api.Option, lamT)), left(nat(1))},
		{ty(api.Pair, natT, ty(api.List, ty(api.Option, tickT))), both(nat(1), val(api.List, 0))},
		{under(22, tickT), nothing},
	}
}

func TestNodeType(t *testing.T) {
	for _, x := range slices.Concat(untold(), wrongs()) {
		if n, e := Node(x.t, x.v); !bareNode(n) || e != api.ErrType {
			t.Errorf("Node(%v, %v): %v, %d", x.t, x.v, n, e)
		}
	}
}

func TestNodeLong(t *testing.T) {
	opt := ty(api.Option, natT)
	for _, x := range []struct {
		maps int
		t    api.Type
		v    api.Value
		want api.Errno
	}{
		{11, natT, nat(1), api.OK}, {11, opt, nothing, api.OK}, {11, opt, some(nat(1)), api.OK}, {11, mapT, val(api.Map, 0), api.OK},
		{11, listT, asList(3, nat), api.OK}, {11, ty(api.Pair, natT, natT), both(nat(1), nat(2)), api.OK},
		{11, ty(api.Option, opt), some(some(nat(1))), api.ErrLong}, {11, ty(api.Option, opt), some(nothing), api.OK},
		{12, natT, nat(1), api.ErrLong}, {12, unitT, unit, api.ErrLong}, {12, textT, text("a"), api.ErrLong}, {12, listT, val(api.List, 0), api.ErrLong},
		{20, natT, nat(1), api.ErrLong}, {23, natT, nat(1), api.ErrLong},
	} {
		kind, v := maps(x.maps, x.t, x.v)
		n, e := Node(kind, v)
		if e != x.want || bareNode(n) == (e == api.OK) {
			t.Errorf("Node of %v in %d maps: %d, %v", x.v, x.maps, e, n)
		}
		if s, e := Told(v); e == api.OK && x.want != api.OK || e != api.OK && s != "" {
			t.Errorf("Told of %v in %d maps: %d, %q", x.v, x.maps, e, s)
		}
		if back, e := Parse(kind, n); x.want == api.OK && (e != api.OK || !alike(v, back)) {
			t.Errorf("Parse of %v in %d maps: %d, %v", x.v, x.maps, e, back)
		}
	}
}

func TestNodeMany(t *testing.T) {
	kind := ty(api.List, listT)
	many := ty(api.Map, natT, listT)
	for n := 200; n < 400; n++ {
		want := api.OK
		if 25+n > api.MaxNodes {
			want = api.ErrLong
		}
		v := lists(n)
		if x, e := Node(kind, v); e != want || nodesOf(x) != 25+n && e == api.OK || !bareNode(x) && e != api.OK {
			t.Errorf("Node of %d numbers: %d, %v", n, e, x)
		}
		if s, e := Told(v); s != "" || e != api.ErrLong {
			t.Errorf("Told of %d numbers: %d, %q", n, e, s)
		}
		want = api.OK
		if 73+n > api.MaxNodes {
			want = api.ErrLong
		}
		m := asMap(24, func(i int) api.Value { return v.Args[i] })
		if x, e := Node(many, m); e != want || nodesOf(x) != 73+n && e == api.OK || !bareNode(x) && e != api.OK {
			t.Errorf("Node of a map of %d numbers: %d, %v", n, e, x)
		}
	}
}

// The tree is left off where it grows too large: it is so at every kind that may stand there.
func TestNodeManyLast(t *testing.T) {
	full := lists(api.MaxNodes - 25 - 2) // with the pair, and one more, it is as large as may be
	kind := ty(api.List, listT)
	for _, x := range []struct {
		t    api.Type
		v    api.Value
		want api.Errno
	}{
		{natT, nat(1), api.OK}, {unitT, unit, api.OK}, {textT, text("a"), api.OK}, {ty(api.Option, natT), nothing, api.OK}, {listT, val(api.List, 0), api.OK}, {mapT, val(api.Map, 0), api.OK},
		{ty(api.Option, natT), some(nat(1)), api.ErrLong}, {listT, asList(1, nat), api.ErrLong}, {ty(api.Or, natT, natT), left(nat(1)), api.ErrLong},
		{ty(api.Map, natT, natT), asMap(1, nat), api.ErrLong}, {ty(api.Map, natT, natT), asMap(24, nat), api.ErrLong}, {ty(api.Pair, natT, natT), both(nat(1), nat(2)), api.ErrLong},
	} {
		if n, e := Node(ty(api.Pair, kind, x.t), both(full, x.v)); e != x.want || bareNode(n) == (e == api.OK) {
			t.Errorf("Node of many, then %v: %d", x.v, e)
		}
		if n, e := Node(ty(api.Pair, kind, ty(api.Map, natT, x.t)), both(full, asMap(1, func(int) api.Value { return x.v }))); e != api.ErrLong || !bareNode(n) {
			t.Errorf("Node of many, then a map of %v: %d", x.v, e)
		}
	}
}

func nodesOf(n api.Node) int {
	sum := 1
	for _, arg := range n.Args {
		sum += nodesOf(arg)
	}
	return sum
}

// That a value is not of the type counts for more than that its tree is too large.
func TestNodeTypeFirst(t *testing.T) {
	v := lists(400)
	v.Args[23].Args[0].N = -1
	if n, e := Node(ty(api.List, listT), v); !bareNode(n) || e != api.ErrType {
		t.Errorf("too large and not of the type: %d", e)
	}
	kind, v := maps(12, tickT, ticket(1, 2, text("a")))
	if n, e := Node(kind, v); !bareNode(n) || e != api.ErrType {
		t.Errorf("too deep and not Packed: %d", e)
	}
}

// P4.5

func TestParse(t *testing.T) {
	for _, x := range trees() {
		if v, e := Parse(x.t, x.n); !alike(v, x.v) || e != api.OK {
			t.Errorf("Parse(%v, %v): %v, %d", x.t, x.n, v, e)
		}
		if v, e := Parse(x.t, copyOfNode(x.n)); !alike(v, x.v) || e != api.OK {
			t.Errorf("Parse(%v, %v), of a copy: %v, %d", x.t, x.n, v, e)
		}
	}
}

// A type need not be Packed: only an operation, a lambda, a ticket has no tree.
func TestParseUnpacked(t *testing.T) {
	for _, x := range []withTree{
		{ty(api.Option, opT), nothing, data(api.DNone)},
		{ty(api.Option, lamT), nothing, data(api.DNone)},
		{ty(api.Option, tickT), nothing, data(api.DNone)},
		{ty(api.List, opT), val(api.List, 0), seq()},
		{ty(api.List, tickT), val(api.List, 0), seq()},
		{ty(api.Map, natT, tickT), val(api.Map, 0), seq()},
		{ty(api.Map, natT, lamT), val(api.Map, 0), seq()},
		{ty(api.Or, natT, opT), left(nat(1)), data(api.DLeft, count(1))},
		{ty(api.Or, tickT, natT), right(nat(1)), data(api.DRight, count(1))},
		{ty(api.Pair, natT, ty(api.Option, tickT)), both(nat(1), nothing), data(api.DPair, count(1), data(api.DNone))},
		{ty(api.Map, natT, ty(api.Option, tickT)), val(api.Map, 0, both(nat(1), nothing)), seq(data(api.DElt, count(1), data(api.DNone)))},
	} {
		if v, e := Parse(x.t, x.n); !alike(v, x.v) || e != api.OK {
			t.Errorf("Parse(%v, %v): %v, %d", x.t, x.n, v, e)
		}
	}
}

// parseWrongs are trees that tell no value of the type.
func parseWrongs() []withTree {
	opt, pair, or, m := ty(api.Option, natT), ty(api.Pair, natT, textT), ty(api.Or, natT, textT), ty(api.Map, natT, natT)
	elt := func(k, v int) api.Node { return data(api.DElt, count(k), count(v)) }
	elts := func(n int) api.Node {
		x := seq()
		for i := range n {
			x.Args = append(x.Args, elt(i, i))
		}
		return x
	}
	var list []withTree
	for _, x := range []struct {
		t     api.Type
		nodes []api.Node
	}{
		{unitT, []api.Node{{}, count(1), word(""), seq(), data(api.DTrue), data(api.DNone), data(api.Unit), data(api.DUnit, count(1)), data(api.DUnit, data(api.DUnit))}},
		{boolT, []api.Node{count(0), count(1), word(""), seq(), data(api.DUnit), data(api.DTrue, count(1)), data(api.DFalse, data(api.DFalse)), data(api.DLeft), data(api.Bool), data(api.NOT)}},
		{intT, []api.Node{word("1"), seq(), seq(count(1)), data(api.DUnit), data(api.Integer), count(api.MaxInt + 1), count(-api.MaxInt - 1), count(math.MinInt), data(api.DSome, count(1))}},
		{natT, []api.Node{count(-1), count(-api.MaxInt), count(api.MaxInt + 1), word(""), seq(), data(api.DUnit)}},
		{mutezT, []api.Node{count(-1), count(api.MaxInt + 1), word(""), seq(), data(api.DUnit)}},
		{addrT, []api.Node{count(-1), count(12), count(api.MaxInt), word(""), seq(), data(api.DUnit)}},
		{textT, []api.Node{count(0), word(longest + "x"), seq(), data(api.DUnit), data(api.String), seq(word("a"))}},
		{opt, []api.Node{count(0), word(""), seq(), seq(count(1)), data(api.DUnit), data(api.DNone, count(1)), data(api.DSome), data(api.DSome, count(1), count(1)), data(api.DSome, count(-1)), data(api.DSome, word("")), data(api.DSome, data(api.DNone)), data(api.DLeft, count(1)), data(api.Option, count(1)), data(api.SOME, count(1))}},
		{pair, []api.Node{count(0), word(""), seq(), seq(count(1), word("a")), data(api.DPair), data(api.DPair, count(1)), data(api.DPair, count(1), word("a"), word("a")), data(api.DPair, word("a"), count(1)), data(api.DPair, count(-1), word("a")), data(api.DElt, count(1), word("a")), data(api.Pair, count(1), word("a")), data(api.PAIR, count(1), word("a"))}},
		{or, []api.Node{count(0), word("a"), seq(), data(api.DLeft), data(api.DRight), data(api.DLeft, word("a")), data(api.DRight, count(1)), data(api.DLeft, count(1), word("a")), data(api.DRight, word("a"), word("a")), data(api.DLeft, count(-1)), data(api.DSome, count(1)), data(api.LEFT, count(1)), data(api.Or, count(1))}},
		{listT, []api.Node{count(0), word(""), data(api.DUnit), data(api.List), data(api.DPair, count(1), count(2)), seq(word("a")), seq(count(1), count(-1)), seq(count(1), word("a")), seq(seq(count(1))), seq(make([]api.Node, 25)...), seq(elt(1, 2)), seq(make([]api.Node, 299)...)}},
		{m, []api.Node{count(0), word(""), data(api.DUnit), data(api.Map), elt(1, 2), seq(count(1)), seq(count(1), count(2)), seq(seq(count(1), count(2))), seq(data(api.DPair, count(1), count(2))), seq(data(api.DElt)), seq(data(api.DElt, count(1))), seq(data(api.DElt, count(1), count(2), count(3))),
			seq(data(api.DElt, word("a"), count(2))), seq(data(api.DElt, count(2), word("a"))), seq(elt(-1, 2)), seq(elt(1, -2)), seq(elt(1, 2), elt(1, 2)), seq(elt(1, 2), elt(1, 3)), seq(elt(2, 1), elt(1, 2)), seq(elt(1, 1), elt(3, 1), elt(2, 1)), seq(elt(1, 1), data(api.DPair, count(2), count(2))), elts(25), elts(99)}},
		{ty(api.Map, textT, unitT), []api.Node{seq(data(api.DElt, word("a"), data(api.DUnit)), data(api.DElt, word("B"), data(api.DUnit)))}},
		{ty(api.Map, unitT, unitT), []api.Node{seq(data(api.DElt, data(api.DUnit), data(api.DUnit)), data(api.DElt, data(api.DUnit), data(api.DUnit)))}},
		{ty(api.List, m), []api.Node{seq(elts(2), seq(elt(2, 1), elt(1, 2)))}},
		// What has no tree.
		{opT, []api.Node{{}, word(""), seq(), data(api.DUnit), data(api.DNone), data(api.Operation), data(api.TRANSFER), data(api.DPair, count(1), count(2))}},
		{lamT, []api.Node{{}, word(""), seq(), seq(data(api.DROP)), data(api.DUnit), data(api.Lambda), data(api.LAMBDA), data(api.DPair, count(1), count(2))}},
		{tickT, []api.Node{{}, word(""), word("a"), seq(), data(api.DUnit), data(api.Ticket), data(api.TICKET), data(api.DPair, count(1), data(api.DPair, word("a"), count(2)))}},
		{ty(api.Option, opT), []api.Node{data(api.DSome, data(api.DUnit)), data(api.DSome)}},
		{ty(api.Or, natT, tickT), []api.Node{data(api.DRight, count(1)), data(api.DRight, word("a"))}},
		{ty(api.List, lamT), []api.Node{seq(seq())}},
		{ty(api.Map, natT, tickT), []api.Node{seq(data(api.DElt, count(1), word("a")))}},
		// Types that are not good.
		{api.Type{}, []api.Node{{}, data(api.DUnit)}},
		{ty(16), []api.Node{{}, data(api.DUnit)}},
		{ty(api.Nat, natT), []api.Node{{}, count(1)}},
		{ty(api.Option), []api.Node{data(api.DNone)}},
		{ty(api.Option, natT, natT), []api.Node{data(api.DNone), data(api.DSome, count(1))}},
		{ty(api.Pair, natT), []api.Node{data(api.DPair, count(1))}},
		{ty(api.List), []api.Node{seq()}},
		{ty(api.Map, listT, natT), []api.Node{seq()}},
		{ty(api.Map, natT), []api.Node{seq()}},
		{ty(api.Or, natT), []api.Node{data(api.DLeft, count(1)), data(api.DRight, count(1))}},
		{ty(api.Or), []api.Node{data(api.DLeft, count(1)), data(api.DRight, count(1))}},
		{ty(api.Option, ty(api.Ticket, listT)), []api.Node{data(api.DNone)}},
		{under(24, natT), []api.Node{data(api.DNone), shell(24, count(1))}},
		// Trees that are not good.
		{natT, []api.Node{{Kind: -1, N: 1}, {Kind: 4, N: 1}, {N: 1, P: api.DUnit}, {N: 1, S: "a"}, {N: 1, Args: []api.Node{{}}}}},
		{textT, []api.Node{{Kind: api.Text, S: "a", N: 1}, {Kind: api.Text, S: "a", P: 1}, {Kind: api.Text, S: "a", Args: []api.Node{{}}}}},
		{unitT, []api.Node{{Kind: api.Prim, P: api.DUnit, N: 1}, {Kind: api.Prim, P: api.DUnit, S: "a"}, {Kind: api.Seq, P: api.DUnit}, {P: api.DUnit}, {Kind: api.Text, P: api.DUnit}}},
		{boolT, []api.Node{{Kind: api.Prim, P: api.DTrue, N: 1}, {Kind: api.Prim, P: 19}, {P: api.DTrue}}},
		{opt, []api.Node{{Kind: api.Seq, P: api.DSome, Args: []api.Node{{}}}, {Kind: api.Prim, P: api.DSome, N: 1, Args: []api.Node{{}}}}},
		{listT, []api.Node{{Kind: api.Seq, N: 1}, {Kind: api.Seq, S: "a"}, {Kind: api.Seq, P: api.DUnit}, seq(api.Node{P: 1})}},
		{m, []api.Node{seq(api.Node{P: api.DElt, Args: []api.Node{{}, {}}}), seq(api.Node{Kind: api.Seq, P: api.DElt, Args: []api.Node{{}, {}}}), seq(api.Node{Kind: api.Prim, P: api.DElt, N: 1, Args: []api.Node{{}, {}}})}},
		{deepest, []api.Node{shell(24, count(1)), shell(23, data(api.DNone)), shell(100, count(1))}},
	} {
		for _, n := range x.nodes {
			list = append(list, withTree{t: x.t, n: n})
		}
	}
	return list
}

func TestParseWrong(t *testing.T) {
	for _, x := range parseWrongs() {
		if v, e := Parse(x.t, x.n); !bare(v) || e != api.ErrForm {
			t.Errorf("Parse(%v, %v): %v, %d", x.t, x.n, v, e)
		}
		if v, e := Parse(ty(api.Option, x.t), data(api.DSome, x.n)); !bare(v) || e != api.ErrForm {
			t.Errorf("Parse(%v, %v), within another: %v, %d", x.t, x.n, v, e)
		}
		if v, e := Parse(ty(api.Pair, natT, x.t), data(api.DPair, count(1), x.n)); !bare(v) || e != api.ErrForm {
			t.Errorf("Parse(%v, %v), within another: %v, %d", x.t, x.n, v, e)
		}
		if v, e := Parse(ty(api.Map, natT, ty(api.List, x.t)), seq(data(api.DElt, count(1), seq(x.n)))); !bare(v) || e != api.ErrForm {
			t.Errorf("Parse(%v, %v), within another: %v, %d", x.t, x.n, v, e)
		}
	}
}

func TestParseEdges(t *testing.T) {
	for _, x := range []struct {
		t    api.Type
		n    api.Node
		want api.Errno
	}{
		{ty(api.List, listT), treeBy(ty(api.List, listT), lists(275)), api.OK},
		{ty(api.List, listT), treeBy(ty(api.List, listT), lists(276)), api.ErrForm},
		{ty(api.Pair, textT, textT), data(api.DPair, word(longest), word(longest)), api.OK},
		{listT, seq(make([]api.Node, 24)...), api.OK},
		{listT, seq(make([]api.Node, 25)...), api.ErrForm},
	} {
		if v, e := Parse(x.t, x.n); e != x.want || bare(v) == (e == api.OK) {
			t.Errorf("Parse(%v, %v): %d, %v", x.t, x.n, e, v)
		}
	}
	for n := range 20 {
		kind, v := maps(n, natT, nat(7))
		want := api.OK
		if 2*n+1 > api.MaxDepth {
			want = api.ErrForm
		}
		if back, e := Parse(kind, treeBy(kind, v)); e != want || e == api.OK && !alike(back, v) || e != api.OK && !bare(back) {
			t.Errorf("Parse of %d maps: %d, %v", n, e, back)
		}
	}
}

// All primitives, with none, one and two Args, as the tree of a value of each type.
func TestParsePrims(t *testing.T) {
	means := map[[3]int]bool{
		{api.Unit, api.DUnit, 0}: true, {api.Bool, api.DTrue, 0}: true, {api.Bool, api.DFalse, 0}: true,
		{api.Option, api.DNone, 0}: true, {api.Option, api.DSome, 1}: true, {api.Or, api.DLeft, 1}: true, {api.Or, api.DRight, 1}: true, {api.Pair, api.DPair, 2}: true,
	}
	for _, x := range []api.Type{unitT, boolT, intT, natT, mutezT, textT, addrT, opT, ty(api.Option, natT), listT, ty(api.Pair, natT, natT), ty(api.Or, natT, natT), ty(api.Map, natT, natT), lamT, tickT} {
		for p := range 100 {
			for n := range 3 {
				v, e := Parse(x, data(p, make([]api.Node, n)...))
				if want := means[[3]int{x.T, p, n}]; want != (e == api.OK) || want == bare(v) || !want && e != api.ErrForm {
					t.Errorf("Parse of the primitive %d of %d as of %v: %v, %d", p, n, x, v, e)
				}
			}
		}
	}
}

// Second opinions

// treeBy is as Node should be, by the type, whatever the tree's size.
func treeBy(t api.Type, v api.Value) api.Node {
	switch t.T {
	case api.Unit:
		return data(api.DUnit)
	case api.Bool:
		return data([]int{api.DFalse, api.DTrue}[v.N])
	case api.String:
		return word(v.S)
	case api.Option:
		if len(v.Args) == 0 {
			return data(api.DNone)
		}
		return data(api.DSome, treeBy(t.Args[0], v.Args[0]))
	case api.Or:
		return data([]int{api.DLeft, api.DRight}[v.N], treeBy(t.Args[v.N], v.Args[0]))
	case api.Pair:
		return data(api.DPair, treeBy(t.Args[0], v.Args[0]), treeBy(t.Args[1], v.Args[1]))
	case api.List:
		n := seq()
		for _, arg := range v.Args {
			n.Args = append(n.Args, treeBy(t.Args[0], arg))
		}
		return n
	case api.Map:
		n := seq()
		for _, pair := range v.Args {
			n.Args = append(n.Args, data(api.DElt, treeBy(t.Args[0], pair.Args[0]), treeBy(t.Args[1], pair.Args[1])))
		}
		return n
	}
	return count(v.N)
}

// guess is the only value of a good type that a tree could tell, if it tells one.
func guess(t api.Type, n api.Node) api.Value {
	v := val(t.T, 0)
	put := func(t api.Type, n api.Node) { v.Args = append(v.Args, guess(t, n)) }
	switch t.T {
	case api.Integer, api.Nat, api.Mutez, api.Address:
		v.N = n.N
	case api.String:
		v.S = n.S
	case api.Bool:
		v.N = n.P & 1 // DTrue is odd, DFalse is not
	case api.Or:
		v.N = n.P & 1 // DRight is odd, DLeft is not
		if len(n.Args) > 0 {
			put(t.Args[v.N], n.Args[0])
		}
	case api.Option, api.List:
		for _, arg := range n.Args {
			put(t.Args[0], arg)
		}
	case api.Pair:
		for i, arg := range n.Args {
			put(t.Args[i%2], arg)
		}
	case api.Map:
		for _, arg := range n.Args {
			put(ty(api.Pair, t.Args...), arg)
		}
	}
	return v
}

// tells is whether a tree is that of a value of a good type, and which one.
func tells(t api.Type, n api.Node) (api.Value, bool) {
	v := guess(t, n)
	if tree.Good(n) != api.OK || !says(t, v) || holds(v, api.Operation, api.Lambda, api.Ticket) || !alikeNodes(treeBy(t, v), n) {
		return api.Value{}, false
	}
	return v, true
}

// holds is whether a value, or anything in it, is of one of these kinds.
func holds(v api.Value, kinds ...int) bool {
	return slices.Contains(kinds, v.K) || slices.ContainsFunc(v.Args, func(arg api.Value) bool { return holds(arg, kinds...) })
}

func typeHolds(t api.Type, kinds ...int) bool {
	return slices.Contains(kinds, t.T) || slices.ContainsFunc(t.Args, func(arg api.Type) bool { return typeHolds(arg, kinds...) })
}

// spoilNode changes one thing somewhere in a tree.
func spoilNode(r *rand.Rand, n api.Node) api.Node {
	n = copyOfNode(n)
	at := &n
	for len(at.Args) > 0 && r.Intn(3) > 0 {
		at = &at.Args[r.Intn(len(at.Args))]
	}
	switch r.Intn(8) {
	case 0:
		at.Kind = r.Intn(5)
	case 1:
		at.N = oneOf(r, -1, 0, 1, 11, 12, api.MaxInt, -api.MaxInt, -api.MaxInt-1)
	case 2:
		at.P = oneOf(r, 0, api.DUnit, api.DTrue, api.DFalse, api.DPair, api.DLeft, api.DRight, api.DSome, api.DNone, api.DElt, api.Unit, api.ADD)
	case 3:
		at.S = oneOf(r, "", "x", longest, longest+"x")
	case 4:
		at.Args = append(at.Args, oneOf(r, count(1), word("a"), data(api.DUnit), seq(), data(api.DElt, count(1), count(2))))
	case 5:
		if len(at.Args) > 0 {
			at.Args = at.Args[1:]
		}
	case 6:
		if last := len(at.Args) - 1; last > 0 {
			at.Args[0], at.Args[last] = at.Args[last], at.Args[0]
		}
	case 7:
		*at = oneOf(r, count(3), word("b"), seq(), data(api.DUnit), data(api.DTrue), data(api.DNone), data(api.DSome, count(1)), data(api.DLeft, count(1)))
	}
	return n
}

func TestTreesAgree(t *testing.T) {
	r := rand.New(rand.NewSource(45))
	yes, no := 0, 0
	for range 30000 {
		x := someType(r, 1+r.Intn(4), false)
		v := someValue(r, x)
		told := !typeHolds(x, api.Operation, api.Lambda, api.Ticket)
		n, e := Node(x, v)
		switch {
		case !told:
			if !bareNode(n) || e != api.ErrType {
				t.Fatalf("Node(%v, %v): %v, %d", x, v, n, e)
			}
		case !alikeNodes(n, treeBy(x, v)) || e != api.OK:
			t.Fatalf("Node(%v, %v): %v, %d", x, v, n, e)
		}
		n = treeBy(x, v)
		if r.Intn(4) > 0 {
			n = spoilNode(r, n)
		}
		want, ok := tells(x, n)
		got, e := Parse(x, n)
		if !alike(want, got) || ok != (e == api.OK) || !ok && e != api.ErrForm {
			t.Fatalf("Parse(%v, %v): %v, %d, wanted %v, %v", x, n, got, e, want, ok)
		}
		if ok {
			yes++
		} else {
			no++
		}
	}
	if yes < 1000 || no < 1000 {
		t.Errorf("%d trees tell a value, %d do not", yes, no)
	}
}

func TestTextStays(t *testing.T) {
	// A text that is handed on is the same text, whatever its bytes.
	s := strings.Repeat("\x00\xff\x80", 66)
	n, e := Node(textT, text(s))
	if n.S != s || e != api.OK {
		t.Errorf("Node: %q, %d", n.S, e)
	}
	if v, e := Parse(textT, n); v.S != s || e != api.OK {
		t.Errorf("Parse: %q, %d", v.S, e)
	}
}
