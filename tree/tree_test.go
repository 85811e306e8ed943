package tree

import (
	"math"
	"reflect"
	"strings"
	"testing"

	"touchstone/api"
)

const most = api.MaxInt

func num(n int) api.Node                    { return api.Node{Kind: api.Int, N: n} }
func text(s string) api.Node                { return api.Node{Kind: api.Text, S: s} }
func prim(p int, args ...api.Node) api.Node { return api.Node{Kind: api.Prim, P: p, Args: args} }
func seq(args ...api.Node) api.Node         { return api.Node{Kind: api.Seq, Args: args} }

// under lays a node under n rows, one within the other.
func under(n int, x api.Node) api.Node {
	for range n {
		x = seq(x)
	}
	return x
}

// row is a row of n numbers 0.
func row(n int) []api.Node { return make([]api.Node, n) }

var (
	long = strings.Repeat("x", api.MaxText)
	// Nodes with which one thing is wrong, each of another error (or of another reason for it).
	noKind  = api.Node{Kind: 4}
	noForm  = api.Node{Kind: api.Seq, N: 1}
	noRange = num(most + 1)
	noText  = text(long + "x")
)

// good are trees with which nothing is wrong: of all kinds, and at the edges.
func good() []api.Node {
	list := []api.Node{
		num(0), num(1), num(-1), num(63), num(-63), num(64), num(-64), num(65), num(8191), num(-8191), num(8192), num(-8192),
		num(most), num(-most), num(most - 1), num(1 - most), num(1<<55 - 1), num(1 << 55), num(-1 << 55), num(1<<32 + 5),
		text(""), text("ab"), text("\x00\xff\x80"), text("\xc3\xa4"), text(long[:63]), text(long[:64]), text(long),
		seq(), {Kind: api.Seq, Args: []api.Node{}}, seq(num(5), seq()), seq(row(63)...), seq(row(64)...), seq(row(299)...),
		prim(api.PAIR), prim(api.Pair, prim(api.Nat), prim(api.List, prim(api.String))),
		prim(api.DElt, text("k"), prim(api.DPair, num(-7), prim(api.DNone))), prim(api.PUSH, row(100)...),
		seq(prim(api.IF, seq(prim(api.DROP)), seq(prim(api.FAILWITH))), text("t"), num(9)),
		under(23, num(most)), under(23, text(long)), under(23, prim(api.INT)), under(23, seq()),
		under(22, seq(row(277)...)), seq(seq(row(149)...), seq(row(148)...)),
		seq(text(long), text(long), text(long)),
	}
	for p := -1; p < 256; p++ {
		if known(p) {
			list = append(list, prim(p), prim(p, num(p), prim(p)))
		}
	}
	return list
}

// known says whether p is a primitive, by the numbers that package api has.
func known(p int) bool {
	return 1 <= p && p <= 15 || 20 <= p && p <= 28 || 40 <= p && p <= 95
}

type badTree struct {
	name string
	n    api.Node
	e    api.Errno
}

// badTrees are trees with which something is wrong.
func badTrees() []badTree {
	return []badTree{
		{"kind 4", noKind, api.ErrKind},
		{"kind -1", api.Node{Kind: -1}, api.ErrKind},
		{"kind 256", api.Node{Kind: 256}, api.ErrKind},
		{"least kind", api.Node{Kind: math.MinInt}, api.ErrKind},
		{"prim 0", prim(0), api.ErrKind},
		{"prim 257", prim(256 + api.Unit), api.ErrKind},
		{"number with P", api.Node{P: 1}, api.ErrForm},
		{"number with S", api.Node{S: "x"}, api.ErrForm},
		{"number with Args", api.Node{Args: row(1)}, api.ErrForm},
		{"text with N", api.Node{Kind: api.Text, N: -1}, api.ErrForm},
		{"text with P", api.Node{Kind: api.Text, P: api.DROP}, api.ErrForm},
		{"text with Args", api.Node{Kind: api.Text, S: "x", Args: row(1)}, api.ErrForm},
		{"prim with N", api.Node{Kind: api.Prim, P: api.DROP, N: 1}, api.ErrForm},
		{"prim with S", api.Node{Kind: api.Prim, P: api.DROP, S: "x"}, api.ErrForm},
		{"row with N", noForm, api.ErrForm},
		{"row with P", api.Node{Kind: api.Seq, P: api.DROP}, api.ErrForm},
		{"row with S", api.Node{Kind: api.Seq, S: "x"}, api.ErrForm},
		{"above the bounds", noRange, api.ErrRange},
		{"below the bounds", num(-most - 1), api.ErrRange},
		{"greatest", num(math.MaxInt), api.ErrRange},
		{"least", num(math.MinInt), api.ErrRange},
		{"long text", noText, api.ErrLong},
		{"longer text", text(strings.Repeat("x", 100000)), api.ErrLong},
		{"too deep a row", under(24, seq()), api.ErrLong},
		{"too deep a number", under(24, num(0)), api.ErrLong},
		{"far too deep", under(1000, num(0)), api.ErrLong},
		{"301 nodes", seq(row(300)...), api.ErrLong},
		{"301 nodes, further down", seq(seq(row(149)...), seq(row(149)...)), api.ErrLong},
		{"many nodes", seq(row(100000)...), api.ErrLong},
	}
}

// badTreesFirst are trees with which several things are wrong.
func badTreesFirst() []badTree {
	return []badTree{
		{"too deep, then of no kind", under(24, noKind), api.ErrLong},
		{"too deep, then of no form", under(24, noForm), api.ErrLong},
		{"too deep, then out of range", under(24, noRange), api.ErrLong},
		{"no kind, then no form", api.Node{Kind: 4, N: most + 1, P: 1, S: long + "x", Args: row(1)}, api.ErrKind},
		{"no prim, then no form", api.Node{Kind: api.Prim, P: 16, N: most + 1, S: long + "x"}, api.ErrKind},
		{"no form, then no prim in a number", api.Node{P: 16}, api.ErrForm},
		{"no form, then out of range", api.Node{N: most + 1, P: 1}, api.ErrForm},
		{"out of range where no number is", api.Node{Kind: api.Text, N: most + 1}, api.ErrForm},
		{"no form, then long", api.Node{Kind: api.Text, N: 1, S: long + "x"}, api.ErrForm},
		{"long where no text is", api.Node{Kind: api.Seq, S: long + "x"}, api.ErrForm},
		{"a node ahead of its Args", api.Node{Kind: api.Seq, N: 1, Args: []api.Node{noKind}}, api.ErrForm},
		{"a node of no kind ahead of its Args", api.Node{Kind: 7, Args: []api.Node{noRange}}, api.ErrKind},
		{"the deepest that may be ahead of its Args", under(23, prim(16, seq())), api.ErrKind},
		{"by their order", seq(num(1), noRange, noKind), api.ErrRange},
		{"by their order, again", prim(api.PAIR, noText, noRange), api.ErrLong},
		{"what is in the first ahead of the second", seq(seq(seq(noRange)), noKind), api.ErrRange},
		{"what is in the first ahead of the second, again", seq(seq(seq()), noForm, seq(noKind)), api.ErrForm},
		{"deep in the first, then of no kind", seq(under(23, seq()), noKind), api.ErrLong},
		{"no kind, then deep in the second", seq(noKind, under(23, seq())), api.ErrKind},
		{"the last one of too many", seq(append(row(400), noRange)...), api.ErrRange},
		{"in the last one of too many", seq(append(row(400), seq(noKind))...), api.ErrKind},
		{"the node behind MaxNodes", seq(append(row(299), noForm)...), api.ErrForm},
	}
}

// P2.1

func TestGood(t *testing.T) {
	for _, n := range good() {
		if e := Good(n); e != api.OK {
			t.Errorf("Good(%v): %d", n, e)
		}
	}
}

func TestGoodPrims(t *testing.T) {
	for p := -300; p < 600; p++ {
		want := api.ErrKind
		if known(p) {
			want = api.OK
		}
		if e := Good(prim(p)); e != want {
			t.Errorf("Good of the primitive %d: %d; wanted %d", p, e, want)
		}
		if e := Good(seq(num(1), prim(p, num(2)))); e != want {
			t.Errorf("Good of the primitive %d in a row: %d; wanted %d", p, e, want)
		}
	}
}

func TestGoodBad(t *testing.T) {
	for _, x := range badTrees() {
		if e := Good(x.n); e != x.e {
			t.Errorf("%s: %d; wanted %d", x.name, e, x.e)
		}
		if e := Good(prim(api.PAIR, num(1), x.n)); e != x.e {
			t.Errorf("%s, within a tree: %d; wanted %d", x.name, e, x.e)
		}
	}
}

func TestGoodFirst(t *testing.T) {
	for _, x := range badTreesFirst() {
		if e := Good(x.n); e != x.e {
			t.Errorf("%s: %d; wanted %d", x.name, e, x.e)
		}
	}
}

func TestGoodEnds(t *testing.T) {
	ring := make([]api.Node, 2)
	for i := range ring {
		ring[i] = api.Node{Kind: api.Seq, Args: ring}
	}
	if e := Good(ring[0]); e != api.ErrLong {
		t.Errorf("a list that holds itself: %d", e)
	}
}

// P2.2

func TestEncodeNumbers(t *testing.T) {
	zeros := strings.Repeat("\x80", 7)
	for _, x := range []struct {
		n int
		s string
	}{
		{0, "\x00"}, {1, "\x01"}, {-1, "\x41"}, {5, "\x05"}, {62, "\x3e"}, {63, "\x3f"}, {-62, "\x7e"}, {-63, "\x7f"},
		{64, "\x80\x01"}, {-64, "\xc0\x01"}, {65, "\x81\x01"}, {127, "\xbf\x01"}, {128, "\x80\x02"}, {-200, "\xc8\x03"},
		{8191, "\xbf\x7f"}, {-8191, "\xff\x7f"}, {8192, "\x80\x80\x01"}, {-8192, "\xc0\x80\x01"}, {-8256, "\xc0\x81\x01"},
		{1<<55 - 1, "\xbf\xff\xff\xff\xff\xff\xff\x7f"}, {1 << 55, "\x80" + zeros + "\x01"},
		{most, "\x80" + zeros + "\x20"}, {-most, "\xc0" + zeros + "\x20"},
		{most - 1, "\xbf\xff\xff\xff\xff\xff\xff\xff\x1f"}, {1 - most, "\xff\xff\xff\xff\xff\xff\xff\xff\x1f"},
	} {
		if s, e := Encode(num(x.n)); s != "\x00"+x.s || e != api.OK {
			t.Errorf("Encode of %d: %q, %d; wanted %q", x.n, s, e, "\x00"+x.s)
		}
		if n, e := Decode("\x00" + x.s); !reflect.DeepEqual(n, num(x.n)) || e != api.OK {
			t.Errorf("Decode of %q: %v, %d; wanted %d", x.s, n, e, x.n)
		}
	}
}

func TestEncode(t *testing.T) {
	for _, x := range []struct {
		n api.Node
		s string
	}{
		{text(""), "\x01\x00"},
		{text("ab"), "\x01\x02ab"},
		{text("\x00\xff"), "\x01\x02\x00\xff"},
		{text("\u00e4"), "\x01\x02\xc3\xa4"},
		{text(long[:63]), "\x01\x3f" + long[:63]},
		{text(long[:64]), "\x01\x80\x01" + long[:64]},
		{text(long), "\x01\x88\x03" + long},
		{prim(api.Unit), "\x02\x01\x00"},
		{prim(api.INT, num(-1)), "\x02\x5f\x01\x00\x41"},
		{prim(api.DElt, text("k"), prim(api.DTrue)), "\x02\x1c\x02\x01\x01k\x02\x15\x00"},
		{prim(api.PUSH, row(64)...), "\x02\x2d\x80\x01" + strings.Repeat("\x00\x00", 64)},
		{seq(), "\x03\x00"},
		{seq(num(5), seq()), "\x03\x02\x00\x05\x03\x00"},
		{seq(seq(num(1)), num(2)), "\x03\x02\x03\x01\x00\x01\x00\x02"},
		{seq(row(63)...), "\x03\x3f" + strings.Repeat("\x00\x00", 63)},
		{seq(row(299)...), "\x03\xab\x04" + strings.Repeat("\x00\x00", 299)},
		{under(23, seq()), strings.Repeat("\x03\x01", 23) + "\x03\x00"},
	} {
		if s, e := Encode(x.n); s != x.s || e != api.OK {
			t.Errorf("Encode(%v): %q, %d; wanted %q", x.n, s, e, x.s)
		}
	}
}

func TestEncodeBad(t *testing.T) {
	for _, x := range append(badTrees(), badTreesFirst()...) {
		if s, e := Encode(x.n); s != "" || e != x.e {
			t.Errorf("%s: %q, %d; wanted %d", x.name, s, e, x.e)
		}
	}
}

func TestHandedInStays(t *testing.T) {
	args := append(make([]api.Node, 0, 4), num(1), prim(api.PAIR, text("a"), num(-70)))
	spare := args[:4]
	spare[2], spare[3] = text("spare"), num(3)
	if s, e := Encode(seq(args...)); s != "\x03\x02\x00\x01\x02\x2e\x02\x01\x01a\x00\xc6\x01" || e != api.OK {
		t.Errorf("Encode: %q, %d", s, e)
	}
	want := []api.Node{num(1), prim(api.PAIR, text("a"), num(-70)), text("spare"), num(3)}
	if !reflect.DeepEqual(spare, want) {
		t.Errorf("what was handed in is now %v", spare)
	}
}

// P2.3

// bare is a tree whose lists without elements are all nil, so that alike ones are equal.
func bare(n api.Node) api.Node {
	args := n.Args
	n.Args = nil
	for _, arg := range args {
		n.Args = append(n.Args, bare(arg))
	}
	return n
}

func TestThereAndBack(t *testing.T) {
	for _, n := range good() {
		s, e := Encode(n)
		if e != api.OK {
			t.Fatalf("Encode(%v): %d", n, e)
		}
		back, e := Decode(s)
		if e != api.OK || !reflect.DeepEqual(bare(back), bare(n)) {
			t.Errorf("Decode(%q): %v, %d; wanted %v", s, back, e, n)
		}
		refused(t, s+"\x00", api.ErrForm)
		refused(t, s+s, api.ErrForm)
		for i := range s {
			refused(t, s[:i], api.ErrForm)
		}
	}
}

func refused(t *testing.T, s string, want api.Errno) {
	t.Helper()
	if n, e := Decode(s); e != want || !reflect.DeepEqual(bare(n), api.Node{}) {
		t.Errorf("Decode(%q): %v, %d; wanted %d", s, n, e, want)
	}
}

func TestDecodeBadNumbers(t *testing.T) {
	zeros := strings.Repeat("\x80", 7)
	for _, s := range []string{
		"", "\x80", "\xff\xff", "\xc0" + zeros, // cut short
		"\x40",                                                                         // 0 below 0
		"\x80\x00", "\xc0\x00", "\x81\x00", "\xc1\x00", "\x80\x80\x00", "\xff\x81\x00", // longer than they need be
		"\x81" + zeros + "\x00", "\x81" + zeros + "\x80\x00", "\x81" + strings.Repeat("\x80", 30) + "\x00",
		"\x81" + zeros + "\x20", "\xc1" + zeros + "\x20", "\x80\x81\x80\x80\x80\x80\x80\x80\x20", // one too much, or more
		"\x80" + zeros + "\x40", "\xbf\xff\xff\xff\xff\xff\xff\xff\x7f", "\xff\xff\xff\xff\xff\xff\xff\xff\x7f",
		"\x85" + zeros + "\x80\x01", "\x85" + zeros + "\x80\x04", "\x85" + zeros + "\x80\x08", // what falls out of 64 bits
		"\x85" + zeros + "\x80\x80\x01", "\x85" + strings.Repeat("\x80", 30) + "\x01", "\x85" + zeros + "\xa0\x01",
	} {
		refused(t, "\x00"+s, api.ErrForm)
		refused(t, "\x01"+s, api.ErrForm)
		refused(t, "\x01"+s+long, api.ErrForm)
		refused(t, "\x02\x2e"+s, api.ErrForm)
		refused(t, "\x03"+s, api.ErrForm)
		refused(t, "\x03\x02\x00"+s+"\x00\x00", api.ErrForm)
	}
}

func TestDecodeBad(t *testing.T) {
	for _, s := range []string{
		"\x04", "\x04\x00", "\x40", "\x80\x00", "\xff", "\x03\x01\x04\x00", // no kind
		"\x02", "\x02\x2e", // a primitive, and how many Args, lacking
		"\x01\x41", "\x01\x41a", "\x02\x2e\x41", "\x02\x2e\x41\x00\x00", "\x03\x41", "\x03\xc0\x01", // below 0
		"\x01\x01", "\x01\x03ab", "\x01\x80\x01" + long[:63], // more than are left
		"\x01\x89\x03" + long + "x", "\x01\x80\x04" + long + long, // more than MaxText
		"\x03\x01", "\x03\x02\x00\x00", "\x03\x3f", "\x03\x80" + strings.Repeat("\x80", 7) + "\x20\x00\x00", // Args lacking
		"\x00\x00\x00", "\x01\x01ab", "\x02\x2e\x00\x00", "\x03\x00\x03\x00", "\x03\x01\x00\x00\x00", // left over
	} {
		refused(t, s, api.ErrForm)
	}
}

func TestDecodePrims(t *testing.T) {
	for p := range 256 {
		s := "\x02" + string([]byte{byte(p)}) + "\x00"
		if !known(p) {
			refused(t, s, api.ErrForm)
			continue
		}
		if n, e := Decode(s); e != api.OK || n.Kind != api.Prim || n.P != p {
			t.Errorf("Decode(%q): %v, %d", s, n, e)
		}
	}
}

func TestDecodeTooLong(t *testing.T) {
	deep := func(n int) string { return strings.Repeat("\x03\x01", n) }
	zeros := func(n int) string { return strings.Repeat("\x00\x00", n) }
	for _, s := range []string{
		deep(24) + "\x03\x00", deep(24) + "\x00\x00", deep(1000), strings.Repeat("\x02\x2e\x01", 24) + "\x03\x00",
		"\x03\x02\x00\x00" + deep(23) + "\x03\x00",
		"\x03\xac\x04" + zeros(300), "\x03\x02\x03\x95\x02" + zeros(149) + "\x03\x95\x02" + zeros(149),
		"\x03\xbf\x7f" + zeros(8191), // more than MaxNodes
	} {
		refused(t, s, api.ErrLong)
	}
}

// What comes first from the front is told, whatever stands behind it; of a node that is too much, nothing is looked at.
func TestDecodeFirst(t *testing.T) {
	deep := strings.Repeat("\x03\x01", 24)
	wide := "\x03\xac\x04" + strings.Repeat("\x00\x00", 299)
	for _, x := range []struct {
		s string
		e api.Errno
	}{
		{deep, api.ErrLong}, {deep + "\x04", api.ErrLong}, {deep + "\x00\x40", api.ErrLong}, {deep + "\x00\x00\x00", api.ErrLong},
		{wide, api.ErrLong}, {wide + "\x04", api.ErrLong}, {wide + "\x02\x10", api.ErrLong},
		{"\x03\x02" + deep + "\x04", api.ErrLong}, {"\x03\x02\x04" + deep, api.ErrForm},
		{"\x03\x02\x00\x40" + deep + "\x00\x00", api.ErrForm}, {"\x02\x10\x01" + deep, api.ErrForm},
		{"\x03\x41" + deep, api.ErrForm}, {"\x03\xc0\x01" + wide, api.ErrForm}, {"\x03\x02\x01\x89\x03" + long + "x" + deep, api.ErrForm},
		{"\x03\x00" + deep + "\x00\x00", api.ErrForm}, {"\x00\x00" + wide + "\x00\x00", api.ErrForm},
		{strings.Repeat("\x03\x01", 23) + "\x03\x41", api.ErrForm}, {strings.Repeat("\x03\x01", 23) + "\x02\x10\x01\x00\x00", api.ErrForm},
		{"\x03\xac\x04" + strings.Repeat("\x00\x00", 298) + "\x00", api.ErrForm},
		{"\x03\xac\x04" + strings.Repeat("\x00\x00", 298) + "\x04\x00\x00\x00", api.ErrForm},
		{"\x03\x80" + strings.Repeat("\x80", 7) + "\x20" + strings.Repeat("\x00\x00", 299), api.ErrLong},
	} {
		refused(t, x.s, x.e)
	}
}

// texts are all texts of up to n bytes that are of those of some.
func texts(n int, some string) []string {
	all := []string{""}
	if n == 0 {
		return all
	}
	for _, head := range texts(n-1, some) {
		for i := range len(some) {
			all = append(all, some[i:i+1]+head)
		}
	}
	return all
}

// No two texts have one tree: what Decode takes is what Encode makes of it.
func TestDecodeAll(t *testing.T) {
	taken := 0
	for _, head := range texts(3, "\x00\x01\x02\x03\x04\x0f\x10\x14\x1c\x1d\x28\x3f\x40\x41\x5f\x60\x7f\x80\x81\xbf\xc0\xc1\xff") {
		for _, tail := range []string{"", "\x00", "\x01", "\x00\x00", "\x03\x00", "\x80\x01", "\x01\x01a", "\x00\x00\x00\x00"} {
			n, e := Decode(head + tail)
			if e != api.OK {
				refused(t, head+tail, api.ErrForm)
				continue
			}
			taken++
			if s, e := Encode(n); s != head+tail || e != api.OK {
				t.Errorf("%q is the tree %v, which is %q, %d", head+tail, n, s, e)
			}
		}
	}
	if taken < 300 {
		t.Errorf("only %d texts were trees", taken)
	}
}
