package kind

import (
	"reflect"
	"slices"
	"testing"

	"touchstone/api"
)

func prim(p int, args ...api.Node) api.Node { return api.Node{Kind: api.Prim, P: p, Args: args} }

// treeOf is the tree of a type, good or not.
func treeOf(t api.Type) api.Node {
	n := prim(t.T)
	for _, arg := range t.Args {
		n.Args = append(n.Args, treeOf(arg))
	}
	return n
}

func bareType(t api.Type) bool { return t.T == 0 && len(t.Args) == 0 }

func bareNode(n api.Node) bool {
	return n.Kind == 0 && n.N == 0 && n.P == 0 && n.S == "" && len(n.Args) == 0
}

// sameNode is whether two trees are alike.
func sameNode(a, b api.Node) bool {
	return a.Kind == b.Kind && a.N == b.N && a.P == b.P && a.S == b.S && slices.EqualFunc(a.Args, b.Args, sameNode)
}

// P3.3

func TestNodeAndParse(t *testing.T) {
	pn := prim(api.Nat)
	for _, x := range []struct {
		t api.Type
		n api.Node
	}{
		{nat, pn},
		{op, prim(api.Operation)},
		{ty(api.Option, text), prim(api.Option, prim(api.String))},
		{tick, prim(api.Ticket, pn)},
		{ty(api.Map, text, list), prim(api.Map, prim(api.String), prim(api.List, pn))},
		{ty(api.Lambda, unit, op), prim(api.Lambda, prim(api.Unit), prim(api.Operation))},
		{ty(api.Or, ty(api.Pair, nat, text), unit), prim(api.Or, prim(api.Pair, pn, prim(api.String)), prim(api.Unit))},
	} {
		if n, e := Node(x.t); !sameNode(n, x.n) || e != api.OK {
			t.Errorf("Node(%v): %v, %d; wanted %v", x.t, n, e, x.n)
		}
		if y, e := Parse(x.n); !alike(y, x.t) || e != api.OK {
			t.Errorf("Parse(%v): %v, %d; wanted %v", x.n, y, e, x.t)
		}
	}
}

func TestThereAndBack(t *testing.T) {
	for _, x := range goodTypes() {
		n, e := Node(x)
		if !sameNode(n, treeOf(x)) || e != api.OK {
			t.Errorf("Node(%v): %v, %d", x, n, e)
		}
		if back, e := Parse(n); !alike(back, x) || e != api.OK {
			t.Errorf("Parse(%v): %v, %d", n, back, e)
		}
	}
	if x, e := Parse(api.Node{Kind: api.Prim, P: api.Nat, Args: []api.Node{}}); !alike(x, nat) || e != api.OK {
		t.Errorf("Parse of a tree with an empty list: %v, %d", x, e)
	}
}

func TestNotGoodThereOrBack(t *testing.T) {
	for i, x := range badTypes() {
		if n, e := Node(x); !bareNode(n) || e != api.ErrForm {
			t.Errorf("Node of bad type %d: %v, %d", i, n, e)
		}
		if y, e := Parse(treeOf(x)); !bareType(y) || e != api.ErrForm {
			t.Errorf("Parse of the tree of bad type %d: %v, %d", i, y, e)
		}
	}
}

func TestParseNoType(t *testing.T) {
	pn := prim(api.Nat)
	for _, n := range []api.Node{
		{},
		{N: api.Nat},
		{P: api.Nat},
		{Kind: api.Text},
		{Kind: api.Text, S: "nat"},
		{Kind: api.Text, P: api.Nat},
		{Kind: api.Seq},
		{Kind: api.Seq, P: api.Nat},
		{Kind: api.Seq, Args: []api.Node{pn}},
		{Kind: api.Seq, P: api.Pair, Args: []api.Node{pn, pn}},
		{Kind: 4, P: api.Nat},
		{Kind: -1, P: api.Nat},
		{Kind: 256 + api.Prim, P: api.Nat},
		{Kind: api.Prim, P: api.Nat, N: 1},
		{Kind: api.Prim, P: api.Nat, N: -1},
		{Kind: api.Prim, P: api.Nat, N: api.MaxInt + 1},
		{Kind: api.Prim, P: api.Nat, S: "x"},
		{Kind: api.Prim, P: api.Nat, S: "\x00"},
		{Kind: api.Prim, P: api.Option, N: 1, Args: []api.Node{pn}},
		{Kind: api.Prim, P: api.Option, S: "x", Args: []api.Node{pn}},
		{Kind: api.Prim},
		prim(16), prim(19), prim(-1), prim(256 + api.Nat), prim(api.DUnit), prim(api.DElt, pn, pn), prim(api.DPair, pn, pn), prim(api.PAIR), prim(api.INT),
		prim(api.Nat, pn), prim(api.Option), prim(api.Option, pn, pn), prim(api.Pair, pn), prim(api.Pair, pn, pn, pn), prim(api.Lambda), prim(api.Map, pn),
	} {
		for _, x := range []api.Node{n, prim(api.Option, n), prim(api.Pair, n, pn), prim(api.Pair, pn, n), prim(api.Lambda, pn, prim(api.List, n))} {
			if y, e := Parse(x); !bareType(y) || e != api.ErrForm {
				t.Errorf("Parse(%v): %v, %d", x, y, e)
			}
		}
	}
}

func TestParseNumbers(t *testing.T) {
	for p := -300; p < 600; p++ {
		for n := range 4 {
			want, known := wantParts[p]
			x, e := Parse(prim(p, slices.Repeat([]api.Node{prim(api.Nat)}, n)...))
			if known && want == n {
				if x.T != p || len(x.Args) != n || e != api.OK {
					t.Errorf("Parse of the primitive %d of %d: %v, %d", p, n, x, e)
				}
			} else if !bareType(x) || e != api.ErrForm {
				t.Errorf("Parse of the primitive %d of %d: %v, %d", p, n, x, e)
			}
		}
	}
}

func TestParseEnds(t *testing.T) {
	ring := make([]api.Node, 2)
	for i := range ring {
		ring[i] = api.Node{Kind: api.Prim, P: api.Pair, Args: ring}
	}
	if x, e := Parse(ring[0]); !bareType(x) || e != api.ErrForm {
		t.Errorf("Parse of a list that holds itself: %v, %d", x, e)
	}
	wide := prim(api.Nat)
	for range 200 {
		wide = prim(api.Pair, wide, wide)
	}
	if x, e := Parse(wide); !bareType(x) || e != api.ErrForm {
		t.Errorf("Parse of a tree of far too many: %v, %d", x, e)
	}
}

func TestParsedStays(t *testing.T) {
	args := append(make([]api.Node, 0, 4), prim(api.String), prim(api.List, prim(api.Nat)))
	spare := args[:4]
	spare[2], spare[3] = prim(api.Bool), api.Node{N: 3}
	if x, e := Parse(prim(api.Map, args...)); !alike(x, ty(api.Map, text, list)) || e != api.OK {
		t.Errorf("Parse: %v, %d", x, e)
	}
	want := []api.Node{prim(api.String), prim(api.List, prim(api.Nat)), prim(api.Bool), {N: 3}}
	if !reflect.DeepEqual(spare, want) {
		t.Errorf("what was handed in is now %v", spare)
	}
}
