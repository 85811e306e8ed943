package kind

import (
	"math"
	"math/rand"
	"reflect"
	"runtime/debug"
	"slices"
	"testing"

	"touchstone/api"
)

func ty(t int, args ...api.Type) api.Type { return api.Type{T: t, Args: args} }

var (
	unit    = ty(api.Unit)
	nat     = ty(api.Nat)
	text    = ty(api.String)
	op      = ty(api.Operation)
	tick    = ty(api.Ticket, nat)
	lam     = ty(api.Lambda, nat, nat)
	list    = ty(api.List, nat)
	mapping = ty(api.Map, nat, nat)
)

// under lays a type under n options, one within the other.
func under(n int, t api.Type) api.Type {
	for range n {
		t = ty(api.Option, t)
	}
	return t
}

// pairs is a type of n numbers in pairs, no deeper than it takes: it is of 2n - 1 types in all.
func pairs(n int) api.Type {
	if n == 1 {
		return nat
	}
	return ty(api.Pair, pairs(n/2), pairs(n-n/2))
}

// chained is as under, for very many options: it makes one list for all of them.
func chained(n int, x api.Type) api.Type {
	row := make([]api.Type, n+1)
	for i := range n {
		row[i] = api.Type{T: api.Option, Args: row[i+1 : i+2]}
	}
	row[n] = x
	return row[0]
}

// goodTypes are types that are good: of every kind, and at the edges.
func goodTypes() []api.Type {
	return []api.Type{
		unit, ty(api.Bool), ty(api.Integer), nat, ty(api.Mutez), text, ty(api.Address), op,
		{T: api.Nat, Args: []api.Type{}},
		ty(api.Option, nat), list, tick, ty(api.Pair, nat, text), ty(api.Or, unit, op), mapping, lam,
		ty(api.Option, op), ty(api.List, op), ty(api.List, tick), ty(api.Pair, op, tick), ty(api.Or, lam, list),
		ty(api.Lambda, op, tick), ty(api.Lambda, mapping, lam), ty(api.Lambda, list, list),
		ty(api.Map, text, op), ty(api.Map, unit, tick), ty(api.Map, ty(api.Address), mapping), ty(api.Map, nat, lam), ty(api.Map, nat, list),
		ty(api.Map, ty(api.Pair, nat, ty(api.Option, text)), nat), ty(api.Map, ty(api.Or, unit, ty(api.Bool)), nat),
		ty(api.Ticket, unit), ty(api.Ticket, ty(api.Pair, nat, ty(api.Or, text, ty(api.Mutez)))), ty(api.Ticket, ty(api.Integer)),
		under(23, nat), under(23, op), under(22, tick), under(22, mapping), under(22, lam),
		ty(api.Map, under(22, nat), under(22, op)), ty(api.Ticket, under(22, nat)), ty(api.Lambda, under(22, op), nat),
		pairs(150), ty(api.Option, pairs(150)), ty(api.Map, pairs(75), pairs(75)), ty(api.Lambda, nat, pairs(149)),
		ty(api.Option, ty(api.Map, pairs(149), nat)), ty(api.Ticket, pairs(150)),
	}
}

// badTypes are types that are not good.
func badTypes() []api.Type {
	list := []api.Type{
		{}, ty(-1), ty(16), ty(19), ty(api.DUnit), ty(api.DROP), ty(256 + api.Nat), ty(1<<32 + api.Nat), ty(math.MinInt), ty(math.MaxInt),
		ty(16, nat), ty(0, nat, nat),
		ty(api.Map, list, nat), ty(api.Map, mapping, nat), ty(api.Map, lam, nat), ty(api.Map, tick, nat), ty(api.Map, op, nat),
		ty(api.Map, under(5, list), nat), ty(api.Map, ty(api.Pair, nat, tick), nat), ty(api.Map, ty(api.Or, op, nat), nat), ty(api.Map, ty(16), nat),
		ty(api.Ticket, list), ty(api.Ticket, mapping), ty(api.Ticket, lam), ty(api.Ticket, tick), ty(api.Ticket, op),
		ty(api.Ticket, under(5, list)), ty(api.Ticket, ty(api.Or, nat, lam)), ty(api.Ticket, ty(16)),
		ty(api.Map, nat, ty(api.Map, list, nat)), ty(api.Map, nat, ty(api.Ticket, list)),
		ty(api.Lambda, ty(api.Map, list, nat), nat), ty(api.Lambda, nat, ty(api.Ticket, op)),
		under(24, nat), under(24, unit), under(23, list), under(23, tick), under(1000, nat), under(24, ty(16)),
		ty(api.Map, under(23, nat), nat), ty(api.Map, nat, under(23, nat)), ty(api.Lambda, nat, under(23, nat)), ty(api.Ticket, under(23, nat)),
		pairs(151), ty(api.Option, ty(api.Option, pairs(150))), ty(api.Pair, pairs(75), pairs(76)), ty(api.Lambda, pairs(76), pairs(75)),
		ty(api.Map, pairs(76), pairs(75)), pairs(5000), ty(api.Pair, make([]api.Type, 100000)...),
	}
	for t := range 16 {
		for n := range 5 {
			if n != wantParts[t] {
				list = append(list, ty(t, slices.Repeat([]api.Type{nat}, n)...))
			}
		}
	}
	return list
}

// wantParts is of how many types the chapter says that each is made.
var wantParts = map[int]int{
	0: -1, api.Unit: 0, api.Bool: 0, api.Integer: 0, api.Nat: 0, api.Mutez: 0, api.String: 0, api.Address: 0, api.Operation: 0,
	api.Option: 1, api.List: 1, api.Ticket: 1, api.Pair: 2, api.Or: 2, api.Map: 2, api.Lambda: 2,
}

// P3.1

func TestGood(t *testing.T) {
	for _, x := range goodTypes() {
		if !Good(x) {
			t.Errorf("Good(%v): false", x)
		}
	}
}

func TestGoodBad(t *testing.T) {
	for i, x := range badTypes() {
		if Good(x) {
			t.Errorf("Good of bad type %d: true", i)
		}
		if Good(ty(api.Option, x)) || Good(ty(api.Pair, nat, x)) || Good(ty(api.Lambda, x, nat)) || Good(ty(api.Map, nat, x)) {
			t.Errorf("Good of bad type %d within another: true", i)
		}
	}
}

func TestGoodNumbers(t *testing.T) {
	for x := -300; x < 600; x++ {
		want := slices.Contains([]int{1, 2, 3, 4, 5, 6, 7, 8}, x)
		if Good(ty(x)) != want || Good(ty(api.List, ty(x))) != want {
			t.Errorf("Good of the number %d: %v", x, !want)
		}
	}
}

func TestGoodEnds(t *testing.T) {
	ring := make([]api.Type, 2)
	ring[0], ring[1] = ty(api.Pair, nat, nat), api.Type{T: api.Pair, Args: ring}
	ring[0].Args = ring
	if Good(ring[0]) || Good(api.Type{T: api.Map, Args: ring}) || Good(api.Type{T: api.Ticket, Args: ring[:1]}) {
		t.Error("a list that holds itself is good")
	}
	wide := unit
	for range 200 {
		wide = ty(api.Pair, wide, wide)
	}
	if Good(wide) || Good(ty(api.Ticket, wide)) {
		t.Error("a type of far too many is good")
	}
}

func TestSame(t *testing.T) {
	list := slices.Concat(goodTypes(), badTypes())
	for i, a := range list {
		for j, b := range list {
			if want := alike(a, b); Same(a, b) != want {
				t.Errorf("Same of types %d and %d: %v", i, j, !want)
			}
		}
		if b := copied(a); !Same(a, b) || !Same(b, a) {
			t.Errorf("Same of type %d and its copy: false", i)
		}
	}
}

func TestSameCases(t *testing.T) {
	for _, x := range []struct {
		a, b api.Type
		same bool
	}{
		{nat, ty(api.Nat), true},
		{nat, api.Type{T: api.Nat, Args: []api.Type{}}, true},
		{api.Type{}, api.Type{}, true},
		{ty(-7, ty(99)), ty(-7, ty(99)), true},
		{ty(api.Map, list, op), ty(api.Map, ty(api.List, nat), op), true},
		{nat, ty(api.Integer), false},
		{nat, ty(256 + api.Nat), false},
		{nat, ty(api.Nat, nat), false},
		{ty(api.Pair, nat, text), ty(api.Pair, text, nat), false},
		{ty(api.Pair, nat, nat), ty(api.Or, nat, nat), false},
		{ty(api.Pair, nat, nat), ty(api.Pair, nat), false},
		{ty(api.Pair, nat), ty(api.Pair, nat, nat), false},
		{ty(api.Pair, nat, nat), ty(api.Pair, nat, nat, nat), false},
		{ty(api.Lambda, nat, text), ty(api.Lambda, nat, unit), false},
		{ty(api.Pair, ty(api.Pair, nat, nat), nat), ty(api.Pair, nat, ty(api.Pair, nat, nat)), false},
		{ty(api.Pair, ty(api.Option, nat), ty(api.Option, text)), ty(api.Pair, ty(api.Option, nat), ty(api.Option, unit)), false},
		{ty(api.Pair, ty(api.Option, text), ty(api.Option, nat)), ty(api.Pair, ty(api.Option, unit), ty(api.Option, nat)), false},
		{under(40, nat), under(40, text), false},
		{under(40, nat), under(41, nat), false},
		{under(40, nat), under(40, nat), true},
		{pairs(500), pairs(500), true},
		{pairs(500), pairs(501), false},
	} {
		if Same(x.a, x.b) != x.same || Same(x.b, x.a) != x.same {
			t.Errorf("Same(%v, %v): %v", x.a, x.b, !x.same)
		}
	}
}

// P3.2

func TestSaid(t *testing.T) {
	for _, x := range []struct {
		t                                  api.Type
		comparable, copied, packed, stored bool
	}{
		{unit, true, true, true, true},
		{ty(api.Bool), true, true, true, true},
		{ty(api.Integer), true, true, true, true},
		{nat, true, true, true, true},
		{ty(api.Mutez), true, true, true, true},
		{text, true, true, true, true},
		{ty(api.Address), true, true, true, true},
		{op, false, false, false, false},
		{ty(api.Option, nat), true, true, true, true},
		{list, false, true, true, true},
		{ty(api.Pair, nat, text), true, true, true, true},
		{ty(api.Or, nat, unit), true, true, true, true},
		{mapping, false, true, true, true},
		{lam, false, true, false, true},
		{tick, false, false, false, true},
		{ty(api.Option, list), false, true, true, true},
		{ty(api.Pair, nat, mapping), false, true, true, true},
		{ty(api.Or, lam, nat), false, true, false, true},
		{ty(api.Pair, nat, ty(api.Option, tick)), false, false, false, true},
		{ty(api.Map, nat, op), false, false, false, false},
		{ty(api.List, ty(api.Or, nat, op)), false, false, false, false},
		// What a lambda takes and gives is in it but for Copied and Stored.
		{ty(api.Lambda, op, nat), false, true, false, true},
		{ty(api.Lambda, tick, op), false, true, false, true},
		{ty(api.Map, nat, ty(api.Lambda, op, tick)), false, true, false, true},
		{ty(api.Pair, ty(api.Lambda, op, op), tick), false, false, false, true},
		{ty(api.Pair, ty(api.Lambda, tick, tick), op), false, false, false, false},
		{ty(api.Pair, op, ty(api.Lambda, nat, nat)), false, false, false, false},
		{ty(api.Lambda), false, true, false, true},
		{ty(api.Lambda, op), false, true, false, true},
		// Types that are not good.
		{api.Type{}, false, true, true, true},
		{ty(16), false, true, true, true},
		{ty(-1), false, true, true, true},
		{ty(math.MinInt), false, true, true, true},
		{ty(256 + api.Operation), false, true, true, true},
		{ty(api.DUnit), false, true, true, true},
		{ty(16, nat), false, true, true, true},
		{ty(16, op), false, false, false, false},
		{ty(16, tick), false, false, false, true},
		{ty(16, lam), false, true, false, true},
		{ty(api.Option, ty(16)), false, true, true, true},
		{ty(api.Pair, nat, ty(0)), false, true, true, true},
		{ty(api.Option), true, true, true, true},
		{ty(api.Option, nat, nat), true, true, true, true},
		{ty(api.Option, nat, nat, list), false, true, true, true},
		{ty(api.Pair), true, true, true, true},
		{ty(api.Pair, nat), true, true, true, true},
		{ty(api.Nat, text), true, true, true, true},
		{ty(api.Nat, tick), false, false, false, true},
		{ty(api.Nat, nat, ty(api.Unit, op)), false, false, false, false},
		{ty(api.Nat, nat, ty(api.Unit, lam)), false, true, false, true},
		{ty(api.Nat, ty(16)), false, true, true, true},
		{ty(api.Ticket), false, false, false, true},
		{ty(api.Ticket, op), false, false, false, false},
		{ty(api.Operation, nat), false, false, false, false},
		{ty(api.List), false, true, true, true},
		{ty(api.Map, list), false, true, true, true},
		{under(500, nat), true, true, true, true},
		{under(500, list), false, true, true, true},
		{under(500, tick), false, false, false, true},
		{under(500, op), false, false, false, false},
		{under(500, lam), false, true, false, true},
		{under(500, ty(16)), false, true, true, true},
		{pairs(1000), true, true, true, true},
		{ty(api.Pair, pairs(1000), op), false, false, false, false},
		{ty(api.Pair, tick, pairs(1000)), false, false, false, true},
	} {
		said := [4]bool{Comparable(x.t), Copied(x.t), Packed(x.t), Stored(x.t)}
		if want := [4]bool{x.comparable, x.copied, x.packed, x.stored}; said != want {
			t.Errorf("%v: %v; wanted %v", x.t, said, want)
		}
	}
}

// Types of any depth are among whatever types: little room for calls within calls must do.
func TestSaidDeep(t *testing.T) {
	defer debug.SetMaxStack(debug.SetMaxStack(1 << 20))
	const deep = 200000
	plain, ticket, opened := chained(deep, nat), chained(deep, tick), chained(deep, op)
	if !Comparable(plain) || !Copied(plain) || !Packed(plain) || !Stored(plain) || Good(plain) {
		t.Error("deep numbers")
	}
	if Comparable(ticket) || Copied(ticket) || Packed(ticket) || !Stored(ticket) || Good(ticket) {
		t.Error("deep tickets")
	}
	if Comparable(opened) || Copied(opened) || Packed(opened) || Stored(opened) || Good(opened) {
		t.Error("deep operations")
	}
	if Same(plain, ticket) || Same(ticket, opened) || !Same(plain, chained(deep, nat)) || Same(plain, chained(deep+1, nat)) {
		t.Error("deep types that are alike, or not")
	}
	n := api.Node{Kind: api.Prim, P: api.Nat}
	for range deep {
		n = api.Node{Kind: api.Prim, P: api.Option, Args: []api.Node{n}}
	}
	if x, e := Parse(n); !bareType(x) || e != api.ErrForm {
		t.Errorf("Parse of a deep tree: %v, %d", x, e)
	}
	if n, e := Node(plain); !bareNode(n) || e != api.ErrForm {
		t.Errorf("Node of a deep type: %v, %d", n, e)
	}
}

// Second opinions, as the chapter says it, for small types of all shapes.

// inside are the numbers of a type and of all in it; what a lambda takes and gives is left out if it is shut.
func inside(t api.Type, shut bool) []int {
	list := []int{t.T}
	if t.T == api.Lambda && shut {
		return list
	}
	for _, arg := range t.Args {
		list = append(list, inside(arg, shut)...)
	}
	return list
}

func hasOne(list []int, of ...int) bool {
	return slices.ContainsFunc(list, func(n int) bool { return slices.Contains(of, n) })
}

func saysComparable(t api.Type) bool {
	for _, n := range inside(t, false) {
		if !slices.Contains([]int{api.Unit, api.Bool, api.Integer, api.Nat, api.Mutez, api.String, api.Address, api.Option, api.Pair, api.Or}, n) {
			return false
		}
	}
	return true
}

func saysGood(t api.Type) bool {
	n, known := wantParts[t.T]
	if !known || n != len(t.Args) {
		return false
	}
	for i, arg := range t.Args {
		compared := t.T == api.Ticket || t.T == api.Map && i == 0
		if !saysGood(arg) || compared && !saysComparable(arg) {
			return false
		}
	}
	return true
}

func alike(a, b api.Type) bool {
	if a.T != b.T || len(a.Args) != len(b.Args) {
		return false
	}
	for i := range a.Args {
		if !alike(a.Args[i], b.Args[i]) {
			return false
		}
	}
	return true
}

func agrees(t *testing.T, x api.Type) {
	t.Helper()
	if Good(x) != saysGood(x) {
		t.Errorf("Good(%v): %v", x, Good(x))
	}
	if Comparable(x) != saysComparable(x) {
		t.Errorf("Comparable(%v): %v", x, Comparable(x))
	}
	if Copied(x) == hasOne(inside(x, true), api.Ticket, api.Operation) {
		t.Errorf("Copied(%v): %v", x, Copied(x))
	}
	if Packed(x) == hasOne(inside(x, false), api.Operation, api.Lambda, api.Ticket) {
		t.Errorf("Packed(%v): %v", x, Packed(x))
	}
	if Stored(x) == hasOne(inside(x, true), api.Operation) {
		t.Errorf("Stored(%v): %v", x, Stored(x))
	}
}

// numbers are those of types, and some that are none.
var numbers = []int{-1, 0, 1, 2, 3, 4, 5, 6, 7, 8, 9, 10, 11, 12, 13, 14, 15, 16, api.DPair}

func TestAgreeSmall(t *testing.T) {
	for _, x := range numbers {
		agrees(t, ty(x))
		for _, y := range numbers {
			agrees(t, ty(x, ty(y)))
			for _, z := range numbers {
				agrees(t, ty(x, ty(y), ty(z)))
				agrees(t, ty(x, ty(y, ty(z))))
				agrees(t, ty(x, ty(y), ty(z), nat))
				agrees(t, ty(x, ty(y, ty(z), nat), unit))
				agrees(t, ty(x, nat, ty(y, nat, ty(z))))
			}
		}
	}
}

// someType is a type that is mostly good, and at most so deep.
func someType(r *rand.Rand, depth int) api.Type {
	t := ty(1 + r.Intn(15))
	if depth == 1 {
		t.T = 1 + r.Intn(8)
	}
	n := wantParts[t.T]
	if r.Intn(40) == 0 {
		t.T = numbers[r.Intn(len(numbers))]
	}
	if r.Intn(40) == 0 {
		n = r.Intn(4)
	}
	for range n {
		if depth > 1 {
			t.Args = append(t.Args, someType(r, depth-1))
		}
	}
	return t
}

func TestAgreeMany(t *testing.T) {
	r := rand.New(rand.NewSource(3))
	goods := 0
	for range 20000 {
		x, y := someType(r, 5), someType(r, 3)
		agrees(t, x)
		if Same(x, y) != alike(x, y) || !Same(x, copied(x)) {
			t.Errorf("Same of %v and %v: %v", x, y, Same(x, y))
		}
		n, e := Node(x)
		if !saysGood(x) {
			if !bareNode(n) || e != api.ErrForm {
				t.Errorf("Node(%v): %v, %d", x, n, e)
			}
			if back, e := Parse(treeOf(x)); !bareType(back) || e != api.ErrForm {
				t.Errorf("Parse(%v): %v, %d", treeOf(x), back, e)
			}
			continue
		}
		goods++
		if back, f := Parse(n); e != api.OK || f != api.OK || !alike(back, x) {
			t.Errorf("%v there and back: %v, %d, %d", x, back, e, f)
		}
	}
	if goods < 1000 {
		t.Errorf("only %d of the types were good", goods)
	}
}

// copied is a type like another one, that shares nothing with it.
func copied(t api.Type) api.Type {
	args := make([]api.Type, len(t.Args))
	for i, arg := range t.Args {
		args[i] = copied(arg)
	}
	return api.Type{T: t.T, Args: args}
}

func TestHandedInStays(t *testing.T) {
	args := append(make([]api.Type, 0, 4), nat, ty(api.Map, text, list))
	spare := args[:4]
	spare[2], spare[3] = op, tick
	x := ty(api.Pair, args...)
	Good(x)
	Same(x, x)
	Comparable(x)
	Copied(x)
	Packed(x)
	Stored(x)
	if n, e := Node(x); e != api.OK || len(n.Args) != 2 {
		t.Errorf("Node: %v, %d", n, e)
	}
	if want := []api.Type{nat, ty(api.Map, text, list), op, tick}; !reflect.DeepEqual(spare, want) {
		t.Errorf("what was handed in is now %v", spare)
	}
}
