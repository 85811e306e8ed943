package value

import (
	"math"
	"math/rand"
	"slices"
	"strings"
	"testing"

	"touchstone/api"
)

// sample is a type and a value.
type sample struct {
	t api.Type
	v api.Value
}

var longest = strings.Repeat("x", api.MaxText)

func zero(int) api.Value { return nat(0) }

// nodes are code that means nothing: a value does not hang on it.
var nodes = []api.Node{{}, {Kind: -5, N: math.MinInt, S: strings.Repeat("x", 999)}, {Kind: api.Seq, Args: []api.Node{{Kind: 9}}}}

// samples are values of their types: of every type, and at the edges.
func samples() []sample {
	return []sample{
		{unitT, unit},
		{boolT, val(api.Bool, 0)}, {boolT, val(api.Bool, 1)},
		{intT, val(api.Integer, 0)}, {intT, val(api.Integer, -1)}, {intT, val(api.Integer, api.MaxInt)}, {intT, val(api.Integer, -api.MaxInt)},
		{natT, nat(0)}, {natT, nat(1)}, {natT, nat(api.MaxInt)},
		{mutezT, val(api.Mutez, 0)}, {mutezT, val(api.Mutez, api.MaxInt)},
		{textT, text("")}, {textT, text("a\x00\xff")}, {textT, text(longest)},
		{addrT, val(api.Address, 0)}, {addrT, val(api.Address, 11)},
		{ty(api.Option, natT), nothing}, {ty(api.Option, natT), some(nat(3))}, {ty(api.Option, ty(api.Option, natT)), some(nothing)},
		{ty(api.Option, opT), nothing}, {ty(api.Option, tickT), some(ticket(0, 1, text("")))},
		{listT, val(api.List, 0)}, {listT, asList(1, zero)}, {listT, asList(24, zero)}, {listT, asList(3, func(i int) api.Value { return nat(9 - i) })},
		{ty(api.List, listT), asList(24, func(i int) api.Value { return asList(i, nat) })},
		{ty(api.List, opT), asList(2, func(i int) api.Value { return sent(i, i, natT, nat(i)) })},
		{ty(api.Pair, natT, textT), both(nat(1), text("a"))}, {ty(api.Pair, listT, boolT), both(asList(2, nat), val(api.Bool, 1))},
		{ty(api.Or, natT, textT), left(nat(1))}, {ty(api.Or, natT, textT), right(text("a"))}, {ty(api.Or, natT, natT), right(nat(2))},
		{ty(api.Or, opT, unitT), right(unit)},
		{ty(api.Map, natT, natT), val(api.Map, 0)}, {ty(api.Map, natT, natT), asMap(1, zero)}, {ty(api.Map, natT, natT), asMap(24, zero)},
		{mapT, val(api.Map, 0, both(nat(3), text("b")), both(nat(4), text("a")), both(nat(100), text("")))},
		{ty(api.Map, textT, unitT), val(api.Map, 0, both(text(""), unit), both(text("B"), unit), both(text("a"), unit), both(text("aa"), unit))},
		{ty(api.Map, ty(api.Option, natT), unitT), val(api.Map, 0, both(nothing, unit), both(some(nat(0)), unit), both(some(nat(1)), unit))},
		{ty(api.Map, ty(api.Or, natT, natT), unitT), val(api.Map, 0, both(left(nat(5)), unit), both(right(nat(1)), unit))},
		{ty(api.Map, ty(api.Pair, natT, natT), unitT), val(api.Map, 0, both(both(nat(1), nat(9)), unit), both(both(nat(2), nat(1)), unit), both(both(nat(2), nat(2)), unit))},
		{ty(api.Map, unitT, tickT), val(api.Map, 0, both(unit, ticket(1, 2, text("x"))))},
		{ty(api.Map, natT, ty(api.Map, natT, natT)), asMap(24, func(i int) api.Value { return asMap(i, nat) })},
		{lamT, code(natT, textT)}, {lamT, code(natT, textT, nodes...)}, {ty(api.Lambda, opT, tickT), code(opT, tickT, nodes...)},
		{ty(api.Lambda, lamT, lamT), code(lamT, lamT)},
		{tickT, ticket(0, 1, text("a"))}, {tickT, ticket(11, api.MaxInt, text(longest))}, {ty(api.Ticket, ty(api.Pair, natT, boolT)), ticket(4, 5, both(nat(1), val(api.Bool, 1)))},
		{opT, sent(0, 0, unitT, unit)}, {opT, sent(11, api.MaxInt, natT, nat(api.MaxInt))}, {opT, sent(1, 1, opT, sent(2, 2, natT, nat(2)))},
		{opT, sent(1, 1, ty(api.Pair, opT, tickT), both(sent(2, 2, mapT, val(api.Map, 0)), ticket(1, 1, text(""))))},
		{opT, sent(1, 1, deepest, within(23, nat(4)))}, {opT, sent(1, 1, lamT, code(natT, textT))},
		{deepest, nothing}, {deepest, within(23, nat(5))}, {deepest, within(22, nothing)},
	}
}

// P4.2

func TestHas(t *testing.T) {
	for i, x := range samples() {
		if !Has(x.t, x.v) || !Has(copyOfType(x.t), copyOf(x.v)) {
			t.Errorf("Has of sample %d, %v: false", i, x)
		}
	}
}

// wrongs are values that are not of their types.
func wrongs() []sample {
	longer := text(longest + "x")
	m := func(keys ...int) api.Value {
		v := val(api.Map, 0)
		for _, key := range keys {
			v.Args = append(v.Args, both(nat(key), text("")))
		}
		return v
	}
	return []sample{
		{boolT, val(api.Bool, 2)}, {boolT, val(api.Bool, -1)}, {boolT, val(api.Bool, 1<<32)},
		{intT, val(api.Integer, api.MaxInt+1)}, {intT, val(api.Integer, -api.MaxInt-1)}, {intT, val(api.Integer, math.MaxInt)}, {intT, val(api.Integer, math.MinInt)},
		{natT, nat(-1)}, {natT, nat(api.MaxInt + 1)}, {natT, nat(math.MinInt)}, {natT, nat(math.MaxInt)},
		{mutezT, val(api.Mutez, -1)}, {mutezT, val(api.Mutez, api.MaxInt+1)},
		{textT, longer},
		{addrT, val(api.Address, -1)}, {addrT, val(api.Address, 12)}, {addrT, val(api.Address, math.MinInt)},
		{ty(api.Option, natT), val(api.Option, 0, nat(1), nat(2))}, {ty(api.Option, natT), some(nat(-1))}, {ty(api.Option, natT), some(text("a"))}, {ty(api.Option, natT), nat(1)},
		{ty(api.Option, natT), some(some(nat(1)))}, {ty(api.Option, ty(api.Option, natT)), some(nat(1))},
		{listT, asList(25, zero)}, {listT, asList(1000, zero)}, {listT, asList(24, func(i int) api.Value { return nat(22 - i) })}, {listT, val(api.List, 0, nat(1), text("a"))},
		{listT, val(api.List, 0, text("a"), nat(1))}, {ty(api.List, listT), asList(24, func(i int) api.Value { return asList(i+2, nat) })},
		{ty(api.Pair, natT, textT), both(text("a"), nat(1))}, {ty(api.Pair, natT, textT), val(api.Pair, 0)}, {ty(api.Pair, natT, textT), val(api.Pair, 0, nat(1))},
		{ty(api.Pair, natT, textT), val(api.Pair, 0, nat(1), text("a"), text("b"))}, {ty(api.Pair, natT, textT), both(nat(1), longer)}, {ty(api.Pair, natT, textT), both(nat(-1), text("a"))},
		{ty(api.Or, natT, textT), left(text("a"))}, {ty(api.Or, natT, textT), right(nat(1))}, {ty(api.Or, natT, natT), val(api.Or, 2, nat(1))}, {ty(api.Or, natT, natT), val(api.Or, -1, nat(1))},
		{ty(api.Or, natT, natT), val(api.Or, math.MaxInt, nat(1))}, {ty(api.Or, natT, natT), val(api.Or, 0)}, {ty(api.Or, natT, textT), val(api.Or, 0, nat(1), text("a"))},
		{mapT, m(0, 0)}, {mapT, m(1, 0)}, {mapT, m(0, 1, 1)}, {mapT, m(0, 2, 1)}, {mapT, m(5, 6, 7, 8, 9, 5)}, {mapT, m(1, 1, 2)}, {mapT, m(-1)}, {mapT, m(-1, 0)},
		{ty(api.Map, natT, natT), asMap(25, zero)}, {ty(api.Map, natT, natT), asMap(3, func(i int) api.Value { return nat(1 - i) })},
		{mapT, val(api.Map, 0, nat(1))}, {mapT, val(api.Map, 0, both(text("a"), nat(1)))}, {mapT, val(api.Map, 0, val(api.Pair, 0))}, {mapT, val(api.Map, 0, val(api.Pair, 0, nat(1)))},
		{mapT, val(api.Map, 0, val(api.Pair, 0, nat(1), text("a"), text("a")))}, {mapT, val(api.Map, 0, val(api.Pair, 1, nat(1), text("a")))},
		{mapT, val(api.Map, 0, val(api.List, 0, nat(1), text("a")))}, {mapT, val(api.Map, 0, both(nat(1), longer))},
		{mapT, val(api.Map, 0, api.Value{K: api.Pair, S: "x", Args: []api.Value{nat(1), text("a")}})},
		{mapT, val(api.Map, 0, val(api.Map, 0, nat(1), text("a")))},
		{ty(api.Map, textT, unitT), val(api.Map, 0, both(text("a"), unit), both(text("B"), unit))},
		{ty(api.Map, ty(api.Option, natT), unitT), val(api.Map, 0, both(some(nat(0)), unit), both(nothing, unit))},
		{ty(api.Map, unitT, unitT), val(api.Map, 0, both(unit, unit), both(unit, unit))},
		{ty(api.Map, ty(api.Pair, natT, natT), unitT), val(api.Map, 0, both(both(nat(2), nat(2)), unit), both(both(nat(2), nat(1)), unit))},
		{ty(api.List, mapT), val(api.List, 0, m(1, 2), m(2, 1))}, {ty(api.Map, natT, mapT), val(api.Map, 0, both(nat(0), m(2, 1)), both(nat(1), m(1)))},
		{lamT, code(textT, natT)}, {lamT, code(natT, natT)}, {lamT, api.Value{K: api.Lambda}}, {lamT, api.Value{K: api.Lambda, Types: []api.Type{natT}}},
		{lamT, api.Value{K: api.Lambda, Types: []api.Type{natT, textT, textT}}}, {ty(api.Lambda, listT, natT), code(ty(api.List, textT), natT)},
		{lamT, code(ty(api.Nat, natT), textT)}, {lamT, code(natT, under(1000, textT))},
		{lamT, api.Value{K: api.Lambda, Types: []api.Type{natT, textT}, Args: []api.Value{nat(1), text("a")}}},
		{tickT, ticket(0, 0, text("a"))}, {tickT, ticket(0, -1, text("a"))}, {tickT, ticket(0, api.MaxInt+1, text("a"))}, {tickT, ticket(-1, 1, text("a"))}, {tickT, ticket(12, 1, text("a"))},
		{tickT, ticket(0, 1, nat(1))}, {tickT, ticket(0, 1, longer)}, {tickT, api.Value{K: api.Ticket, N: 1}}, {tickT, api.Value{K: api.Ticket, N: 1, Args: []api.Value{text("a"), text("a")}}},
		{opT, sent(-1, 0, natT, nat(0))}, {opT, sent(12, 0, natT, nat(0))}, {opT, sent(0, -1, natT, nat(0))}, {opT, sent(0, api.MaxInt+1, natT, nat(0))},
		{opT, sent(0, 0, natT, text("a"))}, {opT, sent(0, 0, natT, nat(-1))}, {opT, api.Value{K: api.Operation}}, {opT, api.Value{K: api.Operation, Args: []api.Value{unit}}},
		{opT, api.Value{K: api.Operation, Types: []api.Type{unitT}}}, {opT, api.Value{K: api.Operation, Types: []api.Type{unitT, unitT}, Args: []api.Value{unit, unit}}},
		{opT, api.Value{K: api.Operation, Types: []api.Type{unitT, unitT}, Args: []api.Value{unit}}}, {opT, api.Value{K: api.Operation, Types: []api.Type{unitT}, Args: []api.Value{unit, unit}}},
		{opT, sent(0, 0, api.Type{}, api.Value{})}, {opT, sent(0, 0, ty(api.Map, listT, natT), val(api.Map, 0))}, {opT, sent(0, 0, under(24, natT), nothing)},
		{opT, sent(0, 0, ty(api.Nat, natT), nat(0))}, {opT, sent(0, 0, opT, sent(0, 0, opT, nat(1)))}, {opT, sent(1, 1, mapT, m(2, 1))},
		{deepest, within(24, nat(5))}, {deepest, within(23, nothing)}, {deepest, within(23, nat(-5))},
	}
}

func TestHasNot(t *testing.T) {
	for i, x := range wrongs() {
		if Has(x.t, x.v) {
			t.Errorf("Has of wrong %d, %v: true", i, x)
		}
		if Has(ty(api.Option, x.t), some(x.v)) || Has(ty(api.Pair, natT, x.t), both(nat(1), x.v)) || Has(ty(api.Map, natT, x.t), val(api.Map, 0, both(nat(1), x.v))) {
			t.Errorf("Has of wrong %d, %v, within another: true", i, x)
		}
		if Has(ty(api.List, x.t), val(api.List, 0, x.v)) || Has(ty(api.Or, natT, x.t), right(x.v)) || Has(opT, sent(0, 0, x.t, x.v)) {
			t.Errorf("Has of wrong %d, %v, within another: true", i, x)
		}
	}
}

func TestHasKind(t *testing.T) {
	for _, x := range samples() {
		for k := -2; k < 30; k++ {
			v := x.v
			v.K = k
			if Has(x.t, v) != (k == x.t.T) {
				t.Errorf("Has(%v, %v): %v", x.t, v, k != x.t.T)
			}
		}
		v := x.v
		v.K += 1 << 32
		if Has(x.t, v) {
			t.Errorf("Has(%v, %v): true", x.t, v)
		}
	}
}

// Something where there should be nothing, by the fields that the chapter gives to each type.
func TestHasNothingElse(t *testing.T) {
	inN := []int{api.Bool, api.Integer, api.Nat, api.Mutez, api.Address, api.Operation, api.Or, api.Ticket}
	for _, x := range samples() {
		k := x.t.T
		for _, y := range []struct {
			what   string
			has    []int
			change func(v *api.Value)
		}{
			{"N 1", inN, func(v *api.Value) { v.N = 1 }},
			{"N -1", inN, func(v *api.Value) { v.N = -1 }},
			{"A 1", []int{api.Operation, api.Ticket}, func(v *api.Value) { v.A = 1 }},
			{"A -1", []int{}, func(v *api.Value) { v.A = -1 }},
			{"A 12", []int{}, func(v *api.Value) { v.A = 12 }},
			{"a text", []int{api.String}, func(v *api.Value) { v.S = "x" }},
			{"a text of a byte 0", []int{api.String}, func(v *api.Value) { v.S = "\x00" }},
			{"one more", []int{api.Option, api.List, api.Map}, func(v *api.Value) { v.Args = append(slices.Clone(v.Args), unit) }},
			{"another type", []int{}, func(v *api.Value) { v.Types = append(slices.Clone(v.Types), unitT) }},
			{"code", []int{api.Lambda}, func(v *api.Value) { v.Code = []api.Node{{}} }},
		} {
			v := x.v
			y.change(&v)
			if !slices.Contains(y.has, k) && Has(x.t, v) {
				t.Errorf("Has of %v with %s: true", x.v, y.what)
			}
		}
	}
	v := sent(0, 0, natT, nat(1))
	v.A = 5
	w := code(natT, textT)
	w.Code = []api.Node{{}}
	if !Has(opT, v) || !Has(lamT, w) {
		t.Error("what they may have is refused")
	}
}

func TestHasBadType(t *testing.T) {
	for _, x := range []sample{
		{api.Type{}, api.Value{}}, {ty(16), val(16, 0)}, {ty(-1), val(-1, 0)}, {ty(api.DUnit), val(api.DUnit, 0)},
		{ty(api.Nat, natT), nat(1)}, {ty(api.Nat, natT), val(api.Nat, 0, nat(1))}, {ty(api.Unit, unitT), unit},
		{ty(api.Option), nothing}, {ty(api.Option, natT, natT), nothing}, {ty(api.Option, natT, natT), val(api.Option, 0, nat(1), nat(2))},
		{ty(api.List), val(api.List, 0)}, {ty(api.List, natT, natT), val(api.List, 0)},
		{ty(api.Pair), val(api.Pair, 0)}, {ty(api.Pair, natT), val(api.Pair, 0, nat(1))}, {ty(api.Pair, natT, natT, natT), val(api.Pair, 0, nat(1), nat(1), nat(1))},
		{ty(api.Or, natT), left(nat(1))}, {ty(api.Or), val(api.Or, 0)}, {ty(api.Map), val(api.Map, 0)}, {ty(api.Map, natT), val(api.Map, 0)},
		{ty(api.Map, listT, natT), val(api.Map, 0)}, {ty(api.Map, opT, natT), val(api.Map, 0)}, {ty(api.Option, ty(api.Map, tickT, natT)), nothing},
		{ty(api.Lambda), api.Value{K: api.Lambda}}, {ty(api.Lambda, natT), api.Value{K: api.Lambda, Types: []api.Type{natT}}},
		{ty(api.Lambda, ty(16), natT), code(ty(16), natT)},
		{ty(api.Ticket), api.Value{K: api.Ticket, N: 1}}, {ty(api.Ticket, listT), ticket(0, 1, val(api.List, 0))}, {ty(api.Operation, natT), sent(0, 0, natT, nat(1))},
		{ty(api.Option, ty(16)), nothing}, {ty(api.List, ty(api.Nat, natT)), val(api.List, 0)},
		{under(24, natT), nothing}, {under(24, natT), within(24, nat(1))},
	} {
		if Has(x.t, x.v) {
			t.Errorf("Has(%v, %v): true", x.t, x.v)
		}
		if n, e := Node(x.t, x.v); !bareNode(n) || e != api.ErrType {
			t.Errorf("Node(%v, %v): %v, %d", x.t, x.v, n, e)
		}
		if s, e := Pack(x.t, x.v); s != "" || e != api.ErrType {
			t.Errorf("Pack(%v, %v): %q, %d", x.t, x.v, s, e)
		}
	}
}

// Lists that hold themselves are of no type that a value could end at.
func TestHasEnds(t *testing.T) {
	ring := make([]api.Value, 2)
	for i := range ring {
		ring[i] = api.Value{K: api.Pair, Args: ring}
	}
	lists := make([]api.Value, 24)
	for i := range lists {
		lists[i] = api.Value{K: api.List, Args: lists}
	}
	maps := val(api.Map, 0, ring...)
	deepList := natT
	for range 23 {
		deepList = ty(api.List, deepList)
	}
	pairT := ty(api.Pair, natT, ty(api.Pair, natT, natT))
	if Has(pairT, ring[0]) || Has(deepList, lists[0]) || Has(ty(api.Map, ty(api.Pair, natT, natT), natT), maps) || Has(ty(api.Map, natT, natT), maps) {
		t.Error("a list that holds itself")
	}
	if s, e := Told(ring[0]); s != "" || e != api.ErrLong {
		t.Errorf("Told of a list that holds itself: %q, %d", s, e)
	}
	if s, e := Told(lists[0]); s != "" || e != api.ErrLong {
		t.Errorf("Told of a list that holds itself: %q, %d", s, e)
	}
}

// Second opinions, as the chapter says it, and values of all types by chance.

// someType is a good type, at most so deep.
func someType(r *rand.Rand, depth int, compared bool) api.Type {
	from := []int{api.Unit, api.Bool, api.Integer, api.Nat, api.Mutez, api.String, api.Address}
	if !compared {
		from = append(from, api.Operation)
	}
	if depth > 1 {
		from = append(from, api.Option, api.Pair, api.Or, api.Option, api.Pair, api.Or)
		if !compared {
			from = append(from, api.List, api.Map, api.Lambda, api.Ticket, api.List, api.Map)
		}
	}
	t := from[r.Intn(len(from))]
	within := func(compared bool) api.Type { return someType(r, depth-1, compared) }
	switch t {
	case api.Option, api.List:
		return ty(t, within(compared))
	case api.Pair, api.Or, api.Lambda:
		return ty(t, within(compared), within(compared))
	case api.Map:
		return ty(t, within(true), within(false))
	case api.Ticket:
		return ty(t, within(true))
	}
	return ty(t)
}

func oneOf[T any](r *rand.Rand, list ...T) T { return list[r.Intn(len(list))] }

// someValue is a value of a good type.
func someValue(r *rand.Rand, t api.Type) api.Value {
	v := val(t.T, 0)
	amount := oneOf(r, 0, 1, 2, 5, 63, 64, 1000, 8191, 8192, api.MaxInt-1, api.MaxInt)
	put := func(t api.Type) { v.Args = append(v.Args, someValue(r, t)) }
	switch t.T {
	case api.Bool:
		v.N = r.Intn(2)
	case api.Integer:
		v.N = amount * oneOf(r, 1, -1)
	case api.Nat, api.Mutez:
		v.N = amount
	case api.String:
		v.S = oneOf(r, "", "a", "b", "ab", "\xff", "A", strings.Repeat("a", 63), strings.Repeat("a", 64), longest)
	case api.Address:
		v.N = r.Intn(12)
	case api.Operation:
		arg := someType(r, 2, false)
		v = sent(r.Intn(12), amount, arg, someValue(r, arg))
	case api.Option:
		if r.Intn(3) > 0 {
			put(t.Args[0])
		}
	case api.List:
		for range oneOf(r, 0, 0, 1, 2, 3) {
			put(t.Args[0])
		}
	case api.Pair:
		put(t.Args[0])
		put(t.Args[1])
	case api.Or:
		v.N = r.Intn(2)
		put(t.Args[v.N])
	case api.Map:
		for range oneOf(r, 0, 1, 2, 3, 4) {
			put(ty(api.Pair, t.Args...))
		}
		byKey := func(a, b api.Value) int { return orderOf(t.Args[0], a.Args[0], b.Args[0]) }
		slices.SortFunc(v.Args, byKey)
		v.Args = slices.CompactFunc(v.Args, func(a, b api.Value) bool { return byKey(a, b) == 0 })
	case api.Lambda:
		v = code(t.Args[0], t.Args[1], nodes[:r.Intn(3)]...)
	case api.Ticket:
		v = ticket(r.Intn(12), amount+1-amount/api.MaxInt, someValue(r, t.Args[0]))
	}
	return v
}

// spoil changes one thing somewhere in a value, or turns two round; it may be of its type still.
func spoil(r *rand.Rand, v api.Value) api.Value {
	v = copyOf(v)
	at := &v
	for len(at.Args) > 0 && r.Intn(3) > 0 {
		at = &at.Args[r.Intn(len(at.Args))]
	}
	switch r.Intn(9) {
	case 0:
		at.K = r.Intn(17)
	case 1:
		at.N = oneOf(r, -1, 0, 1, 2, 11, 12, api.MaxInt, api.MaxInt+1, -api.MaxInt, -api.MaxInt-1)
	case 2:
		at.A = oneOf(r, -1, 0, 1, 11, 12)
	case 3:
		at.S = oneOf(r, "", "x", longest, longest+"x")
	case 4:
		at.Args = append(at.Args, someValue(r, someType(r, 2, true)))
	case 5:
		if len(at.Args) > 0 {
			at.Args = at.Args[1:]
		}
	case 6:
		if n := len(at.Args); n > 1 {
			at.Args[0], at.Args[n-1] = at.Args[n-1], at.Args[0]
		}
	case 7:
		at.Types = append(at.Types, natT)
	case 8:
		at.Code = append(at.Code, api.Node{})
	}
	return v
}

// says is as Has should be of good types, with calls within calls.
func says(t api.Type, v api.Value) bool {
	left := v
	left.K = 0
	if v.K != t.T {
		return false
	}
	amount := v.N >= 0 && v.N <= api.MaxInt
	ok := true
	switch t.T {
	case api.Bool:
		ok = v.N == 0 || v.N == 1
	case api.Integer:
		ok = v.N >= -api.MaxInt && v.N <= api.MaxInt
	case api.Nat, api.Mutez:
		ok = amount
	case api.Address:
		ok = v.N >= 0 && v.N <= 11
	case api.String:
		ok = len(v.S) <= 200
		left.S = ""
	case api.Operation:
		ok = amount && v.A >= 0 && v.A <= 11 && len(v.Types) == 1 && len(v.Args) == 1 && saysGood(v.Types[0]) && says(v.Types[0], v.Args[0])
		left.A, left.Args, left.Types = 0, nil, nil
	case api.Option:
		ok = len(v.Args) == 0 || len(v.Args) == 1 && says(t.Args[0], v.Args[0])
		left.Args = nil
	case api.List, api.Map:
		ok = len(v.Args) <= 24
		for i := 0; ok && i < len(v.Args); i++ {
			if t.T == api.List {
				ok = says(t.Args[0], v.Args[i])
			} else {
				ok = says(ty(api.Pair, t.Args...), v.Args[i]) && (i == 0 || orderOf(t.Args[0], v.Args[i-1].Args[0], v.Args[i].Args[0]) < 0)
			}
		}
		left.Args = nil
	case api.Pair:
		ok = len(v.Args) == 2 && says(t.Args[0], v.Args[0]) && says(t.Args[1], v.Args[1])
		left.Args = nil
	case api.Or:
		ok = len(v.Args) == 1 && (v.N == 0 && says(t.Args[0], v.Args[0]) || v.N == 1 && says(t.Args[1], v.Args[0]))
		left.Args = nil
	case api.Lambda:
		ok = slices.EqualFunc(v.Types, t.Args, alikeTypes)
		left.Types, left.Code = nil, nil
	case api.Ticket:
		ok = amount && v.N > 0 && v.A >= 0 && v.A <= 11 && len(v.Args) == 1 && says(t.Args[0], v.Args[0])
		left.A, left.Args = 0, nil
	}
	if slices.Contains([]int{api.Bool, api.Integer, api.Nat, api.Mutez, api.Address, api.Operation, api.Or, api.Ticket}, t.T) {
		left.N = 0
	}
	return ok && bare(left)
}

// saysGood is whether a small type is good.
func saysGood(t api.Type) bool {
	want := map[int]int{api.Option: 1, api.List: 1, api.Ticket: 1, api.Pair: 2, api.Or: 2, api.Map: 2, api.Lambda: 2}[t.T]
	if t.T < 1 || t.T > 15 || len(t.Args) != want {
		return false
	}
	for i, arg := range t.Args {
		if !saysGood(arg) || (t.T == api.Ticket || t.T == api.Map && i == 0) && !saysCompared(arg) {
			return false
		}
	}
	return true
}

func saysCompared(t api.Type) bool {
	return !slices.Contains([]int{api.Operation, api.List, api.Map, api.Lambda, api.Ticket}, t.T) &&
		!slices.ContainsFunc(t.Args, func(arg api.Type) bool { return !saysCompared(arg) })
}

func TestHasAgrees(t *testing.T) {
	r := rand.New(rand.NewSource(42))
	yes, no := 0, 0
	for range 20000 {
		x := someType(r, 1+r.Intn(4), false)
		v := someValue(r, x)
		if !Has(x, v) || !says(x, v) {
			t.Fatalf("Has(%v, %v): false", x, v)
		}
		if Size(v) != sizeOf(v) {
			t.Fatalf("Size(%v): %d", v, Size(v))
		}
		for range 1 + r.Intn(2) {
			v = spoil(r, v)
		}
		want := says(x, v)
		if Has(x, v) != want {
			t.Fatalf("Has(%v, %v): %v", x, v, !want)
		}
		if want {
			yes++
		} else {
			no++
		}
		if y := someType(r, 2, false); Has(y, v) != says(y, v) {
			t.Fatalf("Has(%v, %v): %v", y, v, !says(y, v))
		}
	}
	if yes < 1000 || no < 1000 {
		t.Errorf("%d are of their types, %d are not", yes, no)
	}
}
