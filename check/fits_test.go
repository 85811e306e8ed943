package check

import (
	"runtime/debug"
	"slices"
	"strings"
	"testing"

	"touchstone/api"
)

// lambda is a value with code that a text tells.
func lambda(from, to, code string) api.Value {
	return api.Value{K: api.Lambda, Types: []api.Type{typeOf(from), typeOf(to)}, Code: rowOf(code).Args}
}

func val(k, n int, args ...api.Value) api.Value { return api.Value{K: k, N: n, Args: args} }

func nat(n int) api.Value { return val(api.Nat, n) }

func sent(t string, v api.Value) api.Value {
	return api.Value{K: api.Operation, A: 3, N: 4, Args: []api.Value{v}, Types: typesOf(t)}
}

// lambdas are of the types that they tell, as Has says, and fit them or not.
var lambdas = []struct {
	from, to, code string
	fits           bool
}{
	{"nat", "nat", "", true},
	{"nat", "integer", "INT", true},
	{"nat", "nat", "FAILWITH", true},
	{"nat", "ticket nat", "FAILWITH", true},
	{"ticket nat", "operation", "DROP; PUSH nat 1; FAILWITH", true},
	{"unit", "pair address mutez", "DROP; AMOUNT; SELF; PAIR", true},
	{"ticket nat", "ticket nat", "READ; DROP", true},
	{"pair (ticket nat) (ticket nat)", "option (ticket nat)", "JOIN", true},
	{"nat", "lambda nat nat", "DROP; LAMBDA nat nat {}", true},
	{"pair nat (lambda nat integer)", "integer", "UNPAIR; EXEC", true},
	{"bool", "nat", "IF {PUSH nat 1} {PUSH nat 2; FAILWITH}", true},
	{"nat", "nat", "{}; {{}}", true},
	{"unit", "nat", "DROP; PUSH nat 84", true},
	{"nat", "nat", "DROP", false},
	{"nat", "nat", "DUP 1", false},
	{"nat", "nat", "INT", false},
	{"nat", "integer", "", false},
	{"nat", "nat", "CAR", false},
	{"nat", "nat", "FAILWITH; FAILWITH", false},
	{"nat", "nat", "FAILWITH; PUSH nat 1", false},
	{"nat", "nat", "5", false},
	{"nat", "nat", "nat", false},
	{"nat", "nat", "DUP", false},
	{"ticket nat", "ticket nat", "DUP 1; DROP", false},
	{"nat", "nat", "LAMBDA nat integer {}; DROP", false},
	{"bool", "nat", "IF {PUSH nat 1} {PUSH integer 1}", false},
	// No TICKET is in it, though it would mean something.
	{"pair nat nat", "option (ticket nat)", "UNPAIR; TICKET", false},
	{"pair nat nat", "option (ticket nat)", "{{UNPAIR; {TICKET}}}", false},
	{"pair nat nat", "unit", "UNPAIR; TICKET; DROP; PUSH unit DUnit", false},
	{"pair nat nat", "unit", "UNPAIR; TICKET; DROP; PUSH nat 1; FAILWITH", false},
	{"bool", "nat", "IF {PUSH nat 1} {PUSH nat 2; DUP 1; TICKET; DROP; PUSH nat 1}", false},
	{"nat", "nat", "DIP {PUSH nat 2; DUP 1; TICKET; DROP}", false},
}

// P5.2

func TestFitsLambda(t *testing.T) {
	for _, x := range lambdas {
		v := lambda(x.from, x.to, x.code)
		of := wrap(api.Lambda, v.Types...)
		if got := Fits(of, v); got != x.fits {
			t.Errorf("Fits of {%s} from %s to %s: %v", x.code, x.from, x.to, got)
		}
		fine := lambda(x.from, x.to, "DROP; PUSH nat 1; FAILWITH")
		if !Fits(of, fine) {
			t.Errorf("Fits of what Fails, from %s to %s: false", x.from, x.to)
		}
		for i, w := range within(of, v, fine) {
			if !Fits(w.t, w.fine) {
				t.Errorf("Fits of case %d without {%s}: false", i, x.code)
			}
			if got := Fits(w.t, w.v); got != x.fits {
				t.Errorf("Fits of case %d with {%s}: %v", i, x.code, got)
			}
		}
	}
}

// holder is a type, and two values of it.
type holder struct {
	t       api.Type
	v, fine api.Value
}

// within are values that have v in them somewhere, among others like fine, and the same with fine in its place.
func within(of api.Type, v, fine api.Value) []holder {
	number := typeOf("nat")
	pairs := func(v api.Value) api.Value { return val(api.Pair, 0, nat(1), v) }
	var list []holder
	add := func(t api.Type, hold func(api.Value) api.Value) {
		list = append(list, holder{t, hold(v), hold(fine)})
	}
	add(wrap(api.Option, of), func(v api.Value) api.Value { return val(api.Option, 0, v) })
	add(wrap(api.Pair, of, number), func(v api.Value) api.Value { return val(api.Pair, 0, v, nat(1)) })
	add(wrap(api.Pair, number, of), pairs)
	add(wrap(api.Or, of, number), func(v api.Value) api.Value { return val(api.Or, 0, v) })
	add(wrap(api.Or, number, of), func(v api.Value) api.Value { return val(api.Or, 1, v) })
	for i := range 3 {
		add(wrap(api.List, of), func(v api.Value) api.Value {
			items := []api.Value{fine, fine, fine}
			items[i] = v
			return val(api.List, 0, items...)
		})
	}
	add(wrap(api.Map, number, of), func(v api.Value) api.Value {
		return val(api.Map, 0, val(api.Pair, 0, nat(0), fine), pairs(v), val(api.Pair, 0, nat(2), fine))
	})
	send := func(v api.Value) api.Value {
		return api.Value{K: api.Operation, Args: []api.Value{v}, Types: []api.Type{of}}
	}
	add(typeOf("operation"), send)
	add(typeOf("list operation"), func(v api.Value) api.Value { return val(api.List, 0, send(fine), sent("operation", send(v))) })
	add(wrap(api.Option, wrap(api.List, wrap(api.Pair, number, of))), func(v api.Value) api.Value {
		return val(api.Option, 0, val(api.List, 0, pairs(fine), pairs(v), pairs(fine)))
	})
	return list
}

func TestFits(t *testing.T) {
	for _, x := range []struct {
		t    string
		v    api.Value
		fits bool
	}{
		// Without lambdas it is Has.
		{"nat", nat(1), true},
		{"nat", nat(-1), false},
		{"nat", val(api.Integer, 1), false},
		{"list nat", val(api.List, 0, nat(1), nat(2)), true},
		{"list nat", val(api.List, 0, nat(1), nat(-2)), false},
		{"list nat", val(api.List, 0, slices.Repeat([]api.Value{nat(1)}, 24)...), true},
		{"list nat", val(api.List, 0, slices.Repeat([]api.Value{nat(1)}, 25)...), false},
		{"map nat nat", val(api.Map, 0, val(api.Pair, 0, nat(2), nat(1)), val(api.Pair, 0, nat(1), nat(1))), false},
		{"ticket nat", api.Value{K: api.Ticket, N: 1, A: 11, Args: []api.Value{nat(1)}}, true},
		{"ticket nat", api.Value{K: api.Ticket, N: 0, A: 11, Args: []api.Value{nat(1)}}, false},
		{"operation", sent("nat", nat(1)), true},
		{"operation", sent("nat", nat(-1)), false},
		{"option (lambda nat nat)", val(api.Option, 0), true},
		{"list (lambda nat nat)", val(api.List, 0), true},
		{"map (list nat) nat", val(api.Map, 0), false},
		{"pair nat", val(api.Pair, 0, nat(1)), false},
		// A lambda that means something, but of other types, or with more than a lambda has.
		{"lambda nat nat", lambda("nat", "nat", ""), true},
		{"lambda nat integer", lambda("nat", "nat", ""), false},
		{"lambda integer nat", lambda("nat", "nat", ""), false},
		{"lambda nat integer", lambda("nat", "nat", "INT"), false},
		{"nat", lambda("nat", "nat", ""), false},
		{"lambda nat nat", api.Value{K: api.Lambda}, false},
		{"lambda nat nat", api.Value{K: api.Lambda, Types: typesOf("nat")}, false},
		{"lambda nat nat", api.Value{K: api.Lambda, Types: typesOf("nat : nat : nat")}, false},
		{"lambda nat nat", api.Value{K: api.Lambda, N: 1, Types: typesOf("nat : nat")}, false},
		{"lambda nat nat", api.Value{K: api.Lambda, Types: typesOf("nat : nat"), Args: []api.Value{nat(1)}}, false},
	} {
		if got := Fits(typeOf(x.t), x.v); got != x.fits {
			t.Errorf("Fits(%s, %v): %v", x.t, x.v, got)
		}
	}
	for _, bad := range []api.Type{{}, {T: 16}, {T: -1}, {T: api.Lambda}, under(24, typeOf("nat"))} {
		if Fits(bad, api.Value{K: bad.T}) {
			t.Errorf("Fits of the type %v: true", bad)
		}
	}
}

// A lambda's code is a tree as a Seq: with that one at most so deep and so large as trees may be.
func TestFitsLimits(t *testing.T) {
	of := typeOf("lambda nat nat")
	for _, x := range []struct {
		code []api.Node
		fits bool
	}{
		{[]api.Node{rows(23)}, true},
		{[]api.Node{rows(24)}, false},
		{slices.Repeat([]api.Node{seq()}, 299), true},
		{slices.Repeat([]api.Node{seq()}, 300), false},
		{[]api.Node{prim(96)}, false},
		{[]api.Node{{Kind: 9}}, false},
		{[]api.Node{{Kind: api.Seq, N: 1}}, false},
		{[]api.Node{number(api.MaxInt + 1)}, false},
		{rowOf(strings.Repeat("SELF;", 39) + strings.Repeat("DROP;", 39)).Args, true},
		{rowOf(strings.Repeat("SELF;", 40) + strings.Repeat("DROP;", 40)).Args, false},
	} {
		if got := Fits(of, api.Value{K: api.Lambda, Types: of.Args, Code: x.code}); got != x.fits {
			t.Errorf("Fits of %d nodes of code: %v", len(x.code), got)
		}
	}
	// What a lambda takes and gives may be as large as a type may be.
	deep := wrap(api.Lambda, under(22, typeOf("nat")), under(22, typeOf("nat")))
	if !Fits(deep, api.Value{K: api.Lambda, Types: deep.Args}) {
		t.Error("Fits of a lambda of deep types: false")
	}
}

// Operations may have operations, deeper than there is room for calls within calls, and code may be of any depth, or hold itself.
func TestFitsDeep(t *testing.T) {
	defer debug.SetMaxStack(debug.SetMaxStack(1 << 20))
	const deep = 200000
	ops := make([]api.Value, deep+1)
	for i := range deep {
		ops[i] = api.Value{K: api.Operation, Args: ops[i+1 : i+2], Types: typesOf("operation")}
	}
	for _, x := range lambdas[:20] {
		v := lambda(x.from, x.to, x.code)
		ops[deep] = api.Value{K: api.Operation, Args: []api.Value{v}, Types: []api.Type{wrap(api.Lambda, v.Types...)}}
		if got := Fits(typeOf("operation"), ops[0]); got != x.fits {
			t.Errorf("Fits of {%s} far within: %v", x.code, got)
		}
	}
	nodes := make([]api.Node, deep+1)
	for i := range deep {
		nodes[i] = api.Node{Kind: api.Seq, Args: nodes[i+1 : i+2]}
	}
	nodes[deep] = seq()
	if Fits(typeOf("lambda nat nat"), api.Value{K: api.Lambda, Types: typesOf("nat : nat"), Code: nodes[:1]}) {
		t.Error("Fits of deep code: true")
	}
	ring := []api.Node{seq(), seq()}
	ring[0].Args, ring[1].Args = ring, ring
	if Fits(typeOf("lambda nat nat"), api.Value{K: api.Lambda, Types: typesOf("nat : nat"), Code: ring}) {
		t.Error("Fits of code that holds itself: true")
	}
}

// P5.3

func TestScript(t *testing.T) {
	const counter = "UNPAIR; ADD; NIL operation; PAIR"
	const keep = "CDR; NIL operation; PAIR"
	for _, x := range []struct {
		param, store, code string
		e                  api.Errno
	}{
		{"nat", "nat", counter, api.OK},
		{"integer", "integer", counter, api.OK},
		{"mutez", "mutez", counter, api.OK},
		{"nat", "integer", counter, api.OK},
		{"unit", "unit", keep, api.OK},
		{"ticket nat", "list (ticket nat)", "UNPAIR; CONS; NIL operation; PAIR", api.OK},
		{"lambda operation operation", "lambda operation (ticket nat)", keep, api.OK},
		{"nat", "nat", "CAR; FAILWITH", api.OK},
		{"nat", "operation", "CAR; FAILWITH", api.ErrType},
		{"pair nat nat", "option (ticket nat)", "CAR; UNPAIR; TICKET; NIL operation; PAIR", api.OK},
		{"address", "nat", "UNPAIR; DIP {}; AMOUNT; PUSH nat 1; TRANSFER nat; DIP {NIL operation}; CONS; PAIR", api.OK},
		// It does not lead there.
		{"integer", "nat", counter, api.ErrType},
		{"nat", "nat", "", api.ErrType},
		{"nat", "nat", "DROP", api.ErrType},
		{"nat", "nat", "CDR", api.ErrType},
		{"nat", "nat", "CDR; NIL operation; SWAP; PAIR", api.ErrType},
		{"nat", "nat", "CDR; NIL nat; PAIR", api.ErrType},
		{"nat", "nat", "UNPAIR; DIP {NIL operation; PAIR}; SWAP", api.ErrType},
		{"nat", "nat", "CDR; INT; NIL operation; PAIR", api.ErrType},
		{"nat", "nat", "CDR; NIL operation; PAIR; SELF", api.ErrType},
		{"nat", "nat", "CDR; NIL operation; LEFT nat", api.ErrType},
		// Code's errors.
		{"nat", "nat", "UNPAIR; ADD; NIL operation; PAIR 1", api.ErrForm},
		{"nat", "string", counter, api.ErrType},
		{"nat", "nat", "CAR; FAILWITH; DROP", api.ErrForm},
		{"nat", "nat", "5", api.ErrForm},
		{"nat", "nat", strings.Repeat("SELF;", 40), api.ErrFull},
		{"nat", "nat", "CAR;" + strings.Repeat("SOME;", 24), api.ErrLong},
		// Types that are not good, or not kept: ahead of all else.
		{"operation", "nat", keep, api.ErrType},
		{"nat", "operation", keep, api.ErrType},
		{"list operation", "nat", keep, api.ErrType},
		{"nat", "map nat (option operation)", keep, api.ErrType},
		{"nat", "operation", "5", api.ErrType},
		{"operation", "nat", "5", api.ErrType},
		{"map (list nat) nat", "nat", "5", api.ErrType},
		{"nat", "pair nat", "5", api.ErrType},
		{"nat", "ticket operation", keep, api.ErrType},
	} {
		if e := Script(typeOf(x.param), typeOf(x.store), rowOf(x.code)); e != x.e {
			t.Errorf("Script(%s, %s, {%s}): %d, wanted %d", x.param, x.store, x.code, e, x.e)
		}
	}
}

// The pair of both types must be good, too: it is what Code is given, and Code tells what is wrong with the tree first.
func TestScriptEdges(t *testing.T) {
	number, keep := typeOf("nat"), rowOf("CDR; NIL operation; PAIR")
	deep, large := under(23, number), wrap(api.Option, many(149))
	noCode := api.Node{N: 2}
	fails := rowOf("DROP; PUSH nat 1; FAILWITH")
	for i, x := range []struct {
		param, store api.Type
		code         api.Node
		e            api.Errno
	}{
		{under(22, number), under(22, number), keep, api.OK},
		{deep, number, keep, api.ErrType},
		{number, deep, keep, api.ErrType},
		{deep, number, fails, api.ErrType},
		{under(22, number), number, fails, api.OK},
		{number, many(149), keep, api.OK},
		{number, large, keep, api.ErrLong}, // with a list of operations it has one type too many
		{number, large, fails, api.OK},
		{number, many(150), fails, api.ErrType},
		{many(75), many(76), fails, api.ErrType},
		{deep, number, noCode, api.ErrForm},
		{deep, number, api.Node{Kind: 7}, api.ErrKind},
		{deep, number, seq(noCode), api.ErrType},
		{under(24, number), number, api.Node{Kind: 7}, api.ErrType},
		{number, api.Type{}, api.Node{Kind: 7}, api.ErrType},
		{api.Type{T: 16}, number, noCode, api.ErrType},
		{number, number, api.Node{Kind: 7}, api.ErrKind},
		{number, number, noCode, api.ErrForm},
		{number, number, prim(api.CAR), api.ErrForm},
		{number, number, rows(25), api.ErrLong},
		{number, number, seq(noCode, api.Node{N: api.MaxInt + 1}), api.ErrRange},
	} {
		if e := Script(x.param, x.store, x.code); e != x.e {
			t.Errorf("script %d: %d, wanted %d", i, e, x.e)
		}
	}
}
