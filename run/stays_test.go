package run

import (
	"math/rand"
	"reflect"
	"runtime/debug"
	"testing"

	"touchstone/api"
	"touchstone/value"
)

func similar(a, b api.Value) bool { return value.Same(a, b) }

// roomy* are copies whose lists all have spare room with something in it.

func roomyValues(list []api.Value) []api.Value {
	room := make([]api.Value, len(list)+2)
	for i := range room {
		room[i] = api.Value{K: -1, S: "spare"}
	}
	for i, v := range list {
		v.Args, v.Types, v.Code = roomyValues(v.Args), roomyTypes(v.Types), roomyNodes(v.Code)
		room[i] = v
	}
	return room[:len(list)]
}

func roomyTypes(list []api.Type) []api.Type {
	room := make([]api.Type, len(list)+2)
	for i := range room {
		room[i].T = -1
	}
	for i, t := range list {
		room[i] = api.Type{T: t.T, Args: roomyTypes(t.Args)}
	}
	return room[:len(list)]
}

func roomyNodes(list []api.Node) []api.Node {
	room := make([]api.Node, len(list)+2)
	for i := range room {
		room[i].Kind = -1
	}
	for i, n := range list {
		n.Args = roomyNodes(n.Args)
		room[i] = n
	}
	return room[:len(list)]
}

// memory collects where the elements of lists lie, their spare room among them, and what is there.
type memory struct {
	places map[any]int
	found  []any
}

func (m *memory) values(list []api.Value) {
	for i := range list[:cap(list)] {
		v := &list[:cap(list)][i]
		m.places[v]++
		m.found = append(m.found, v.K, v.N, v.A, v.S, len(v.Args), len(v.Types), len(v.Code))
		m.values(v.Args)
		m.types(v.Types)
		m.nodes(v.Code)
	}
}

func (m *memory) types(list []api.Type) {
	for i := range list[:cap(list)] {
		t := &list[:cap(list)][i]
		m.places[t]++
		m.found = append(m.found, t.T, len(t.Args))
		m.types(t.Args)
	}
}

func (m *memory) nodes(list []api.Node) {
	for i := range list[:cap(list)] {
		n := &list[:cap(list)][i]
		m.places[n]++
		m.found = append(m.found, n.Kind, n.N, n.P, n.S, len(n.Args))
		m.nodes(n.Args)
	}
}

func memoryOf(values []api.Value, types []api.Type, nodes []api.Node) *memory {
	m := &memory{places: map[any]int{}}
	m.values(values)
	m.types(types)
	m.nodes(nodes)
	return m
}

// testStays: what is handed in stays as it is, its spare room, too, and what is answered is in memory of its own.
func testStays(t *testing.T, code api.Node, types []api.Type, stack []api.Value, gas int) {
	t.Helper()
	code.Args, types, stack = roomyNodes(code.Args), roomyTypes(types), roomyValues(stack)
	before := memoryOf(stack, types, code.Args)
	r := Run(env, code, types, stack, gas)
	if after := memoryOf(stack, types, code.Args); !reflect.DeepEqual(after.found, before.found) {
		t.Fatalf("%s on %s: what was handed in is changed", shown(code), shownTyped(types, stack))
	}
	answered := memoryOf(r.Stack, nil, nil)
	answered.values([]api.Value{r.Said})
	for place, n := range answered.places {
		if n > 1 || before.places[place] > 0 {
			t.Fatalf("%s on %s: memory is shared", shown(code), shownTyped(types, stack))
		}
	}
}

func TestStays(t *testing.T) {
	for _, x := range []struct{ from, code string }{
		{"(list nat) {1; 2} : (map nat string) {}", ""},
		{"(list nat) {1; 2}", "DUP 1"},
		{"(list nat) {1; 2}", "DUP 1; PAIR; DUP 1"},
		{"nat 3 : (list nat) {1; 2}", "DIP {DUP 1}; CONS; PAIR"},
		{"(list nat) {1; 2; 3}", "DUP 1; IFCONS {DROP} {NIL nat}; PUSH nat 4; CONS"},
		{`nat 1 : (option string) (DSome "x") : (map nat string) {DElt 0 "a"; DElt 2 "b"}`, "DIG 2; DUP 1; DIP {DUG 2; UPDATE}"},
		{`nat 2 : (option string) (DSome "x") : (map nat string) {DElt 0 "a"; DElt 2 "b"}`, "UPDATE"},
		{`nat 0 : (option string) DNone : (map nat string) {DElt 0 "a"; DElt 2 "b"}`, "UPDATE"},
		{"(lambda nat (list nat)) {DROP; PUSH (list nat) {1; 2}}", "DUP 1; PUSH nat 1; EXEC; DUP 1"},
		{"", "LAMBDA nat (list nat) {DROP; PUSH (list nat) {1; 2}}; DUP 1"},
		{"(ticket (pair nat nat)) (Ticket 1 3 (DPair 4 5)) : (pair nat nat) (DPair 1 2)", "READ; DUG 2; SPLIT"},
		{"(pair nat nat) (DPair 4 5) : nat 3", "DUP 1; DIP {TICKET}"},
		{"(list nat) {1} : mutez 1 : address 1", "TRANSFER (list nat)"},
		{"operation (Operation 1 2 (lambda nat (list nat)) {DROP; NIL nat})", ""},
		{"(pair nat (list nat)) (DPair 4 {5})", "FAILWITH"},
		{"(list (list nat)) {{1}; {2; 3}} : (list (list nat)) {}", "ITER {CONS}"},
		{"(list nat) {1} : (list nat) {2} : (list nat) {3}", "DIG 2; DUG 1; SWAP; DIP {DIP {PUSH nat 1; CONS}}"},
	} {
		types, stack := stackOf(x.from)
		if r := Run(env, codeOf(x.code), types, stack, 99); r.Code != api.OK && r.Code != api.ErrFail {
			t.Errorf("%s on %s: %s", x.code, x.from, errorNames[r.Code])
		}
		testStays(t, codeOf(x.code), types, stack, 99)
	}
	m := &maker{rand.New(rand.NewSource(62))}
	for range 1000 {
		types := m.types()
		list, _ := m.row(types, 2)
		testStays(t, seq(list...), types, m.values(types), 200)
	}
}

// Operations of operations may be of any depth: little room for calls within calls must do.
func TestDeep(t *testing.T) {
	defer debug.SetMaxStack(debug.SetMaxStack(1 << 20))
	const deep = 200000
	types, last := stackOf("operation (Operation 1 2 nat 3)")
	ops := make([]api.Value, deep+1)
	for i := range deep {
		ops[i] = api.Value{K: api.Operation, Args: ops[i+1 : i+2], Types: types}
	}
	ops[deep] = last[0]
	for code, want := range map[string]api.Errno{"": api.OK, "DUG 0": api.OK, "SOME": api.ErrBig, "DROP": api.OK, "NIL operation; SWAP; CONS": api.ErrBig} {
		r := Run(env, codeOf(code), types, ops[:1], 99)
		if r.Code != want || len(r.Stack) > 0 && !value.Same(r.Stack[0], ops[0]) {
			t.Errorf("%s: %s", code, errorNames[r.Code])
		}
	}
}

// Frames in frames: rows as deep as a tree may have them, and lambdas that go through lambdas.
func TestDeepRows(t *testing.T) {
	code := codeOf("PUSH nat 1; ADD")
	for range 20 {
		code = seq(code)
	}
	types, stack := stackOf("nat 1")
	if r := Run(env, code, types, stack, 2); answer(r) != "2" {
		t.Errorf("%+v", r)
	}
	// Each lambda takes one off, goes through the next one, and lays one on.
	row := codeOf("PUSH nat 1; ADD")
	for range 6 {
		row = seq(prim(api.LAMBDA, prim(api.Nat), prim(api.Nat), row), prim(api.SWAP), prim(api.EXEC), codeOf("PUSH nat 1; ADD"))
	}
	if r := Run(env, row, types, stack, 99); answer(r) != "8" || r.Gas != 32 {
		t.Errorf("%+v", r)
	}
}
