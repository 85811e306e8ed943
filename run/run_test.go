package run

import (
	"slices"
	"strings"
	"testing"

	"touchstone/api"
	"touchstone/check"
)

var env = api.Env{Self: 5, Sender: 1, Amount: 3, Balance: 9}

// example is code on a stack, what comes of it (see answer), and how many steps that takes.
type example struct {
	from, code, to string
	gas            int
}

// plenty of steps for each example.
const plenty = 5000

func (x example) test(t *testing.T) {
	t.Helper()
	types, stack := stackOf(x.from)
	x.testOn(t, codeOf(x.code), types, stack)
}

func (x example) testOn(t *testing.T, code api.Node, types []api.Type, stack []api.Value) {
	t.Helper()
	r := Run(env, code, types, stack, plenty)
	if got := answer(r); got != x.to || r.Gas != x.gas {
		t.Errorf("%s on %q: %q by %d steps, wanted %q by %d", x.code, x.from, got, r.Gas, x.to, x.gas)
		return
	}
	x.testTypes(t, code, types, r)
	x.testGas(t, code, types, stack)
	x.testBelow(t, code, types, stack)
}

// testTypes: what comes of code is of the types that it was checked to lead to.
func (x example) testTypes(t *testing.T, code api.Node, types []api.Type, r api.Result) {
	t.Helper()
	typed, e := check.Code(code, types)
	if r.Code != api.OK {
		return
	}
	if e != api.OK || typed.Fails || !slices.EqualFunc(typed.Types, r.Stack, check.Fits) {
		t.Errorf("%s on %q: not of its types", x.code, x.from)
	}
}

// testGas: as many steps as it takes will do, fewer will not.
func (x example) testGas(t *testing.T, code api.Node, types []api.Type, stack []api.Value) {
	t.Helper()
	if r := Run(env, code, types, stack, x.gas); answer(r) != x.to || r.Gas != x.gas {
		t.Errorf("%s on %q with just %d steps: %q by %d", x.code, x.from, x.gas, answer(r), r.Gas)
	}
	for gas := range x.gas {
		r := Run(env, code, types, stack, gas)
		if answer(r) != "ErrGas" || r.Gas != gas {
			t.Errorf("%s on %q with %d steps: %q by %d", x.code, x.from, gas, answer(r), r.Gas)
		}
	}
}

// testBelow: rows in rows do the same, for nothing, and what stands below stays there.
func (x example) testBelow(t *testing.T, code api.Node, types []api.Type, stack []api.Value) {
	t.Helper()
	mark := api.Value{K: api.String, S: "below"}
	types = append(slices.Clone(types), api.Type{T: api.String})
	stack = append(slices.Clone(stack), mark)
	r := Run(env, seq(seq(), seq(code)), types, stack, plenty)
	if r.Code == api.OK && len(r.Stack) > 0 && shownStack(r.Stack[len(r.Stack)-1:]) == `"below"` {
		r.Stack = r.Stack[:len(r.Stack)-1]
	} else if r.Code == api.OK {
		t.Errorf("%s on %q, with one more below: %q", x.code, x.from, answer(r))
	}
	if answer(r) != x.to || r.Gas != x.gas {
		t.Errorf("%s on %q, with one more below: %q by %d steps", x.code, x.from, answer(r), r.Gas)
	}
}

func testAll(t *testing.T, list []example) {
	t.Helper()
	for _, x := range list {
		x.test(t)
	}
}

// P6.2, P6.3

func TestMoves(t *testing.T) {
	testAll(t, []example{
		{"", "", "", 0},
		{"", "{}; {{}; {}}", "", 0},
		{`nat 1 : string "a"`, "", `1 : "a"`, 0},
		{`nat 1 : string "a"`, "DROP", `"a"`, 1},
		{"nat 1", "{{DROP}}", "", 1},
		{"(ticket nat) (Ticket 3 4 5)", "DROP", "", 1},
		{`nat 1 : string "a" : nat 2`, "DUP 1", `1 : 1 : "a" : 2`, 1},
		{`nat 1 : string "a" : nat 2`, "DUP 2", `"a" : 1 : "a" : 2`, 1},
		{`nat 1 : string "a" : nat 2`, "DUP 3", `2 : 1 : "a" : 2`, 1},
		{`nat 1 : string "a" : nat 2`, "SWAP", `"a" : 1 : 2`, 1},
		{`nat 1 : string "a" : nat 2`, "DIG 0", `1 : "a" : 2`, 1},
		{`nat 1 : string "a" : nat 2`, "DIG 1", `"a" : 1 : 2`, 1},
		{`nat 1 : string "a" : nat 2 : nat 3`, "DIG 2", `2 : 1 : "a" : 3`, 1},
		{`nat 1 : string "a" : nat 2 : nat 3`, "DIG 3", `3 : 1 : "a" : 2`, 1},
		{`nat 1 : string "a" : nat 2`, "DUG 0", `1 : "a" : 2`, 1},
		{`nat 1 : string "a" : nat 2`, "DUG 1", `"a" : 1 : 2`, 1},
		{`nat 1 : string "a" : nat 2 : nat 3`, "DUG 2", `"a" : 2 : 1 : 3`, 1},
		{`nat 1 : string "a" : nat 2 : nat 3`, "DUG 3", `"a" : 2 : 3 : 1`, 1},
		{"nat 1 : nat 2 : nat 3 : nat 4", "DIG 3; DUG 2; DIG 1; {DUG 3}", "1 : 4 : 3 : 2", 4},
	})
}

func TestPush(t *testing.T) {
	testAll(t, []example{
		{"", "PUSH unit DUnit", "DUnit", 1},
		{"", "PUSH bool DTrue; PUSH bool DFalse", "DFalse : DTrue", 2},
		{"", "PUSH integer -1152921504606846976", "-1152921504606846976", 1},
		{"", "PUSH nat 1152921504606846976", "1152921504606846976", 1},
		{"", "PUSH mutez 7; PUSH address 11", "11 : 7", 2},
		{"", `PUSH string ""; PUSH string "abc"`, `"abc" : ""`, 2},
		{"", "PUSH (option nat) DNone; PUSH (option nat) (DSome 3)", "(DSome 3) : DNone", 2},
		{"", "PUSH (list (list nat)) {{}; {1; 2}}", "{{}; {1; 2}}", 1},
		{"", `PUSH (pair (or nat string) (or nat string)) (DPair (DLeft 1) (DRight "x"))`, `(DPair (DLeft 1) (DRight "x"))`, 1},
		{"", `PUSH (map string nat) {DElt "a" 2; DElt "b" 1}`, `{DElt "a" 2; DElt "b" 1}`, 1},
		{"", "PUSH (option (map nat (list unit))) (DSome {DElt 1 {DUnit}})", "(DSome {DElt 1 {DUnit}})", 1},
	})
}

func TestBinds(t *testing.T) {
	testAll(t, []example{
		{`nat 1 : string "a"`, "PAIR", `(DPair 1 "a")`, 1},
		{`(pair nat string) (DPair 1 "a")`, "UNPAIR", `1 : "a"`, 1},
		{`(pair nat string) (DPair 1 "a")`, "CAR", "1", 1},
		{`(pair nat string) (DPair 1 "a")`, "CDR", `"a"`, 1},
		{"nat 1", "LEFT string", "(DLeft 1)", 1},
		{"nat 1", "RIGHT string", "(DRight 1)", 1},
		{"nat 1", "SOME", "(DSome 1)", 1},
		{"nat 1", "NONE nat", "DNone : 1", 1},
		{"(ticket nat) (Ticket 3 4 5) : nat 1", "PAIR; SOME; LEFT nat", "(DLeft (DSome (DPair (Ticket 3 4 5) 1)))", 3},
	})
}

func TestChooses(t *testing.T) {
	testAll(t, []example{
		{"(or nat string) (DLeft 4)", "IFLEFT {PUSH nat 1; ADD} {SIZE}", "5", 3},
		{`(or nat string) (DRight "abc")`, "IFLEFT {PUSH nat 1; ADD} {SIZE}", "3", 2},
		{"(or nat nat) (DLeft 4)", "IFLEFT {} {DROP; PUSH nat 0}", "4", 1},
		{"(or nat nat) (DRight 4)", "IFLEFT {} {DROP; PUSH nat 0}", "0", 3},
		{"(option nat) DNone", "IFNONE {PUSH nat 9} {}", "9", 2},
		{"(option nat) (DSome 4)", "IFNONE {PUSH nat 9} {}", "4", 1},
		{"(option nat) DNone : nat 2", "IFNONE {} {ADD}", "2", 1},
		{"(option nat) (DSome 4) : nat 2", "IFNONE {} {ADD}", "6", 2},
		{"(option (option nat)) (DSome DNone)", "IFNONE {NONE nat} {}; IFNONE {PUSH nat 1} {}", "1", 3},
		{"(list nat) {7; 8; 9}", "IFCONS {PAIR} {PUSH unit DUnit; FAILWITH}", "(DPair 7 {8; 9})", 2},
		{"(list nat) {7}", "IFCONS {PAIR} {PUSH unit DUnit; FAILWITH}", "(DPair 7 {})", 2},
		{"(list nat) {}", "IFCONS {PAIR} {PUSH unit DUnit; FAILWITH}", "ErrFail DUnit", 3},
		{"(list nat) {} : nat 1", "IFCONS {SWAP; DROP; ADD} {}", "1", 1},
		{"bool DTrue", "IF {PUSH nat 1} {PUSH nat 0}", "1", 2},
		{"bool DFalse", "IF {PUSH nat 1} {PUSH nat 0}", "0", 2},
		{"bool DTrue : nat 5", "IF {} {FAILWITH}", "5", 1},
		{"bool DFalse : nat 5", "IF {} {FAILWITH}", "ErrFail 5", 2},
		// What follows a choice is done behind its way.
		{"bool DTrue : bool DFalse : nat 5", "IF {IF {} {PUSH nat 1; ADD}} {DROP}; PUSH nat 10; MUL", "60", 6},
	})
}

func TestIter(t *testing.T) {
	testAll(t, []example{
		{"(list nat) {} : nat 3", "ITER {ADD}", "3", 1},
		{"(list nat) {1; 2; 5} : nat 3", "ITER {ADD}", "11", 7},
		{"(list nat) {1; 2; 5} : (list nat) {}", "ITER {CONS}", "{5; 2; 1}", 7},
		{"(list nat) {1; 2; 5}", "ITER {DROP}", "", 7},
		{"(list unit) {} : nat 0", "ITER {FAILWITH}", "0", 1},
		{"(list nat) {7; 8}", "ITER {FAILWITH}", "ErrFail 7", 3},
		{"(list (ticket nat)) {Ticket 3 4 5; Ticket 3 1 5} : (list (ticket nat)) {}", "ITER {CONS}", "{Ticket 3 1 5; Ticket 3 4 5}", 5},
		{`(map string nat) {DElt "a" 4; DElt "b" 5} : string ""`, "ITER {CAR; CONCAT}", `"ba"`, 7},
		{`(map string nat) {DElt "a" 4; DElt "b" 5} : (list (pair string nat)) {}`, "ITER {CONS}", `{DPair "b" 5; DPair "a" 4}`, 5},
		{"(map nat nat) {}", "ITER {DROP}", "", 1},
		// Rows in rows, and what follows them.
		{"(list (list nat)) {{1; 2}; {}; {3}} : nat 0", "ITER {ITER {ADD}; PUSH nat 10; MUL}; PUSH nat 1; ADD", "3031", 21},
		{"(list bool) {DTrue; DFalse; DTrue} : nat 0", "ITER {IF {PUSH nat 1; ADD} {}}", "2", 11},
		{"(list nat) {} : (list nat) {1}", "ITER {DROP}; ITER {DROP}", "", 4},
	})
}

func TestLoop(t *testing.T) {
	testAll(t, []example{
		{"bool DFalse : nat 1", "LOOP {FAILWITH}", "1", 1},
		{"bool DTrue : nat 1", "LOOP {FAILWITH}", "ErrFail 1", 3},
		{"bool DTrue : nat 1", "LOOP {PUSH bool DFalse}", "1", 3},
		{"bool DTrue : (list bool) {DTrue; DTrue; DFalse; DTrue}", "LOOP {IFCONS {} {NIL bool; PUSH bool DFalse}}", "{DTrue}", 7},
		{"bool DTrue : (list bool) {DTrue; DTrue}", "LOOP {IFCONS {} {NIL bool; PUSH bool DFalse}}", "{}", 9},
		{"bool DTrue : nat 3 : nat 0", "LOOP {DIP {PUSH nat 1; ADD}; PUSH nat 1; SWAP; SUB; ABS; DUP 1; INT; GT}; DROP", "3", 35},
		// A loop in a loop.
		{"bool DTrue : (list bool) {DTrue; DFalse; DTrue; DFalse; DFalse} : nat 0",
			"LOOP {IFCONS {} {NIL bool; PUSH bool DFalse}; LOOP {DIP {PUSH nat 1; ADD}; IFCONS {} {NIL bool; PUSH bool DFalse}}; IFCONS {} {NIL bool; PUSH bool DFalse}}", "{} : 1", 14},
	})
}

func TestDipAndExec(t *testing.T) {
	testAll(t, []example{
		{"nat 1", "DIP {}", "1", 1},
		{"nat 1 : nat 2 : nat 3", "DIP {ADD}", "1 : 5", 2},
		{"nat 1 : nat 2 : nat 3", "DIP {DROP; DROP}", "1", 3},
		{"nat 1", "DIP {PUSH nat 4; PUSH nat 5}; ADD", "6 : 4", 4},
		{"nat 1 : nat 2 : nat 3", "DIP {DIP {PUSH nat 7; ADD}}", "1 : 2 : 10", 4},
		{"nat 1 : nat 2 : nat 3", "DIP {DIP {DROP}; SOME}; SOME", "(DSome 1) : (DSome 2)", 5},
		{"", "LAMBDA nat integer {INT}", "{INT}", 1},
		{"", "LAMBDA nat nat {}; DUP 1", "{} : {}", 2},
		{"nat 6", "LAMBDA nat nat {}; SWAP; EXEC", "6", 3},
		{"nat 6 : (lambda nat nat) {PUSH nat 7; MUL}", "EXEC", "42", 3},
		{"nat 6 : (lambda nat nat) {PUSH nat 7; MUL} : nat 1", "EXEC; ADD", "43", 4},
		{"nat 6 : (lambda nat string) {FAILWITH}", "EXEC; SIZE", "ErrFail 6", 2},
		{"unit DUnit : (lambda unit (lambda nat integer)) {DROP; LAMBDA nat integer {INT}} : nat 3", "EXEC; SWAP; EXEC", "3", 6},
		// A lambda that is handed another one.
		{"(pair (lambda nat nat) nat) (DPair {PUSH nat 2; MUL} 5) : (lambda (pair (lambda nat nat) nat) nat) {UNPAIR; DUP 1; DIP {SWAP; EXEC}; SWAP; EXEC}", "EXEC", "20", 12},
		{"(list nat) {1; 2} : (lambda nat nat) {PUSH nat 7; MUL} : nat 0", "ITER {DIP {DUP 1}; EXEC; DIP {SWAP}; ADD; SWAP}; DROP", "21", 22},
		// It has an env like all others.
		{"unit DUnit : (lambda unit (pair address mutez)) {DROP; AMOUNT; SENDER; PAIR}", "EXEC", "(DPair 1 3)", 5},
		{"(ticket nat) (Ticket 3 4 5) : (lambda (ticket nat) (pair address (pair nat nat))) {READ; SWAP; DROP}", "EXEC", "(DPair 3 (DPair 5 4))", 4},
	})
}

// A lambda that code makes has its types and its row.
func TestLambdaValue(t *testing.T) {
	code := codeOf("LAMBDA (list nat) (option integer) {DROP; {NONE integer}}")
	r := Run(env, code, nil, nil, 9)
	want := api.Value{K: api.Lambda, Types: []api.Type{typeNamed("list nat"), typeNamed("option integer")}, Code: codeOf("DROP; {NONE integer}").Args}
	if r.Code != api.OK || len(r.Stack) != 1 || !similar(r.Stack[0], want) {
		t.Errorf("%+v", r)
	}
}

// P6.4

func TestGathers(t *testing.T) {
	testAll(t, []example{
		{"", "NIL nat", "{}", 1},
		{"nat 1 : (list nat) {}", "CONS", "{1}", 1},
		{"nat 1 : (list nat) {2; 3}", "CONS", "{1; 2; 3}", 1},
		{`string ""`, "SIZE", "0", 1},
		{`string "h\u00e9\x00"`, "SIZE", "4", 1},
		{"(list nat) {}", "SIZE", "0", 1},
		{"(list (list nat)) {{1; 2; 3}; {4}}", "SIZE", "2", 1},
		{"(map nat nat) {DElt 1 2; DElt 3 4; DElt 5 6}", "SIZE", "3", 1},
		{"", "EMPTYMAP nat string", "{}", 1},
		{`nat 3 : (map nat string) {DElt 1 "a"; DElt 3 "b"; DElt 5 "c"}`, "GET", `(DSome "b")`, 1},
		{`nat 2 : (map nat string) {DElt 1 "a"; DElt 3 "b"; DElt 5 "c"}`, "GET", "DNone", 1},
		{`nat 6 : (map nat string) {DElt 1 "a"; DElt 3 "b"; DElt 5 "c"}`, "GET", "DNone", 1},
		{"nat 6 : (map nat string) {}", "GET", "DNone", 1},
		{"nat 1 : (map nat (option nat)) {DElt 1 DNone}", "GET", "(DSome DNone)", 1},
		{`nat 0 : (option string) (DSome "x") : (map nat string) {DElt 1 "a"; DElt 3 "b"}`, "UPDATE", `{DElt 0 "x"; DElt 1 "a"; DElt 3 "b"}`, 1},
		{`nat 2 : (option string) (DSome "x") : (map nat string) {DElt 1 "a"; DElt 3 "b"}`, "UPDATE", `{DElt 1 "a"; DElt 2 "x"; DElt 3 "b"}`, 1},
		{`nat 4 : (option string) (DSome "x") : (map nat string) {DElt 1 "a"; DElt 3 "b"}`, "UPDATE", `{DElt 1 "a"; DElt 3 "b"; DElt 4 "x"}`, 1},
		{`nat 1 : (option string) (DSome "x") : (map nat string) {DElt 1 "a"; DElt 3 "b"}`, "UPDATE", `{DElt 1 "x"; DElt 3 "b"}`, 1},
		{`nat 3 : (option string) (DSome "x") : (map nat string) {DElt 1 "a"; DElt 3 "b"}`, "UPDATE", `{DElt 1 "a"; DElt 3 "x"}`, 1},
		{`nat 1 : (option string) DNone : (map nat string) {DElt 1 "a"; DElt 3 "b"}`, "UPDATE", `{DElt 3 "b"}`, 1},
		{`nat 3 : (option string) DNone : (map nat string) {DElt 1 "a"; DElt 3 "b"}`, "UPDATE", `{DElt 1 "a"}`, 1},
		{`nat 2 : (option string) DNone : (map nat string) {DElt 1 "a"; DElt 3 "b"}`, "UPDATE", `{DElt 1 "a"; DElt 3 "b"}`, 1},
		{"nat 2 : (option string) DNone : (map nat string) {}", "UPDATE", "{}", 1},
		{`string "b" : (option (ticket nat)) (DSome (Ticket 1 2 3)) : (map string (ticket nat)) {DElt "a" (Ticket 1 1 3)}`, "UPDATE", `{DElt "a" (Ticket 1 1 3); DElt "b" (Ticket 1 2 3)}`, 1},
		{"nat 2 : (option (option nat)) (DSome DNone) : (map nat (option nat)) {}", "UPDATE", "{DElt 2 DNone}", 1},
	})
}

func TestTells(t *testing.T) {
	testAll(t, []example{
		{`string "ab" : string "cd"`, "CONCAT", `"abcd"`, 1},
		{`string "" : string "cd"`, "CONCAT", `"cd"`, 1},
		{"nat 7", "PACK", `"\x05\x00\a"`, 1},
		{"(pair nat (list string)) (DPair 1 {})", "PACK", `"\x05\x02\x17\x02\x00\x01\x03\x00"`, 1},
		{`string "\x05\x00\x07"`, "UNPACK nat", "(DSome 7)", 1},
		{`string "\x05\x00\x47"`, "UNPACK integer", "(DSome -7)", 1},
		{`string "\x05\x00\x47"`, "UNPACK nat", "DNone", 1},
		{`string "\x05\x00\x07"`, "UNPACK string", "DNone", 1},
		{`string "\x00\x07"`, "UNPACK nat", "DNone", 1},
		{`string ""`, "UNPACK nat", "DNone", 1},
		{`string "\x05\x00\x07\x00"`, "UNPACK nat", "DNone", 1},
		{`(map string nat) {DElt "a" 4; DElt "b" 5}`, "PACK; UNPACK (map string nat)", `(DSome {DElt "a" 4; DElt "b" 5})`, 2},
		{"nat 7 : nat 8", "FAILWITH", "ErrFail 7", 1},
		{"", `PUSH (pair string nat) (DPair "no" 1); FAILWITH`, `ErrFail (DPair "no" 1)`, 2},
		{"unit DUnit", "FAILWITH", "ErrFail DUnit", 1},
	})
}

// P6.5

func TestReckons(t *testing.T) {
	const most = "1152921504606846976"
	testAll(t, []example{
		{"nat 2 : nat 3", "ADD", "5", 1},
		{"integer -2 : nat 3", "ADD", "1", 1},
		{"nat 2 : integer -3", "ADD", "-1", 1},
		{"integer -2 : integer -3", "ADD", "-5", 1},
		{"mutez 2 : mutez 3", "ADD", "5", 1},
		{"nat " + most + " : nat 0", "ADD", most, 1},
		{"nat " + most + " : nat 1", "ADD", "ErrOver", 1},
		{"mutez 1 : mutez " + most, "ADD", "ErrOver", 1},
		{"integer -" + most + " : integer -1", "ADD", "ErrOver", 1},
		{"integer -" + most + " : nat 1", "ADD", "-1152921504606846975", 1},
		{"nat 2 : nat 5", "SUB", "-3", 1},
		{"nat 5 : nat 2", "SUB", "3", 1},
		{"integer 2 : nat 5", "SUB", "-3", 1},
		{"nat 2 : integer -5", "SUB", "7", 1},
		{"integer -" + most + " : nat 1", "SUB", "ErrOver", 1},
		{"nat 0 : integer -" + most, "SUB", most, 1},
		{"mutez 5 : mutez 2", "SUB", "(DSome 3)", 1},
		{"mutez 5 : mutez 5", "SUB", "(DSome 0)", 1},
		{"mutez 4 : mutez 5", "SUB", "DNone", 1},
		{"mutez 0 : mutez " + most, "SUB", "DNone", 1},
		{"nat 4 : nat 5", "MUL", "20", 1},
		{"mutez 4 : nat 5", "MUL", "20", 1},
		{"nat 4 : mutez 5", "MUL", "20", 1},
		{"integer -4 : nat 5", "MUL", "-20", 1},
		{"nat 4 : integer -5", "MUL", "-20", 1},
		{"integer -4 : integer -5", "MUL", "20", 1},
		{"nat 1073741824 : nat 1073741824", "MUL", most, 1},
		{"nat 1073741825 : nat 1073741824", "MUL", "ErrOver", 1},
		{"mutez " + most + " : nat 16", "MUL", "ErrOver", 1},
		{"integer -7 : integer 2", "EDIV", "(DSome (DPair -4 1))", 1},
		{"integer -7 : integer -2", "EDIV", "(DSome (DPair 4 1))", 1},
		{"integer 7 : nat 2", "EDIV", "(DSome (DPair 3 1))", 1},
		{"nat 7 : integer -2", "EDIV", "(DSome (DPair -3 1))", 1},
		{"nat 7 : nat 2", "EDIV", "(DSome (DPair 3 1))", 1},
		{"mutez 7 : mutez 2", "EDIV", "(DSome (DPair 3 1))", 1},
		{"mutez 7 : nat 2", "EDIV", "(DSome (DPair 3 1))", 1},
		{"mutez 7 : nat 0", "EDIV", "DNone", 1},
		{"mutez 7 : mutez 0", "EDIV", "DNone", 1},
		{"nat 0 : nat 0", "EDIV", "DNone", 1},
		{"integer -7 : integer 0", "EDIV", "DNone", 1},
		{"integer -" + most + " : integer -1", "EDIV", "(DSome (DPair " + most + " 0))", 1},
		{"integer -5", "ABS", "5", 1},
		{"integer 5", "ABS", "5", 1},
		{"integer -" + most, "ABS", most, 1},
		{"integer -1", "ISNAT", "DNone", 1},
		{"integer 0", "ISNAT", "(DSome 0)", 1},
		{"integer 5", "ISNAT", "(DSome 5)", 1},
		{"nat 5", "INT", "5", 1},
	})
}

func TestAsks(t *testing.T) {
	testAll(t, []example{
		{"nat 1 : nat 2", "COMPARE", "-1", 1},
		{"nat 2 : nat 2", "COMPARE", "0", 1},
		{"nat 20 : nat 3", "COMPARE", "1", 1},
		{`string "b" : string "ab"`, "COMPARE", "1", 1},
		{"bool DFalse : bool DTrue", "COMPARE", "-1", 1},
		{"(option nat) DNone : (option nat) (DSome 0)", "COMPARE", "-1", 1},
		{"(or nat nat) (DRight 0) : (or nat nat) (DLeft 9)", "COMPARE", "1", 1},
		{`(pair nat string) (DPair 1 "b") : (pair nat string) (DPair 1 "a")`, "COMPARE", "1", 1},
		{"integer 0", "EQ", "DTrue", 1},
		{"integer 1", "EQ", "DFalse", 1},
		{"integer -1", "EQ", "DFalse", 1},
		{"integer 0", "LT", "DFalse", 1},
		{"integer 1", "LT", "DFalse", 1},
		{"integer -1", "LT", "DTrue", 1},
		{"integer 0", "GT", "DFalse", 1},
		{"integer 1", "GT", "DTrue", 1},
		{"integer -1", "GT", "DFalse", 1},
		{"bool DTrue", "NOT", "DFalse", 1},
		{"bool DFalse", "NOT", "DTrue", 1},
		{"bool DTrue : bool DTrue", "AND", "DTrue", 1},
		{"bool DTrue : bool DFalse", "AND", "DFalse", 1},
		{"bool DFalse : bool DTrue", "AND", "DFalse", 1},
		{"bool DFalse : bool DFalse", "AND", "DFalse", 1},
		{"bool DTrue : bool DTrue", "OR", "DTrue", 1},
		{"bool DTrue : bool DFalse", "OR", "DTrue", 1},
		{"bool DFalse : bool DTrue", "OR", "DTrue", 1},
		{"bool DFalse : bool DFalse", "OR", "DFalse", 1},
	})
}

// P6.6

func TestTickets(t *testing.T) {
	const most, half = "1152921504606846976", "576460752303423488"
	testAll(t, []example{
		{`string "x" : nat 4`, "TICKET", `(DSome (Ticket 5 4 "x")) | 4`, 1},
		{`string "x" : nat 0`, "TICKET", "DNone", 1},
		{`string "x" : nat ` + most, "TICKET", `(DSome (Ticket 5 ` + most + ` "x")) | ` + most, 1},
		// All that was minted counts, be it gone again.
		{"nat 1 : nat 4 : nat 1 : nat 2", "TICKET; DROP; TICKET", "(DSome (Ticket 5 2 1)) | 6", 3},
		{"nat 1 : nat " + half + " : nat 1 : nat " + half, "TICKET; DROP; TICKET; DROP", " | " + most, 4},
		{"nat 1 : nat " + half + " : nat 1 : nat 576460752303423489", "TICKET; DROP; TICKET; DROP", "ErrOver", 3},
		{"nat 1 : nat " + most + " : nat 1 : nat 1", "TICKET; DROP; TICKET", "ErrOver", 3},
		{"nat 1 : nat " + most + " : nat 1 : nat 0", "TICKET; DROP; TICKET", "DNone | " + most, 3},
		{"nat 1 : nat 4", "TICKET; DROP; PUSH nat 5; FAILWITH", "ErrFail 5", 4},
		{`(ticket string) (Ticket 3 4 "x")`, "READ", `(DPair 3 (DPair "x" 4)) : (Ticket 3 4 "x")`, 1},
		{"(ticket nat) (Ticket 3 4 5) : (pair nat nat) (DPair 1 3)", "SPLIT", "(DSome (DPair (Ticket 3 1 5) (Ticket 3 3 5)))", 1},
		{"(ticket nat) (Ticket 3 4 5) : (pair nat nat) (DPair 0 4)", "SPLIT", "DNone", 1},
		{"(ticket nat) (Ticket 3 4 5) : (pair nat nat) (DPair 4 0)", "SPLIT", "DNone", 1},
		{"(ticket nat) (Ticket 3 4 5) : (pair nat nat) (DPair 1 2)", "SPLIT", "DNone", 1},
		{"(ticket nat) (Ticket 3 4 5) : (pair nat nat) (DPair 4 1)", "SPLIT", "DNone", 1},
		{"(ticket nat) (Ticket 3 4 5) : (pair nat nat) (DPair " + most + " " + most + ")", "SPLIT", "DNone", 1},
		{"(ticket nat) (Ticket 3 " + most + " 5) : (pair nat nat) (DPair " + half + " " + half + ")", "SPLIT", "(DSome (DPair (Ticket 3 " + half + " 5) (Ticket 3 " + half + " 5)))", 1},
		{"(pair (ticket nat) (ticket nat)) (DPair (Ticket 3 4 5) (Ticket 3 1 5))", "JOIN", "(DSome (Ticket 3 5 5))", 1},
		{"(pair (ticket nat) (ticket nat)) (DPair (Ticket 3 4 5) (Ticket 3 1 6))", "JOIN", "DNone", 1},
		{"(pair (ticket nat) (ticket nat)) (DPair (Ticket 3 4 5) (Ticket 2 1 5))", "JOIN", "DNone", 1},
		{"(pair (ticket nat) (ticket nat)) (DPair (Ticket 3 " + half + " 5) (Ticket 3 " + half + " 5))", "JOIN", "(DSome (Ticket 3 " + most + " 5))", 1},
		{"(pair (ticket nat) (ticket nat)) (DPair (Ticket 3 " + most + " 5) (Ticket 3 1 5))", "JOIN", "ErrOver", 1},
		{"(pair (ticket nat) (ticket nat)) (DPair (Ticket 3 " + most + " 5) (Ticket 3 1 6))", "JOIN", "DNone", 1},
		{"(pair (ticket nat) (ticket nat)) (DPair (Ticket 3 " + most + " 5) (Ticket 4 1 5))", "JOIN", "DNone", 1},
		{`(pair (ticket (pair nat string)) (ticket (pair nat string))) (DPair (Ticket 3 4 (DPair 1 "a")) (Ticket 3 4 (DPair 1 "b")))`, "JOIN", "DNone", 1},
	})
}

func TestSends(t *testing.T) {
	testAll(t, []example{
		{"nat 7 : mutez 9 : address 2", "TRANSFER nat", "(Operation 2 9 nat 7)", 1},
		{"(ticket nat) (Ticket 3 4 5) : mutez 0 : address 11", "TRANSFER (ticket nat)", "(Operation 11 0 (ticket nat) (Ticket 3 4 5))", 1},
		{"(lambda nat nat) {} : mutez 0 : address 0", "TRANSFER (lambda nat nat)", "(Operation 0 0 (lambda nat nat) {})", 1},
		{"nat 7 : mutez 9 : address 2", "TRANSFER nat; NIL operation; SWAP; CONS", "{Operation 2 9 nat 7}", 4},
		{"", "SELF", "5", 1},
		{"", "SENDER", "1", 1},
		{"", "AMOUNT", "3", 1},
		{"", "BALANCE", "9", 1},
	})
}

// A contract's script, as of the document's first example.
func TestScript(t *testing.T) {
	testAll(t, []example{
		{"(pair nat nat) (DPair 5 10)", "UNPAIR; ADD; NIL operation; PAIR", "(DPair {} 15)", 4},
		{`(pair address (option (ticket string))) (DPair 7 DNone)`,
			`CAR; PUSH mutez 0; PUSH nat 3; PUSH string "x"; TICKET; IFNONE {PUSH unit DUnit; FAILWITH} {TRANSFER (ticket string)}; NONE (ticket string); NIL operation; DIG 2; CONS; PAIR`,
			`(DPair {Operation 7 0 (ticket string) (Ticket 5 3 "x")} DNone) | 3`, 12},
	})
}

// P6.1

// What stops a run ahead of its first step.
func TestStuck(t *testing.T) {
	for _, x := range []struct{ from, code string }{
		{"", "DROP"},
		{"nat 1", "DROP; DROP"},
		{"nat 1", "FAILWITH; DROP"},
		{"nat 1", "DUP"},
		{"nat 1", "ADD"},
		{"nat 1 : nat 2", "IF {} {}"},
		{"nat 1", "5"},
		{"nat 1", "nat"},
		{"(ticket nat) (Ticket 1 2 3)", "DUP 1"},
		{"bool DFalse", "IF {DROP} {}"},
		{"", "PUSH nat -1"},
		{"", "LAMBDA nat integer {}"},
		{"nat -1", ""},
		{"bool DTrue : nat -1", ""},
		{"address 12", ""},
		{"mutez 1152921504606846977", ""},
		{"(ticket nat) (Ticket 1 0 3)", "DROP"},
		{"(ticket nat) (Ticket 12 1 3)", "DROP"},
		{"(map nat nat) {DElt 2 1; DElt 1 2}", "DROP"},
		{"(lambda nat integer) {}", "DROP"},
		{"(lambda (pair nat nat) (option (ticket nat))) {UNPAIR; TICKET}", "DROP"},
		{"(list (lambda nat integer)) {{INT}; {}}", "DROP"},
		{"operation (Operation 12 0 nat 1)", "DROP"},
		{"(list operation) {Operation 1 0 (lambda nat nat) {INT}}", "DROP"},
		{"(map (list nat) nat) {}", "DROP"},
	} {
		types, stack := stackOf(x.from)
		testStuck(t, env, codeOf(x.code), types, stack)
	}
	types, stack := stackOf("nat 1 : nat 2")
	add := codeOf("ADD")
	testStuck(t, env, add.Args[0], types, stack)
	testStuck(t, env, api.Node{}, types, stack)
	testStuck(t, env, api.Node{Kind: -1}, types, stack)
	testStuck(t, env, api.Node{Kind: api.Seq, N: 1}, types, stack)
	testStuck(t, env, add, types, nil)
	testStuck(t, env, add, types, stack[:1])
	testStuck(t, env, add, types, append(stack, stack[0]))
	testStuck(t, env, add, types[:1], stack)
	testStuck(t, env, add, append(types, types[0]), stack)
	testStuck(t, env, seq(), nil, stack[:1])
	testStuck(t, env, seq(), []api.Type{{}}, []api.Value{{}})
	testStuck(t, env, seq(), []api.Type{{T: api.Integer}}, stack[:1])
	full := slices.Repeat(types, 20)
	testStuck(t, env, codeOf("SELF"), full, slices.Repeat(stack, 20))
	testStuck(t, env, seq(), append(full, types[0]), append(slices.Repeat(stack, 20), stack[0]))
}

func testStuck(t *testing.T, env api.Env, code api.Node, types []api.Type, stack []api.Value) {
	t.Helper()
	for _, gas := range []int{99, 0, -1} {
		if r := Run(env, code, types, stack, gas); answer(r) != "ErrStuck" || r.Gas != 0 {
			t.Errorf("%v on %v %v, env %v: %+v", code, types, stack, env, r)
		}
	}
}

func TestEnv(t *testing.T) {
	code := codeOf("BALANCE; AMOUNT; SENDER; SELF")
	for _, x := range []struct {
		env api.Env
		to  string
	}{
		{api.Env{}, "0 : 0 : 0 : 0"},
		{api.Env{Self: 11, Sender: 10, Amount: api.MaxInt, Balance: api.MaxInt - 1}, "11 : 10 : 1152921504606846976 : 1152921504606846975"},
		{api.Env{Self: 3, Sender: 11, Amount: 1, Balance: api.MaxInt}, "3 : 11 : 1 : 1152921504606846976"},
	} {
		if r := Run(x.env, code, nil, nil, 4); answer(r) != x.to || r.Gas != 4 {
			t.Errorf("env %v: %+v", x.env, r)
		}
	}
	for _, wrong := range []api.Env{
		{Self: -1}, {Self: 12}, {Self: -1 << 63}, {Sender: -1}, {Sender: 12}, {Sender: 1<<63 - 1},
		{Amount: -1}, {Amount: api.MaxInt + 1}, {Amount: -1 << 63}, {Balance: -1}, {Balance: api.MaxInt + 1}, {Balance: 1<<63 - 1},
	} {
		testStuck(t, wrong, code, nil, nil)
		testStuck(t, wrong, seq(), nil, nil)
	}
}

// Who mints is Self, whoever sends.
func TestMaker(t *testing.T) {
	types, stack := stackOf("nat 8 : nat 2")
	for self := range api.Accounts {
		r := Run(api.Env{Self: self, Sender: 11 - self}, codeOf("TICKET"), types, stack, 1)
		if len(r.Stack) != 1 || len(r.Stack[0].Args) != 1 || r.Stack[0].Args[0].A != self || r.Minted != 2 {
			t.Errorf("Self %d: %+v", self, r)
		}
	}
}

// P6.2

func TestGasOfAllSorts(t *testing.T) {
	code := codeOf("PUSH nat 1; DROP")
	for _, x := range []struct{ gas, paid int }{{-1 << 63, 0}, {-5, 0}, {0, 0}, {1, 1}} {
		if r := Run(env, code, nil, nil, x.gas); answer(r) != "ErrGas" || r.Gas != x.paid {
			t.Errorf("gas %d: %+v", x.gas, r)
		}
	}
	for _, gas := range []int{2, 3, api.MaxGas, 1<<63 - 1} {
		if r := Run(env, code, nil, nil, gas); r.Code != api.OK || r.Gas != 2 {
			t.Errorf("gas %d: %+v", gas, r)
		}
	}
	// Nothing is paid for nothing.
	types, stack := stackOf("nat 1")
	for _, gas := range []int{-1 << 63, -1, 0, 1} {
		if r := Run(env, codeOf("{}; {{}}"), types, stack, gas); answer(r) != "1" || r.Gas != 0 {
			t.Errorf("gas %d: %+v", gas, r)
		}
	}
}

// A step is paid for ahead of all that it does: what is not paid for does not fail either.
func TestPaidAhead(t *testing.T) {
	for _, x := range []struct{ from, code string }{
		{"nat 6", "FAILWITH"},
		{"nat 1152921504606846976 : nat 1", "ADD"},
		{"nat 1 : nat 1", "TICKET; DROP; PUSH nat 1; FAILWITH"},
		{"(list nat) {1}", "ITER {FAILWITH}"},
		{"bool DTrue : nat 1", "LOOP {FAILWITH}"},
		{`string "` + strings.Repeat("x", 150) + `" : string "` + strings.Repeat("x", 51) + `"`, "CONCAT"},
	} {
		types, stack := stackOf(x.from)
		all := Run(env, codeOf(x.code), types, stack, plenty).Gas
		for gas := range all {
			if r := Run(env, codeOf(x.code), types, stack, gas); answer(r) != "ErrGas" || r.Gas != gas {
				t.Errorf("%s with %d steps: %+v", x.code, gas, r)
			}
		}
	}
}

// Loops that would never end do.
func TestEnds(t *testing.T) {
	types, stack := stackOf("bool DTrue")
	for _, x := range []string{
		"LOOP {PUSH bool DTrue}",
		"LOOP {{}; PUSH bool DTrue; {{}}}",
		"LOOP {PUSH bool DTrue; LOOP {PUSH bool DTrue}; PUSH bool DTrue}",
		"LOOP {LAMBDA bool bool {}; PUSH bool DTrue; EXEC}",
	} {
		if r := Run(env, codeOf(x), types, stack, api.MaxGas); answer(r) != "ErrGas" || r.Gas != api.MaxGas {
			t.Errorf("%s: %+v", x, r)
		}
	}
}
