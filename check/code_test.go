package check

import (
	"slices"
	"strconv"
	"strings"
	"testing"

	"touchstone/api"
)

// example is code from types, and where it leads to: types, "Fails", or an error.
type example struct{ from, code, to string }

func (x example) test(t *testing.T) {
	t.Helper()
	if got := answer(Code(rowOf(x.code), typesOf(x.from))); got != x.to {
		t.Errorf("%s from %q: %q, wanted %q", x.code, x.from, got, x.to)
	}
}

// fitting are rows that lead from types to types. No type stands there that they do not need.
var fitting = []example{
	{"", "", ""},
	{"nat", "DROP", ""},
	{"ticket nat", "DROP", ""},
	{"operation", "DROP", ""},
	{"nat", "DUP 1", "nat : nat"},
	{"nat : string", "DUP 2", "string : nat : string"},
	{"ticket nat : string", "DUP 2", "string : ticket nat : string"},
	{"lambda (ticket nat) operation", "DUP 1", "lambda (ticket nat) operation : lambda (ticket nat) operation"},
	{"nat : string", "SWAP", "string : nat"},
	{"ticket nat : operation", "SWAP", "operation : ticket nat"},
	{"nat", "DIG 0", "nat"},
	{"nat : string", "DIG 1", "string : nat"},
	{"nat : string : ticket nat", "DIG 2", "ticket nat : nat : string"},
	{"nat", "DUG 0", "nat"},
	{"nat : string", "DUG 1", "string : nat"},
	{"ticket nat : nat : string", "DUG 2", "nat : string : ticket nat"},
	{"", "PUSH nat 5", "nat"},
	{"", "PUSH integer -5", "integer"},
	{"", `PUSH string "x"`, "string"},
	{"", "PUSH unit DUnit", "unit"},
	{"", "PUSH bool DTrue", "bool"},
	{"", "PUSH address 11", "address"},
	{"", "PUSH (list mutez) {1; 2}", "list mutez"},
	{"", `PUSH (map nat string) {DElt 1 "a"; DElt 2 "b"}`, "map nat string"},
	{"", "PUSH (or nat (option unit)) (DRight DNone)", "or nat (option unit)"},
	{"nat : string", "PAIR", "pair nat string"},
	{"operation : ticket nat", "PAIR", "pair operation (ticket nat)"},
	{"pair nat string", "UNPAIR", "nat : string"},
	{"pair nat string", "CAR", "nat"},
	{"pair nat string", "CDR", "string"},
	{"pair (ticket nat) operation", "CDR", "operation"},
	{"nat", "LEFT string", "or nat string"},
	{"nat", "RIGHT string", "or string nat"},
	{"ticket nat", "LEFT operation", "or (ticket nat) operation"},
	{"or nat string", "IFLEFT {INT} {SIZE; INT}", "integer"},
	{"or nat (ticket nat)", "IFLEFT {PUSH nat 1; FAILWITH} {}", "ticket nat"},
	{"or nat (ticket nat)", "IFLEFT {} {PUSH nat 1; FAILWITH}", "nat"},
	{"nat", "SOME", "option nat"},
	{"", "NONE operation", "option operation"},
	{"option nat", "IFNONE {PUSH nat 0} {}", "nat"},
	{"option nat", "IFNONE {PUSH nat 0; FAILWITH} {INT}", "integer"},
	{"option nat", "IFNONE {} {FAILWITH}", ""},
	{"", "NIL operation", "list operation"},
	{"operation : list operation", "CONS", "list operation"},
	{"list nat", "IFCONS {SWAP; DROP} {PUSH nat 0}", "nat"},
	{"list nat", "IFCONS {PAIR} {PUSH nat 0; FAILWITH}", "pair nat (list nat)"},
	{"list nat", "IFCONS {FAILWITH} {}", ""},
	{"string", "SIZE", "nat"},
	{"list operation", "SIZE", "nat"},
	{"map nat (ticket nat)", "SIZE", "nat"},
	{"list nat", "ITER {DROP}", ""},
	{"list nat : nat", "ITER {ADD}", "nat"},
	{"list (ticket nat)", "ITER {DROP}", ""},
	{"map string nat : nat", "ITER {CDR; ADD}", "nat"},
	{"map string nat", "ITER {UNPAIR; DROP; DROP}", ""},
	{"list nat", "ITER {FAILWITH}", ""},
	{"", "EMPTYMAP (pair nat string) operation", "map (pair nat string) operation"},
	{"nat : map nat string", "GET", "option string"},
	{"nat : map nat (lambda (ticket nat) nat)", "GET", "option (lambda (ticket nat) nat)"},
	{"nat : option string : map nat string", "UPDATE", "map nat string"},
	{"nat : option (ticket nat) : map nat (ticket nat)", "UPDATE", "map nat (ticket nat)"},
	{"bool", "IF {} {}", ""},
	{"bool : nat", "IF {DROP; SELF} {DROP; SENDER}", "address"},
	{"bool : nat", "IF {FAILWITH} {INT}", "integer"},
	{"bool : nat", "IF {INT} {FAILWITH}", "integer"},
	{"bool", "LOOP {PUSH bool DFalse}", ""},
	{"bool : nat", "LOOP {PUSH nat 1; ADD; PUSH bool DTrue}", "nat"},
	{"bool : nat", "LOOP {FAILWITH}", "nat"},
	{"", "LAMBDA nat integer {INT}", "lambda nat integer"},
	{"", "LAMBDA nat nat {}", "lambda nat nat"},
	{"", "LAMBDA nat (ticket nat) {FAILWITH}", "lambda nat (ticket nat)"},
	{"", "LAMBDA (ticket nat) (pair address (pair nat nat)) {READ; SWAP; DROP}", "lambda (ticket nat) (pair address (pair nat nat))"},
	{"", "LAMBDA unit (lambda nat integer) {DROP; LAMBDA nat integer {INT}}", "lambda unit (lambda nat integer)"},
	{"", "LAMBDA unit nat {DROP; PUSH nat 84}", "lambda unit nat"},
	{"", `LAMBDA unit string {DROP; PUSH string "TICKET"}`, "lambda unit string"},
	{"nat : lambda nat string", "EXEC", "string"},
	{"ticket nat : lambda (ticket nat) operation", "EXEC", "operation"},
	{"nat", "DIP {}", "nat"},
	{"nat : string", "DIP {SIZE}", "nat : nat"},
	{"ticket nat : nat : nat", "DIP {ADD; SOME}", "ticket nat : option nat"},
	{"nat", "DIP {SELF; AMOUNT}", "nat : mutez : address"},
	{"nat : nat", "ADD", "nat"},
	{"nat : integer", "ADD", "integer"},
	{"integer : nat", "ADD", "integer"},
	{"integer : integer", "ADD", "integer"},
	{"mutez : mutez", "ADD", "mutez"},
	{"nat : nat", "SUB", "integer"},
	{"nat : integer", "SUB", "integer"},
	{"integer : nat", "SUB", "integer"},
	{"integer : integer", "SUB", "integer"},
	{"mutez : mutez", "SUB", "option mutez"},
	{"nat : nat", "MUL", "nat"},
	{"nat : integer", "MUL", "integer"},
	{"integer : nat", "MUL", "integer"},
	{"integer : integer", "MUL", "integer"},
	{"mutez : nat", "MUL", "mutez"},
	{"nat : mutez", "MUL", "mutez"},
	{"nat : nat", "EDIV", "option (pair nat nat)"},
	{"nat : integer", "EDIV", "option (pair integer nat)"},
	{"integer : nat", "EDIV", "option (pair integer nat)"},
	{"integer : integer", "EDIV", "option (pair integer nat)"},
	{"mutez : mutez", "EDIV", "option (pair nat mutez)"},
	{"mutez : nat", "EDIV", "option (pair mutez mutez)"},
	{"integer", "ABS", "nat"},
	{"integer", "ISNAT", "option nat"},
	{"nat", "INT", "integer"},
	{"nat : nat", "COMPARE", "integer"},
	{"pair (option address) (or unit bool) : pair (option address) (or unit bool)", "COMPARE", "integer"},
	{"integer", "EQ", "bool"},
	{"integer", "LT", "bool"},
	{"integer", "GT", "bool"},
	{"bool", "NOT", "bool"},
	{"bool : bool", "AND", "bool"},
	{"bool : bool", "OR", "bool"},
	{"string : string", "CONCAT", "string"},
	{"map nat (list (option bool))", "PACK", "string"},
	{"string", "UNPACK (list nat)", "option (list nat)"},
	{"string : nat", "TICKET", "option (ticket string)"},
	{"pair nat address : nat", "TICKET", "option (ticket (pair nat address))"},
	{"ticket string", "READ", "pair address (pair string nat) : ticket string"},
	{"ticket string : pair nat nat", "SPLIT", "option (pair (ticket string) (ticket string))"},
	{"pair (ticket string) (ticket string)", "JOIN", "option (ticket string)"},
	{"nat : mutez : address", "TRANSFER nat", "operation"},
	{"ticket nat : mutez : address", "TRANSFER (ticket nat)", "operation"},
	{"lambda operation operation : mutez : address", "TRANSFER (lambda operation operation)", "operation"},
	{"", "SELF", "address"},
	{"", "SENDER", "address"},
	{"", "AMOUNT", "mutez"},
	{"", "BALANCE", "mutez"},
	// Rows in rows, and rows behind each other.
	{"", "{}; {}; {{}}", ""},
	{"nat", "{{INT}; {}; {{{EQ}}}}; NOT", "bool"},
	{"pair nat nat", "UNPAIR; ADD; NIL operation; PAIR", "pair (list operation) nat"},
	{"bool : bool : nat", "IF {IF {INT} {FAILWITH}} {IF {FAILWITH} {INT}}", "integer"},
	{"option (or nat (list nat))", "IFNONE {PUSH nat 0} {IFLEFT {} {IFCONS {DIP {DROP}} {PUSH nat 1; FAILWITH}}}", "nat"},
}

// P5.1

func TestCode(t *testing.T) {
	done := map[int]int{}
	for _, x := range fitting {
		x.test(t)
		// What stands below stays.
		for _, below := range []string{"ticket nat", "nat : operation", "bool : list nat : string : string"} {
			join := func(s string) string { return strings.Trim(s+" : "+below, ": ") }
			example{join(x.from), x.code, join(x.to)}.test(t)
		}
		for _, n := range rowOf(x.code).Args {
			done[n.P]++
		}
	}
	for name, p := range instructionNames {
		if done[p] == 0 && p != api.FAILWITH {
			t.Errorf("%s is in no example", name)
		}
	}
}

func TestCodeTooFewTypes(t *testing.T) {
	for _, x := range fitting {
		if from := typesOf(x.from); len(from) > 0 {
			short := from[:len(from)-1]
			if got := answer(Code(rowOf(x.code), short)); got != "ErrType" {
				t.Errorf("%s from %q: %q", x.code, shownTypes(short), got)
			}
		}
	}
}

func TestCodeFails(t *testing.T) {
	for _, x := range []example{
		{"nat", "FAILWITH", "Fails"},
		{"pair (list nat) (map string bool) : ticket nat", "FAILWITH", "Fails"},
		{"nat", "{FAILWITH}", "Fails"},
		{"nat", "{{}; {INT; {FAILWITH}}}", "Fails"},
		{"bool : nat : nat", "IF {FAILWITH} {DROP; FAILWITH}", "Fails"},
		{"or nat string", "IFLEFT {FAILWITH} {FAILWITH}", "Fails"},
		{"option nat", "IFNONE {PUSH nat 1; FAILWITH} {FAILWITH}", "Fails"},
		{"list nat", "IFCONS {FAILWITH} {PUSH nat 1; FAILWITH}", "Fails"},
		{"bool : bool : nat", "IF {IF {FAILWITH} {FAILWITH}} {IF {FAILWITH} {FAILWITH}}", "Fails"},
		{"bool : bool : nat", "IF {IF {FAILWITH} {INT}} {IF {FAILWITH} {FAILWITH}}", "integer"},
		// Types that can't be told.
		{"", "FAILWITH", "ErrType"},
		{"ticket nat", "FAILWITH", "ErrType"},
		{"operation", "FAILWITH", "ErrType"},
		{"lambda nat nat", "FAILWITH", "ErrType"},
		{"option (list (ticket nat))", "FAILWITH", "ErrType"},
		// Nothing stands behind what Fails, be it wrong in some other way.
		{"nat", "FAILWITH; DROP", "ErrForm"},
		{"nat", "FAILWITH; {}", "ErrForm"},
		{"nat : nat", "FAILWITH; FAILWITH", "ErrForm"},
		{"nat", "FAILWITH; SELF", "ErrForm"},
		{"nat", "{FAILWITH}; {}", "ErrForm"},
		{"nat", "{FAILWITH; {}}", "ErrForm"},
		{"bool : nat", "IF {FAILWITH} {FAILWITH}; SELF", "ErrForm"},
		{"bool : nat", "IF {FAILWITH; DROP} {}", "ErrForm"},
		{"bool : nat", "IF {} {FAILWITH; DROP}", "ErrForm"},
		{"list nat", "ITER {FAILWITH; SELF; DROP}", "ErrForm"},
		{"bool : nat", "LOOP {FAILWITH; PUSH bool DTrue}", "ErrForm"},
		{"", "LAMBDA nat nat {FAILWITH; PUSH nat 1}", "ErrForm"},
		// What may Fail within.
		{"bool : nat", "LOOP {FAILWITH}; SELF", "address : nat"},
		{"list nat", "ITER {FAILWITH}; SELF", "address"},
		{"", "LAMBDA nat nat {FAILWITH}; DROP", ""},
		{"bool : nat", "IF {FAILWITH} {}; SELF", "address : nat"},
		// DIP may not.
		{"nat : nat", "DIP {FAILWITH}", "ErrForm"},
		{"nat : bool : nat", "DIP {IF {FAILWITH} {FAILWITH}}", "ErrForm"},
		{"nat : bool : nat", "DIP {IF {FAILWITH} {}}", "nat : nat"},
		{"nat", "DIP {FAILWITH}", "ErrType"},
		{"nat : nat", "DIP {FAILWITH; DROP}", "ErrForm"},
		{"", "DIP {PUSH nat 1; FAILWITH}", "ErrType"},
	} {
		x.test(t)
	}
}

func TestCodeWrongTypes(t *testing.T) {
	for _, x := range []example{
		// What can't be copied.
		{"ticket nat", "DUP 1", "ErrType"},
		{"operation", "DUP 1", "ErrType"},
		{"pair nat (list (ticket nat))", "DUP 1", "ErrType"},
		{"option operation", "DUP 1", "ErrType"},
		{"nat : ticket nat", "DUP 2", "ErrType"},
		{"nat : map nat (ticket nat)", "GET", "ErrType"},
		{"nat : map nat operation", "GET", "ErrType"},
		{"nat : map nat (option (ticket nat))", "GET", "ErrType"},
		// What can't be compared.
		{"list nat : list nat", "COMPARE", "ErrType"},
		{"operation : operation", "COMPARE", "ErrType"},
		{"lambda nat nat : lambda nat nat", "COMPARE", "ErrType"},
		{"ticket nat : ticket nat", "COMPARE", "ErrType"},
		{"option (map nat nat) : option (map nat nat)", "COMPARE", "ErrType"},
		{"nat : integer", "COMPARE", "ErrType"},
		{"option nat : option integer", "COMPARE", "ErrType"},
		{"", "EMPTYMAP (list nat) nat", "ErrType"},
		{"", "EMPTYMAP operation nat", "ErrType"},
		{"", "EMPTYMAP (ticket nat) nat", "ErrType"},
		{"", "EMPTYMAP (pair nat (lambda nat nat)) nat", "ErrType"},
		{"list nat : nat", "TICKET", "ErrType"},
		{"ticket nat : nat", "TICKET", "ErrType"},
		{"string : integer", "TICKET", "ErrType"},
		{"nat : string", "TICKET", "ErrType"},
		// What can't be told.
		{"ticket nat", "PACK", "ErrType"},
		{"operation", "PACK", "ErrType"},
		{"list (lambda nat nat)", "PACK", "ErrType"},
		{"string", "UNPACK (ticket nat)", "ErrType"},
		{"string", "UNPACK operation", "ErrType"},
		{"string", "UNPACK (option (lambda nat nat))", "ErrType"},
		{"nat", "UNPACK nat", "ErrType"},
		{"", "PUSH (option (ticket nat)) DNone", "ErrType"},
		{"", "PUSH (list operation) {}", "ErrType"},
		{"", "PUSH (lambda nat nat) {}", "ErrType"},
		{"", "PUSH (list (lambda nat nat)) {}", "ErrType"},
		{"", "PUSH nat -1", "ErrType"},
		{"", `PUSH nat "x"`, "ErrType"},
		{"", "PUSH nat DTrue", "ErrType"},
		{"", "PUSH nat {}", "ErrType"},
		{"", "PUSH nat nat", "ErrType"},
		{"", "PUSH bool TICKET", "ErrType"},
		{"", "PUSH address 12", "ErrType"},
		{"", "PUSH (map nat nat) {DElt 2 1; DElt 1 1}", "ErrType"},
		// What can't be kept.
		{"operation : mutez : address", "TRANSFER operation", "ErrType"},
		{"list operation : mutez : address", "TRANSFER (list operation)", "ErrType"},
		{"nat : mutez : address", "TRANSFER integer", "ErrType"},
		{"option nat : mutez : address", "TRANSFER (option integer)", "ErrType"},
		{"nat : address : mutez", "TRANSFER nat", "ErrType"},
		{"nat : nat : address", "TRANSFER nat", "ErrType"},
		{"nat : mutez : nat", "TRANSFER nat", "ErrType"},
		// Types that do not stand there.
		{"nat", "UNPAIR", "ErrType"},
		{"or nat nat", "CAR", "ErrType"},
		{"list nat", "CDR", "ErrType"},
		{"pair nat nat", "IFLEFT {} {}", "ErrType"},
		{"list nat", "IFNONE {PUSH nat 1} {}", "ErrType"},
		{"map nat nat", "IFCONS {} {}", "ErrType"},
		{"option nat", "ITER {DROP}", "ErrType"},
		{"nat", "SIZE", "ErrType"},
		{"option nat", "SIZE", "ErrType"},
		{"integer : list nat", "CONS", "ErrType"},
		{"list nat : nat", "CONS", "ErrType"},
		{"nat : option nat", "CONS", "ErrType"},
		{"integer : map nat nat", "GET", "ErrType"},
		{"nat : list nat", "GET", "ErrType"},
		{"integer : option nat : map nat nat", "UPDATE", "ErrType"},
		{"nat : option integer : map nat nat", "UPDATE", "ErrType"},
		{"nat : nat : map nat nat", "UPDATE", "ErrType"},
		{"nat : list nat : map nat nat", "UPDATE", "ErrType"},
		{"nat", "IF {} {}", "ErrType"},
		{"integer", "LOOP {PUSH bool DTrue}", "ErrType"},
		{"integer : lambda nat nat", "EXEC", "ErrType"},
		{"nat : pair nat nat", "EXEC", "ErrType"},
		{"lambda nat nat : nat", "EXEC", "ErrType"},
		{"mutez : nat", "ADD", "ErrType"},
		{"integer : mutez", "ADD", "ErrType"},
		{"string : string", "ADD", "ErrType"},
		{"mutez : nat", "SUB", "ErrType"},
		{"nat : mutez", "SUB", "ErrType"},
		{"mutez : mutez", "MUL", "ErrType"},
		{"mutez : integer", "MUL", "ErrType"},
		{"integer : mutez", "MUL", "ErrType"},
		{"nat : mutez", "EDIV", "ErrType"},
		{"integer : mutez", "EDIV", "ErrType"},
		{"mutez : integer", "EDIV", "ErrType"},
		{"nat", "ABS", "ErrType"},
		{"nat", "ISNAT", "ErrType"},
		{"integer", "INT", "ErrType"},
		{"mutez", "INT", "ErrType"},
		{"nat", "EQ", "ErrType"},
		{"mutez", "LT", "ErrType"},
		{"bool", "GT", "ErrType"},
		{"integer", "NOT", "ErrType"},
		{"bool : nat", "AND", "ErrType"},
		{"nat : bool", "OR", "ErrType"},
		{"string : nat", "CONCAT", "ErrType"},
		{"nat : string", "CONCAT", "ErrType"},
		{"list string", "CONCAT", "ErrType"},
		{"nat", "READ", "ErrType"},
		{"option (ticket nat)", "READ", "ErrType"},
		{"ticket nat : pair nat integer", "SPLIT", "ErrType"},
		{"ticket nat : pair integer nat", "SPLIT", "ErrType"},
		{"ticket nat : nat : nat", "SPLIT", "ErrType"},
		{"pair nat nat : ticket nat", "SPLIT", "ErrType"},
		{"ticket nat : or nat nat", "SPLIT", "ErrType"},
		{"pair (ticket nat) (ticket integer)", "JOIN", "ErrType"},
		{"pair (ticket nat) nat", "JOIN", "ErrType"},
		{"pair nat nat", "JOIN", "ErrType"},
		{"or (ticket nat) (ticket nat)", "JOIN", "ErrType"},
		{"ticket nat : ticket nat", "JOIN", "ErrType"},
		// Ways that are not alike.
		{"bool : nat", "IF {DROP} {}", "ErrType"},
		{"bool : nat", "IF {} {DROP}", "ErrType"},
		{"bool : nat", "IF {INT} {}", "ErrType"},
		{"bool", "IF {NIL nat} {NIL integer}", "ErrType"},
		{"bool : nat : string", "IF {SWAP} {}", "ErrType"},
		{"or nat string", "IFLEFT {} {}", "ErrType"},
		{"option nat", "IFNONE {} {}", "ErrType"},
		{"list nat", "IFCONS {} {}", "ErrType"},
		{"list nat", "IFCONS {DROP} {}", "ErrType"},
		{"list nat", "ITER {}", "ErrType"},
		{"list nat", "ITER {INT}", "ErrType"},
		{"list nat : nat", "ITER {DROP; DROP}", "ErrType"},
		{"list nat : nat", "ITER {DROP; INT}", "ErrType"},
		{"map nat nat", "ITER {DROP; SELF}", "ErrType"},
		{"map nat nat : nat", "ITER {ADD}", "ErrType"},
		{"bool", "LOOP {}", "ErrType"},
		{"bool", "LOOP {PUSH nat 1}", "ErrType"},
		{"bool : nat", "LOOP {DROP; PUSH bool DTrue}", "ErrType"},
		{"bool : nat", "LOOP {PUSH bool DTrue; PUSH bool DTrue}", "ErrType"},
		{"", "LAMBDA nat integer {}", "ErrType"},
		{"", "LAMBDA nat nat {DROP}", "ErrType"},
		{"", "LAMBDA nat nat {DUP 1}", "ErrType"},
		{"nat", "LAMBDA unit nat {DROP}", "ErrType"},
		{"nat", "LAMBDA nat (pair nat nat) {PAIR}", "ErrType"},
	} {
		x.test(t)
	}
}

// No TICKET is in a lambda, wherever it stands there, and whatever else is wrong with its code.
func TestCodeTicketInLambda(t *testing.T) {
	for _, x := range []example{
		{"", "LAMBDA (pair nat nat) (option (ticket nat)) {UNPAIR; TICKET}", "ErrType"},
		{"pair nat nat", "UNPAIR; TICKET", "option (ticket nat)"},
		{"", "LAMBDA (pair nat nat) (option (ticket nat)) {UNPAIR; {{TICKET}}}", "ErrType"},
		{"", "LAMBDA (pair nat nat) nat {UNPAIR; DIP {DROP}; PUSH bool DTrue; IF {} {DUP 1; TICKET; DROP; PUSH nat 1}}", "ErrType"},
		{"", "LAMBDA nat nat {LAMBDA (pair nat nat) (option (ticket nat)) {UNPAIR; TICKET}; DROP}", "ErrType"},
		{"", "LAMBDA nat nat {FAILWITH; TICKET}", "ErrType"},
		{"", "LAMBDA nat nat {TICKET; FAILWITH; DROP}", "ErrType"},
		{"", "LAMBDA nat nat {CAR 1; TICKET}", "ErrType"},
		{"", "LAMBDA nat nat {NIL TICKET}", "ErrType"},
		{"", "LAMBDA nat nat {CAR 1}", "ErrForm"},
		{"", "LAMBDA nat {TICKET}", "ErrForm"},
		{"", "LAMBDA nat 5 {TICKET}", "ErrForm"},
		{"", "LAMBDA nat nat TICKET", "ErrForm"},
		{"bool : nat : nat", "LAMBDA nat nat {}; DROP; IF {TICKET} {PAIR; DROP; NONE (ticket nat)}", "option (ticket nat)"},
		{"", "LAMBDA nat nat {CAR}; LAMBDA nat nat {TICKET}", "ErrType"},
		{"", "LAMBDA (ticket nat) (ticket nat) {}", "lambda (ticket nat) (ticket nat)"},
	} {
		x.test(t)
	}
}

// The first error is answered: a form ahead of types, the types that stand there ahead of the ways, the first way ahead of the second, both ahead of their not being alike.
func TestCodeOrderOfErrors(t *testing.T) {
	for _, x := range []example{
		{"", "DROP; DUP", "ErrType"},
		{"", "DUP; DROP", "ErrForm"},
		{"", "DROP 1", "ErrForm"},
		{"", "CAR; IF", "ErrType"},
		{"", "IF {} 1", "ErrForm"},
		{"nat", "IF {CAR 1} {}", "ErrType"},
		{"bool", "IF {CAR 1} {CAR}", "ErrForm"},
		{"bool", "IF {CAR} {CAR 1}", "ErrType"},
		{"bool", "IF {SELF} {CAR 1}", "ErrForm"},
		{"bool : nat", "IF {FAILWITH} {CAR 1}", "ErrForm"},
		{"bool : nat", "IF {CAR 1} {FAILWITH}", "ErrForm"},
		{"bool : nat", "IF {FAILWITH} {CAR}", "ErrType"},
		{"bool", "IF {SELF; 5} {}", "ErrForm"},
		{"list nat", "ITER {DROP; SELF; 5}", "ErrForm"},
		{"bool", "LOOP {5}", "ErrForm"},
		{"nat", "LOOP {5}", "ErrType"},
		{"nat", "ITER {5}", "ErrType"},
		{"", "DIP {5}", "ErrType"},
		{"nat", "DIP {5}", "ErrForm"},
		{"nat", "DIP {CAR}", "ErrType"},
		{"nat", "{CAR; 5}", "ErrType"},
		{"nat", "{5; CAR}", "ErrForm"},
		{"nat", "{DROP}; CAR; 5", "ErrType"},
		{"", "PUSH 5 (ticket nat)", "ErrForm"},
		{"", "EMPTYMAP (list nat) 5", "ErrForm"},
		{"", "EMPTYMAP 5 (list nat)", "ErrForm"},
		{"ticket nat", "DUP 41", "ErrForm"},
		{"operation", "TRANSFER (list 5)", "ErrForm"},
	} {
		x.test(t)
	}
}

// instructionArgs are Args that each instruction takes; those that are not here take none.
var instructionArgs = map[string]string{
	"DUP": "1", "DIG": "0", "DUG": "0", "PUSH": "nat 5", "LEFT": "nat", "RIGHT": "nat", "NONE": "nat", "NIL": "nat", "UNPACK": "nat", "TRANSFER": "nat",
	"EMPTYMAP": "nat nat", "IFLEFT": "{} {}", "IFNONE": "{} {}", "IFCONS": "{} {}", "IF": "{} {}", "ITER": "{}", "LOOP": "{}", "DIP": "{}", "LAMBDA": "nat nat {}",
}

func TestCodeForms(t *testing.T) {
	// From an empty stack an instruction of the right form has another error, if any.
	isForm := func(n api.Node) bool { return answer(Code(seq(n), nil)) == "ErrForm" }
	other := []api.Node{number(3), text("x"), seq(), prim(api.Nat), prim(api.SELF), prim(api.DUnit)}
	fits := func(form, arg api.Node) bool {
		if form.Kind == api.Prim {
			return arg.Kind == api.Prim && arg.P == api.Nat
		}
		return form.Kind == arg.Kind
	}
	for name, p := range instructionNames {
		args := rowOf("DUP " + instructionArgs[name]).Args[0].Args
		if n := prim(p, args...); isForm(n) {
			t.Errorf("%s: ErrForm", shown(n))
		}
		if len(args) > 0 {
			if n := prim(p, args[:len(args)-1]...); !isForm(n) {
				t.Errorf("%s: not ErrForm", shown(n))
			}
			if n := prim(p, args[1:]...); !isForm(n) {
				t.Errorf("%s: not ErrForm", shown(n))
			}
		}
		for _, x := range other {
			if n := prim(p, append(slices.Clone(args), x)...); !isForm(n) {
				t.Errorf("%s: not ErrForm", shown(n))
			}
			for i := range args {
				n := prim(p, slices.Clone(args)...)
				n.Args[i] = x
				// What PUSH pushes is anything.
				want := !fits(args[i], x) && !(p == api.PUSH && i == 1)
				if isForm(n) != want {
					t.Errorf("%s: %v", shown(n), isForm(n))
				}
			}
		}
	}
	for _, n := range other {
		if n.Kind == api.Seq || n.P == api.SELF {
			continue
		}
		if !isForm(n) {
			t.Errorf("%s: no ErrForm", shown(n))
		}
	}
	for p := range api.DROP {
		if e := errorOf(seq(prim(p)), nil); e != api.ErrForm && e != api.ErrKind {
			t.Errorf("primitive %d: %d", p, e)
		}
	}
	for _, s := range []string{"NIL (list nat nat)", "NIL (map (list nat) nat)", "NIL list", "NIL (nat nat)", "NIL (ticket operation)", "NIL (list DUnit)", "NIL {}", "NIL {nat}", "LEFT 5",
		"LAMBDA nat (ticket (list nat)) {}", "LAMBDA (pair nat) nat {}", "PUSH (map operation nat) {}", "DUP -1", "DIG -1", "DUG -1", "DUP 41", "DIG 41", "DUG 41", "DUP 1152921504606846976"} {
		example{"nat : nat", s, "ErrForm"}.test(t)
	}
}

// errorOf is the error of Code alone.
func errorOf(n api.Node, s []api.Type) api.Errno {
	_, e := Code(n, s)
	return e
}

// counted are n types, each another one than those next to it.
func counted(n int) []api.Type {
	kinds := []string{"nat", "string", "bool", "address", "mutez"}
	var list []api.Type
	for i := range n {
		list = append(list, typeOf("pair "+kinds[i%5]+" "+kinds[i/5%5]))
	}
	return list
}

func TestCodeDigDupDug(t *testing.T) {
	for _, size := range []int{0, 1, 2, 3, 10, 39, 40} {
		s := counted(size)
		for n := -2; n < 50; n++ {
			want := map[string]string{"DUP": "ErrType", "DIG": "ErrType", "DUG": "ErrType"}
			for name := range want {
				if n < 0 || n > 40 {
					want[name] = "ErrForm"
				}
			}
			if 1 <= n && n <= size {
				want["DUP"] = shownTypes(slices.Concat(s[n-1:n], s))
				if size == 40 {
					want["DUP"] = "ErrFull"
				}
			}
			if 0 <= n && n < size {
				want["DIG"] = shownTypes(slices.Concat(s[n:n+1], s[:n], s[n+1:]))
				want["DUG"] = shownTypes(slices.Concat(s[1:n+1], s[:1], s[n+1:]))
			}
			for name, to := range want {
				if got := answer(Code(seq(prim(instructionNames[name], number(n))), s)); got != to {
					t.Errorf("%s %d of %d types: %q, wanted %q", name, n, size, got, to)
				}
			}
		}
	}
}

// filled are types with so many below them that there are n in all.
func filled(n int, top string) []api.Type {
	list := typesOf(top)
	return append(list, counted(n-len(list))...)
}

func TestCodeMaxStack(t *testing.T) {
	for _, n := range []int{0, 1, 39, 40} {
		s := counted(n)
		if got := answer(Code(seq(), s)); got != shownTypes(s) {
			t.Errorf("an empty row of %d types: %q", n, got)
		}
		if got := answer(Code(seq(seq(), seq(seq())), s)); got != shownTypes(s) {
			t.Errorf("empty rows of %d types: %q", n, got)
		}
	}
	for _, n := range []int{41, 42, 1000} {
		for _, code := range []string{"", "DROP", "DROP; DROP", "5"} {
			if got := answer(Code(rowOf(code), counted(n))); got != "ErrFull" {
				t.Errorf("%s from %d types: %q", code, n, got)
			}
		}
	}
	for _, x := range []struct {
		top, code string
		full      int // so many types are too many
	}{
		{"nat", "DUP 1", 40}, {"", "PUSH nat 1", 40}, {"pair nat nat", "UNPAIR", 40}, {"", "NONE nat", 40}, {"", "NIL nat", 40}, {"", "EMPTYMAP nat nat", 40},
		{"", "LAMBDA nat nat {}", 40}, {"ticket nat", "READ", 40}, {"", "SELF", 40}, {"", "SENDER", 40}, {"", "AMOUNT", 40}, {"", "BALANCE", 40},
		{"", "SELF; DROP", 40}, {"", "{SELF; DROP}", 40}, {"", "{SELF}; DROP", 40}, {"", "SELF; SELF; DROP; DROP", 39}, {"", "SELF; FAILWITH", 40},
		{"nat", "DIP {SELF}", 40}, {"nat", "DIP {SELF; DROP}", 41}, {"nat", "DIP {SELF; SELF; DROP; DROP}", 40}, {"nat : nat", "DIP {DIP {SELF; SELF; DROP; DROP}}", 41},
		{"nat", "DIP {SELF}; DROP", 40}, {"nat : nat", "DIP {DIP {SELF}}", 40},
		{"bool", "IF {SELF} {SELF}", 41}, {"bool", "IF {SELF; SELF} {SELF; SELF}", 40}, {"bool", "IF {SELF; SELF; FAILWITH} {}", 40}, {"bool", "IF {} {SELF; SELF; FAILWITH}", 40},
		{"or nat nat", "IFLEFT {} {}", 41}, {"or nat nat", "IFLEFT {SELF} {SELF}", 40}, {"option nat", "IFNONE {SELF; FAILWITH} {}", 41}, {"option nat", "IFNONE {SELF; SELF; DROP; DROP} {DROP}", 40},
		{"list nat", "IFCONS {DROP; DROP} {}", 41}, {"list nat", "IFCONS {FAILWITH} {}", 41}, {"list nat", "IFCONS {} {SELF; FAILWITH}", 40}, {"list nat", "IFCONS {{}; DROP; DROP} {}", 40},
		{"list nat", "ITER {DROP; SELF; DROP}", 41}, {"list nat", "ITER {SELF; DROP; DROP}", 40},
		{"bool", "LOOP {PUSH bool DTrue}", 41}, {"bool", "LOOP {SELF; SELF; FAILWITH}", 40},
		{"", "DROP; LAMBDA nat nat {}", 41}, {"nat : nat", "SWAP; DIG 1; DUG 1; PAIR", 41}, {"nat", "SOME; LEFT nat; RIGHT nat", 41},
	} {
		for n := 38; n <= 40; n++ {
			e := errorOf(rowOf(x.code), filled(n, x.top))
			if want := n >= x.full; (e == api.ErrFull) != want || !want && e != api.OK {
				t.Errorf("%s from %q with %d types in all: %d", x.code, x.top, n, e)
			}
		}
	}
}

// A lambda begins with one type, whatever stands where it is made.
func TestCodeMaxStackInLambda(t *testing.T) {
	within := func(n int) string {
		return "LAMBDA nat nat {" + strings.Repeat("SELF;", n) + strings.Repeat("DROP;", n) + "}"
	}
	s := counted(39)
	if e := errorOf(rowOf(within(39)), s); e != api.OK {
		t.Errorf("40 types in a lambda: %d", e)
	}
	if e := errorOf(rowOf(within(40)), nil); e != api.ErrFull {
		t.Errorf("41 types in a lambda: %d", e)
	}
}

// under lays a type under n options, one within the other.
func under(n int, t api.Type) api.Type {
	for range n {
		t = api.Type{T: api.Option, Args: []api.Type{t}}
	}
	return t
}

// many is a type of n numbers in pairs: it is of 2n - 1 types in all, and no deeper than it takes.
func many(n int) api.Type {
	if n == 1 {
		return typeOf("nat")
	}
	return api.Type{T: api.Pair, Args: []api.Type{many(n / 2), many(n - n/2)}}
}

func wrap(k int, args ...api.Type) api.Type { return api.Type{T: k, Args: args} }

func TestCodeTooLarge(t *testing.T) {
	nat, ticket := typeOf("nat"), func(t api.Type) api.Type { return wrap(api.Ticket, t) }
	for _, x := range []struct {
		code string
		fine []api.Type // types that lead to good ones
		not  []api.Type // types that lead to ones that are not good
	}{
		// Too deep.
		{"SOME", []api.Type{under(22, nat)}, []api.Type{under(23, nat)}},
		{"LEFT nat", []api.Type{under(22, nat)}, []api.Type{under(23, nat)}},
		{"RIGHT nat", []api.Type{under(22, nat)}, []api.Type{under(23, nat)}},
		{"PAIR", []api.Type{nat, under(22, nat)}, []api.Type{nat, under(23, nat)}},
		{"PAIR", []api.Type{under(22, nat), nat}, []api.Type{under(23, nat), nat}},
		{"READ", []api.Type{ticket(under(21, nat))}, []api.Type{ticket(under(22, nat))}},
		{"SPLIT", []api.Type{ticket(under(20, nat)), typeOf("pair nat nat")}, []api.Type{ticket(under(21, nat)), typeOf("pair nat nat")}},
		{"TICKET", []api.Type{under(21, nat), nat}, []api.Type{under(22, nat), nat}},
		{"{SOME; SOME}", []api.Type{under(21, nat)}, []api.Type{under(22, nat)}},
		{"SOME; DROP", []api.Type{under(22, nat)}, []api.Type{under(23, nat)}},
		{"DIP {SOME}", []api.Type{nat, under(22, nat)}, []api.Type{nat, under(23, nat)}},
		{"LOOP {SOME; DROP; PUSH nat 1; FAILWITH}", []api.Type{typeOf("bool"), under(22, nat)}, []api.Type{typeOf("bool"), under(23, nat)}},
		// Too many in all.
		{"SOME", []api.Type{many(150)}, []api.Type{wrap(api.Option, many(150))}},
		{"PAIR", []api.Type{many(75), many(75)}, []api.Type{many(75), many(76)}},
		{"PAIR", []api.Type{wrap(api.Option, many(75)), many(75)}, []api.Type{wrap(api.Option, many(75)), wrap(api.Option, many(75))}},
		{"LEFT nat", []api.Type{many(149)}, []api.Type{many(150)}},
		{"READ", []api.Type{ticket(many(148))}, []api.Type{ticket(many(149))}},
		{"SPLIT", []api.Type{ticket(many(74)), typeOf("pair nat nat")}, []api.Type{ticket(many(75)), typeOf("pair nat nat")}},
		{"TICKET", []api.Type{many(149), nat}, []api.Type{many(150), nat}},
		{"DUP 1; PAIR", []api.Type{many(75)}, []api.Type{many(76)}},
	} {
		if e := errorOf(rowOf(x.code), x.fine); e != api.OK {
			t.Errorf("%s: %d", x.code, e)
		}
		if got := answer(Code(rowOf(x.code), x.not)); got != "ErrLong" {
			t.Errorf("%s: %q", x.code, got)
		}
	}
	// What is taken apart may be as large as a type may be.
	for _, x := range []struct {
		code string
		t    api.Type
	}{
		{"ITER {DROP}", wrap(api.Map, many(75), many(75))}, {"ITER {DROP}", wrap(api.Map, under(22, nat), under(22, nat))}, {"ITER {DROP}", wrap(api.List, under(22, nat))},
		{"UNPAIR; DROP; DROP", many(150)}, {"IFCONS {DROP; DROP} {}", wrap(api.List, under(22, nat))}, {"IFLEFT {DROP} {DROP}", wrap(api.Or, many(75), many(75))},
	} {
		if got := answer(Code(rowOf(x.code), []api.Type{x.t})); got != "" {
			t.Errorf("%s: %q", x.code, got)
		}
	}
}

// Types of an instruction's Args may be too large to be made of: as deep as a tree lets them be, two rows below its top.
func TestCodeTooLargeByArgs(t *testing.T) {
	deep := under(21, typeOf("nat")) // 22 deep, and 24 in the tree
	for _, x := range []struct {
		n    api.Node
		from []api.Type
	}{
		{prim(api.NIL, asNode(deep)), nil},
		{prim(api.NONE, asNode(deep)), nil},
		{prim(api.LEFT, asNode(deep)), typesOf("nat")},
	} {
		if e := errorOf(seq(x.n), x.from); e != api.OK {
			t.Errorf("%s: %d", shown(x.n), e)
		}
		if got := answer(Code(seq(x.n, prim(api.SOME), prim(api.SOME)), x.from)); got != "ErrLong" {
			t.Errorf("%s: %q", shown(x.n), got)
		}
	}
	if e := errorOf(seq(prim(api.NIL, asNode(under(22, typeOf("nat"))))), nil); e != api.ErrLong {
		t.Errorf("a tree that is too deep: %d", e)
	}
	// A type of 297 nodes, the instruction and the row are a tree of 299; types in pairs come to two more.
	if e := errorOf(seq(prim(api.NIL, asNode(many(149)))), nil); e != api.OK {
		t.Errorf("a tree of 299 nodes: %d", e)
	}
	if e := errorOf(seq(prim(api.NIL, asNode(many(150)))), nil); e != api.ErrLong {
		t.Errorf("a tree of 301 nodes: %d", e)
	}
	if got := answer(Code(seq(prim(api.LEFT, asNode(many(140)))), []api.Type{many(10)})); got != shownTypes([]api.Type{wrap(api.Or, many(10), many(140))}) {
		t.Errorf("LEFT to 299 types: %q", got)
	}
	if got := answer(Code(seq(prim(api.LEFT, asNode(many(140)))), []api.Type{many(11)})); got != "ErrLong" {
		t.Errorf("LEFT to 301 types: %q", got)
	}
	if got := answer(Code(seq(prim(api.LAMBDA, asNode(many(74)), asNode(many(74)), seq())), nil)); got != shownTypes([]api.Type{wrap(api.Lambda, many(74), many(74))}) {
		t.Errorf("LAMBDA of 295 types: %q", got)
	}
}

// More types than may be come ahead of one that is too large.
func TestCodeFullAheadOfLong(t *testing.T) {
	ticket := wrap(api.Ticket, under(22, typeOf("nat")))
	if got := answer(Code(rowOf("READ"), append([]api.Type{ticket}, counted(38)...))); got != "ErrLong" {
		t.Errorf("READ of 39 types: %q", got)
	}
	if got := answer(Code(rowOf("READ"), append([]api.Type{ticket}, counted(39)...))); got != "ErrFull" {
		t.Errorf("READ of 40 types: %q", got)
	}
}

// rows is n rows, one within the other, the innermost one of these nodes.
func rows(n int, last ...api.Node) api.Node {
	x := seq(last...)
	for range n - 1 {
		x = seq(x)
	}
	return x
}

// What is wrong with what is handed in is told by its order.
func TestCodeHandedIn(t *testing.T) {
	bad := func(n int) []api.Type { return append(counted(n-1), api.Type{T: api.Pair}) }
	for i, x := range []struct {
		n api.Node
		s []api.Type
		e api.Errno
	}{
		{seq(), nil, api.OK},
		{seq(), []api.Type{}, api.OK},
		{api.Node{Kind: api.Seq, Args: []api.Node{}}, nil, api.OK},
		{number(0), nil, api.ErrForm},
		{text("x"), nil, api.ErrForm},
		{prim(api.SELF), nil, api.ErrForm},
		{prim(api.DROP), counted(1), api.ErrForm},
		{prim(api.Nat), nil, api.ErrForm},
		{api.Node{Kind: 4}, nil, api.ErrKind},
		{api.Node{Kind: -1}, nil, api.ErrKind},
		{prim(96), nil, api.ErrKind},
		{seq(prim(96)), nil, api.ErrKind},
		{seq(prim(api.DROP), prim(39)), nil, api.ErrKind},
		{api.Node{Kind: api.Seq, N: 1}, nil, api.ErrForm},
		{seq(api.Node{Kind: api.Seq, P: api.DROP}), nil, api.ErrForm},
		{seq(prim(api.DROP), number(api.MaxInt+1)), nil, api.ErrRange},
		{seq(prim(api.DROP), text(strings.Repeat("x", 201))), nil, api.ErrLong},
		{rows(24), nil, api.OK},
		{rows(25), nil, api.ErrLong},
		{rows(23, prim(api.SELF)), nil, api.OK},
		{rows(24, prim(api.SELF)), nil, api.ErrLong},
		{seq(slices.Repeat([]api.Node{seq()}, 299)...), nil, api.OK},
		{seq(slices.Repeat([]api.Node{seq()}, 300)...), nil, api.ErrLong},
		{seq(), counted(41), api.ErrFull},
		{seq(), bad(1), api.ErrType},
		{seq(), bad(40), api.ErrType},
		{seq(), append([]api.Type{{}}, counted(3)...), api.ErrType},
		{seq(), []api.Type{under(24, typeOf("nat"))}, api.ErrType},
		{seq(), []api.Type{many(151)}, api.ErrType},
		{seq(), typesOf("nat : map (list nat) nat"), api.ErrType},
		// Several at once.
		{number(api.MaxInt + 1), bad(41), api.ErrRange},
		{seq(prim(96)), bad(41), api.ErrKind},
		{seq(prim(96)), bad(1), api.ErrKind},
		{prim(api.SELF), bad(41), api.ErrForm},
		{prim(api.SELF), bad(1), api.ErrForm},
		{seq(number(1)), bad(41), api.ErrFull},
		{seq(number(1)), bad(1), api.ErrType},
		{seq(prim(api.DROP)), bad(1), api.ErrType},
		{seq(prim(api.CAR), prim(96)), nil, api.ErrKind},
	} {
		got, e := Code(x.n, x.s)
		if e != x.e {
			t.Errorf("handed in %d: %d, wanted %d", i, e, x.e)
		}
		if answer(got, e) == "an error, and not nothing" {
			t.Errorf("handed in %d: %v beside an error", i, got)
		}
	}
}

// Lists that hold themselves end, too.
func TestCodeRings(t *testing.T) {
	nodes := []api.Node{seq(), prim(api.IF)}
	nodes[0].Args, nodes[1].Args = nodes, nodes
	if e := errorOf(nodes[0], nil); e != api.ErrLong {
		t.Errorf("a row that holds itself: %d", e)
	}
	types := []api.Type{{T: api.Pair}, {T: api.Pair}}
	types[0].Args, types[1].Args = types, types
	if e := errorOf(seq(), types); e != api.ErrType {
		t.Errorf("types that hold themselves: %d", e)
	}
}

// What is handed in stays, and its spare room, too; an answer is new memory.
func TestCodeStays(t *testing.T) {
	for _, x := range fitting {
		n := rowOf(x.code)
		parts := typesOf("bool : unit : operation : address")
		s := append(typesOf(x.from), wrap(api.Pair, parts[:2]...), typeOf("list nat"))
		whole := slices.Concat(s, parts)
		wantN, wantS := shown(n), shownTypes(whole)
		got, e := Code(n, whole[:len(s):len(whole)])
		if e != api.OK {
			t.Errorf("%s from %q: %d", x.code, x.from, e)
		}
		before := shownTypes(got.Types)
		count := 0
		numbered(got.Types, &count)
		if count = 0; !isNumbered(got.Types, &count) {
			t.Errorf("%s: two lists of one answer are one", x.code)
		}
		if again := answer(Code(n, s)); again != before {
			t.Errorf("%s: first %q, then %q", x.code, before, again)
		}
		if shown(n) != wantN || shownTypes(whole) != wantS || shownTypes(parts) != "bool : unit : operation : address" {
			t.Errorf("%s: what was handed in is now %s, %q", x.code, shown(n), shownTypes(whole))
		}
	}
}

// numbered writes another number into each type, down to the last.
func numbered(s []api.Type, count *int) {
	for i := range s {
		*count++
		s[i].T = 1000 + *count
		numbered(s[i].Args, count)
	}
}

func isNumbered(s []api.Type, count *int) bool {
	for i := range s {
		*count++
		if s[i].T != 1000+*count || !isNumbered(s[i].Args, count) {
			return false
		}
	}
	return true
}

// Large code on large types takes no longer than its size lets one think.
func TestCodeLarge(t *testing.T) {
	var s []api.Type
	for range 40 {
		s = append(s, many(150))
	}
	if e := errorOf(seq(slices.Repeat([]api.Node{prim(api.SWAP)}, 299)...), s); e != api.OK {
		t.Errorf("299 SWAPs: %d", e)
	}
	// Pairs of what is there twice double each time.
	for n := range 10 {
		x := answer(Code(rowOf(strings.Repeat("DUP 1; PAIR;", n)), typesOf("nat")))
		if (x == "ErrLong") != (n > 7) {
			t.Errorf("doubled "+strconv.Itoa(n)+" times: %q", x)
		}
	}
}
