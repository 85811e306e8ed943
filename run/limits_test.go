package run

import (
	"slices"
	"strconv"
	"strings"
	"testing"

	"touchstone/api"
	"touchstone/value"
)

// P6.2: what is too large to be put

// wide is a type that can be compared, with values of any Size from 15 to 215.
const wide = "(pair string (pair string (pair string (pair string (pair string (pair string (pair string string)))))))"

// sized is a value of the type wide with this Size, as a text.
func sized(n int) string {
	left := n - 15
	text := func() string {
		k := min(left, 25)
		left -= k
		// Up to seven bytes more make a text no larger.
		return strconv.Quote(strings.Repeat("x", min(8*k+7, 200)))
	}
	s := text()
	for range 7 {
		s = "(DPair " + text() + " " + s + ")"
	}
	return s
}

func TestSized(t *testing.T) {
	for n := 15; n <= 215; n++ {
		types, stack := stackOf(wide + sized(n))
		if !value.Has(types[0], stack[0]) || value.Size(stack[0]) != n {
			t.Errorf("%d: %d", n, value.Size(stack[0]))
		}
	}
}

// fill lays a value of some Size, and its type, where a text has # and @.
func fill(s string, n int) string {
	return strings.ReplaceAll(strings.ReplaceAll(s, "@", wide), "#", sized(n))
}

// most is the greatest Size that the value # may have.
func TestBig(t *testing.T) {
	for _, x := range []struct {
		from, code string
		most       int
	}{
		{"@ #", "DUP 1", 200},
		{"nat 1 : @ #", "DUP 2", 200},
		{"@ # : nat 1", "SWAP", 200},
		{"nat 1 : @ #", "SWAP", 200},
		{"", "PUSH @ #", 200},
		{"@ # : nat 1", "PAIR", 198},
		{"nat 1 : @ #", "PAIR", 198},
		{"(pair @ nat) (DPair # 1)", "UNPAIR", 200},
		{"(pair nat @) (DPair 1 #)", "UNPAIR", 200},
		{"(pair @ nat) (DPair # 1)", "CAR", 200},
		{"(pair nat @) (DPair 1 #)", "CDR", 200},
		{"@ #", "LEFT nat", 199},
		{"@ #", "RIGHT nat", 199},
		{"@ #", "SOME", 199},
		{"(or @ @) (DLeft #)", "IFLEFT {} {}", 200},
		{"(or @ @) (DRight #)", "IFLEFT {} {}", 200},
		{"(option @) (DSome #)", "IFNONE {SELF} {DROP; SENDER}", 200},
		{"(list @) {#}", "IFCONS {DROP; DROP} {}", 200},
		{`(list (pair @ nat)) {DPair # 1; DPair ` + sized(15) + ` 1}`, "IFCONS {DROP; DROP} {}", 198},
		{`(list (pair @ nat)) {DPair ` + sized(15) + ` 1; DPair # 1}`, "IFCONS {DROP; DROP} {}", 197},
		{"@ # : (list @) {}", "CONS", 199},
		{"(pair @ nat) (DPair # 1) : (list (pair @ nat)) {DPair # 1}", "CONS", 97},
		{"nat 1 : (map nat @) {DElt 1 #}", "GET", 199},
		{"nat 1 : (option @) (DSome #) : (map nat @) {}", "UPDATE", 197},
		{"nat 1 : (option @) DNone : (map nat @) {DElt 1 #; DElt 2 #}", "UPDATE", 197},
		{"nat 3 : (option @) DNone : (map nat @) {DElt 1 #; DElt 2 #}", "UPDATE", 97},
		{"@ # : (option nat) (DSome 1) : (map @ nat) {}", "UPDATE", 197},
		{"@ # : nat 1", "TICKET", 198},
		{"(ticket @) (Ticket 1 1 #)", "READ", 196},
		{"(ticket @) (Ticket 1 2 #) : (pair nat nat) (DPair 1 1)", "SPLIT", 98},
		{"(pair (ticket @) (ticket @)) (DPair (Ticket 1 1 #) (Ticket 1 1 #))", "JOIN", 198},
		{"@ # : mutez 0 : address 1", "TRANSFER @", 199},
		{"(pair @ nat) (DPair # 1)", "UNPAIR; PAIR; CAR; SOME; IFNONE {PUSH unit DUnit; FAILWITH} {}; DUP 1", 198},
	} {
		for _, n := range []int{15, x.most - 1, x.most, x.most + 1, 215} {
			types, stack := stackOf(fill(x.from, n))
			r := Run(env, codeOf(fill(x.code, n)), types, stack, 99)
			if n <= x.most && r.Code != api.OK || n > x.most && (answer(r) != "ErrBig" || r.Gas == 0) {
				t.Errorf("%s on %s, where # is %d large: %s by %d steps", x.code, x.from, n, errorNames[r.Code], r.Gas)
			}
		}
	}
}

// What is moved, taken off or only looked at may be of any size, and so may what is not touched.
func TestBigMoves(t *testing.T) {
	items := "{" + strings.Repeat("#; ", 23) + "#}"
	for _, x := range []struct{ from, code, to string }{
		{"@ #", "", "#"},
		{"@ #", "DROP", ""},
		{"@ # : nat 1", "DIG 0", "# : 1"},
		{"@ # : nat 1", "DIG 1", "1 : #"},
		{"nat 1 : @ #", "DIG 1", "# : 1"},
		{"@ # : nat 1", "DUG 0", "# : 1"},
		{"@ # : nat 1", "DUG 1", "1 : #"},
		{"nat 1 : @ #", "DUG 1", "# : 1"},
		{"@ # : nat 1 : nat 2", "DIP {ADD}", "# : 3"},
		{"nat 1 : @ #", "DIP {}", "1 : #"},
		{"nat 1 : @ #", "DUP 1; ADD", "2 : #"},
		{"@ # : (lambda @ @) {} : @ #", "EXEC", "# : #"},
		{"@ # : (lambda @ nat) {DROP; PUSH nat 1} : @ #", "EXEC", "1 : #"},
		{"(list @) " + items, "ITER {DROP}", ""},
		{"(list @) " + items + " : nat 0", "ITER {DROP; PUSH nat 1; ADD}", "24"},
		{"(list @) {#} : @ #", "ITER {DIG 1; DROP}", "#"},
		{"(map nat @) {DElt 1 #; DElt 2 #} : nat 0", "ITER {CAR; ADD}", "3"},
		{"bool DTrue : @ #", "LOOP {PUSH bool DFalse}", "#"},
		{"bool DTrue : @ # : (list bool) {DTrue; DFalse}", "LOOP {DIG 1; IFCONS {} {NIL bool; PUSH bool DFalse}; DIP {DUG 1}}", "# : {}"},
		{"bool DTrue : @ #", "IF {} {}", "#"},
		{"(option @) DNone : @ #", "IFNONE {} {DROP}", "#"},
		{"(list @) " + items, "SIZE", "24"},
		{"(pair nat @) (DPair 1 #)", "CAR", "1"},
		{"(pair @ nat) (DPair # 1)", "CDR", "1"},
		{"@ # : @ #", "COMPARE", "0"},
		{"nat 2 : (map nat @) {DElt 1 #}", "GET", "DNone"},
		{"nat 1 : (option @) DNone : (map nat @) {DElt 1 #}", "UPDATE", "{}"},
		{"@ # : nat 0", "TICKET", "DNone"},
		{"(ticket @) (Ticket 1 2 #) : (pair nat nat) (DPair 1 2)", "SPLIT", "DNone"},
		{"(pair (ticket @) (ticket @)) (DPair (Ticket 1 1 #) (Ticket 2 1 #))", "JOIN", "DNone"},
		{"@ #", "FAILWITH", "ErrFail #"},
		{"(pair @ @) (DPair # #)", "FAILWITH", "ErrFail (DPair # #)"},
	} {
		types, stack := stackOf(fill(x.from, 215))
		r := Run(env, codeOf(x.code), types, stack, 999)
		if answer(r) != fill(x.to, 215) {
			t.Errorf("%s on %s: %s", x.code, x.from, errorNames[r.Code])
		}
	}
}

// An instruction that is refused for what it does puts nothing, be that too large.
func TestOverAndBig(t *testing.T) {
	for _, x := range []struct{ from, code string }{
		{"@ # : nat 1152921504606846976 : unit DUnit : nat 1", "DIG 3; DIG 3; TICKET; DROP; TICKET"},
		{"(pair (ticket @) (ticket @)) (DPair (Ticket 1 1152921504606846976 #) (Ticket 1 1 #))", "JOIN"},
	} {
		types, stack := stackOf(fill(x.from, 199))
		if r := Run(env, codeOf(x.code), types, stack, 99); answer(r) != "ErrOver" {
			t.Errorf("%s: %+v", x.code, r)
		}
	}
}

// P6.4: limits of lists, maps and texts

// items are numbers from 1 on, with what stands behind each.
func items(n int, each string) string {
	var list []string
	for i := range n {
		list = append(list, strings.ReplaceAll(each, "#", strconv.Itoa(i+1)))
	}
	return "{" + strings.Join(list, "; ") + "}"
}

func TestMaxItems(t *testing.T) {
	list := func(n int) string { return "(list nat) " + items(n, "#") }
	pairs := func(n int) string { return "(map nat unit) " + items(n, "DElt # DUnit") }
	some, none := "(option unit) (DSome DUnit) : ", "(option unit) DNone : "
	for _, x := range []struct {
		from, code string
		size       int // below 0: ErrBig
	}{
		{"nat 7 : " + list(22), "CONS", 23},
		{"nat 7 : " + list(23), "CONS", 24},
		{"nat 7 : " + list(24), "CONS", -1},
		{"nat 7 : nat 8 : " + list(23), "DIP {CONS}; CONS", -1},
		{"nat 0 : " + some + pairs(23), "UPDATE", 24},
		{"nat 99 : " + some + pairs(23), "UPDATE", 24},
		{"nat 0 : " + some + pairs(24), "UPDATE", -1},
		{"nat 99 : " + some + pairs(24), "UPDATE", -1},
		{"nat 1 : " + some + pairs(24), "UPDATE", 24},
		{"nat 24 : " + some + pairs(24), "UPDATE", 24},
		{"nat 24 : " + none + pairs(24), "UPDATE", 23},
		{"nat 1 : " + none + pairs(24), "UPDATE", 23},
		{"nat 0 : " + none + pairs(24), "UPDATE", 24},
	} {
		types, stack := stackOf(x.from)
		r := Run(env, codeOf(x.code), types, stack, 99)
		switch {
		case x.size < 0 && answer(r) != "ErrBig":
			t.Errorf("%s on %s: %+v", x.code, x.from, r)
		case x.size >= 0 && (len(r.Stack) != 1 || len(r.Stack[0].Args) != x.size):
			t.Errorf("%s on %s: %+v", x.code, x.from, r)
		}
	}
}

func TestMaxText(t *testing.T) {
	x := func(n int) string { return `string "` + strings.Repeat("x", n) + `"` }
	y := func(n int) string { return `string "` + strings.Repeat("y", n) + `"` }
	for _, c := range []struct {
		from, code string
		size       int // below 0: ErrBig
	}{
		{x(100) + " : " + y(100), "CONCAT", 200},
		{x(200) + " : " + y(0), "CONCAT", 200},
		{x(0) + " : " + y(200), "CONCAT", 200},
		{x(100) + " : " + y(101), "CONCAT", -1},
		{x(200) + " : " + y(1), "CONCAT", -1},
		{x(1) + " : " + y(200), "CONCAT", -1},
		{x(200) + " : " + y(200), "CONCAT", -1},
		{x(196), "PACK", 200},
		{x(197), "PACK", -1},
		{"(list (list nat)) {" + strings.Repeat(items(24, "#")+"; ", 4) + "}", "PACK", -1},
		{"(list (list nat)) {" + strings.Repeat(items(24, "#")+"; ", 23) + "}", "PACK", -1},
		{"(list (list nat)) {" + strings.Repeat(items(20, "#")+"; ", 4) + "}", "PACK", 171},
	} {
		types, stack := stackOf(c.from)
		r := Run(env, codeOf(c.code), types, stack, 99)
		switch {
		case c.size < 0 && answer(r) != "ErrBig":
			t.Errorf("%s on %s: %+v", c.code, c.from, r)
		case c.size >= 0 && (len(r.Stack) != 1 || len(r.Stack[0].S) != c.size):
			t.Errorf("%s on %s: %+v", c.code, c.from, r)
		}
	}
}

// As many values as there may be, in a row and in those of a lambda.
func TestFullStack(t *testing.T) {
	var types []api.Type
	var stack []api.Value
	for i := range 40 {
		types, stack = append(types, api.Type{T: api.Nat}), append(stack, api.Value{K: api.Nat, N: i})
	}
	for _, x := range []struct {
		code  string
		first []int
		gas   int
	}{
		{"DIG 39", []int{39, 0, 1}, 1},
		{"DUG 39", []int{1, 2, 3}, 1},
		{"DROP; DUP 39", []int{39, 1, 2}, 2},
		{"DIP {DIP {DROP; DUP 37}}", []int{0, 1, 39}, 4},
		{"DROP; DROP; LAMBDA nat nat {" + strings.Repeat("DUP 1; ", 39) + strings.Repeat("DROP; ", 39) + "}; SWAP; EXEC", []int{2, 3, 4}, 83},
	} {
		r := Run(env, codeOf(x.code), types, stack, 99)
		var first []int
		for _, v := range r.Stack[:min(3, len(r.Stack))] {
			first = append(first, v.N)
		}
		if r.Code != api.OK || r.Gas != x.gas || !slices.Equal(first, x.first) {
			t.Errorf("%s: %v, %+v", x.code, first, r)
		}
	}
}
