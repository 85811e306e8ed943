package ledger

import (
	"math"
	"slices"
	"strings"
	"testing"

	"touchstone/api"
)

// P7.2

// change is one of a ledger.
type change func(l *api.Ledger)

func TestGoodMoney(t *testing.T) {
	all := func(to int) change {
		return func(l *api.Ledger) {
			for i := range l.Accounts {
				l.Accounts[i].Balance = 0
			}
			l.Fees = 0
			if to < 0 {
				l.Fees = 4000000
				return
			}
			l.Accounts[to].Balance = 4000000
		}
	}
	// pass has an amount go from one account to another one, or to the fees.
	pass := func(from, to, n int) change {
		return func(l *api.Ledger) {
			l.Accounts[from].Balance -= n
			if to < 0 {
				l.Fees += n
				return
			}
			l.Accounts[to].Balance += n
		}
	}
	for i, x := range []struct {
		change change
		good   bool
	}{
		{func(l *api.Ledger) {}, true},
		{all(0), true},
		{all(3), true},
		{all(4), true},
		{all(-1), true},
		{all(7), false},
		{pass(0, 4, 100), true},
		{pass(6, -1, 700), true},
		{pass(6, 0, 701), false},
		{pass(6, -1, 701), false},
		{pass(0, -1, 101), false},
		{pass(3, 6, 401), false},
		{pass(0, 1, math.MaxInt), false},
		{pass(0, 7, 1), false},
		{func(l *api.Ledger) { l.Fees-- }, false},
		{func(l *api.Ledger) { l.Fees++ }, false},
		{func(l *api.Ledger) { l.Accounts[0].Balance-- }, false},
		{func(l *api.Ledger) { l.Accounts[3].Balance++ }, false},
		{func(l *api.Ledger) { l.Accounts[6].Balance++ }, false},
		{func(l *api.Ledger) { l.Fees = 0 }, false},
		// Fees below 0, though all comes to the grants.
		{func(l *api.Ledger) { l.Accounts[0].Balance += l.Fees + 1; l.Fees = -1 }, false},
		{func(l *api.Ledger) { all(0)(l); pass(0, -1, -1)(l) }, false},
		{func(l *api.Ledger) { all(-1)(l); pass(0, -1, 1)(l) }, false},
		{func(l *api.Ledger) { all(4)(l); pass(5, 4, 1)(l) }, false},
		// A sum that wraps round.
		{func(l *api.Ledger) {
			all(0)(l)
			l.Accounts[1].Balance, l.Accounts[2].Balance = math.MinInt, math.MinInt
		}, false},
		{func(l *api.Ledger) {
			for i := range 4 {
				l.Accounts[i].Balance += 1 << 62
			}
		}, false},
	} {
		l := crowd()
		x.change(&l)
		if got := Good(l); got != x.good {
			t.Errorf("change %d: %v, %+v", i, got, l)
		}
	}
}

func TestGoodKinds(t *testing.T) {
	is := func(i, kind int) change { return func(l *api.Ledger) { l.Accounts[i].Is = kind } }
	script := keeper("nat", "7")
	for i, x := range []struct {
		change change
		good   bool
	}{
		{func(l *api.Ledger) { *l = New() }, true},
		{func(l *api.Ledger) { *l = api.Ledger{} }, false},
		{func(l *api.Ledger) { *l = with(script, api.Account{}, script) }, true},
		{func(l *api.Ledger) { *l = with(slices.Repeat([]api.Account{script}, 8)...) }, true},
		{func(l *api.Ledger) { l.Accounts[11] = script }, true},
		// Other kinds where a kind must stand. Those that are taken away leave their money to the fees.
		{func(l *api.Ledger) { l.Accounts[3] = api.Account{}; l.Fees += 400 }, false},
		{func(l *api.Ledger) { l.Accounts[3] = script; l.Fees += 400 }, false},
		{func(l *api.Ledger) { l.Accounts[0] = script; l.Fees += 100 }, false},
		{func(l *api.Ledger) { l.Accounts[4] = api.Account{Is: api.Person}; l.Fees += 500 }, false},
		{func(l *api.Ledger) { l.Accounts[4] = api.Account{}; l.Fees += 500 }, true},
		{func(l *api.Ledger) { l.Accounts[4] = api.Account{Is: 3}; l.Fees += 500 }, false},
		{func(l *api.Ledger) { l.Accounts[4] = api.Account{Is: -1}; l.Fees += 500 }, false},
		{is(0, api.Nobody), false},
		{is(0, api.Contract), false},
		{is(0, 3), false},
		{is(2, -1), false},
		{is(4, api.Person), false},
		{is(4, api.Nobody), false},
		{is(4, 3), false},
		{is(4, -1), false},
		{is(11, api.Person), false},
		{is(11, api.Contract), false},
		{is(11, 3), false},
		{is(11, math.MinInt), false},
	} {
		l := crowd()
		x.change(&l)
		if got := Good(l); got != x.good {
			t.Errorf("change %d: %v, %+v", i, got, l)
		}
	}
}

// What a person, a contract and nobody may have beside money.
func TestGoodParts(t *testing.T) {
	const person, contract, nobody = 2, 4, 11
	for i, x := range []struct {
		part                     func(a *api.Account)
		person, contract, nobody bool
	}{
		{func(a *api.Account) {}, true, true, true},
		{func(a *api.Account) { a.Counter = 0 }, true, true, true},
		{func(a *api.Account) { a.Counter = 1 }, true, false, false},
		{func(a *api.Account) { a.Counter = api.MaxInt }, true, false, false},
		{func(a *api.Account) { a.Counter = api.MaxInt + 1 }, false, false, false},
		{func(a *api.Account) { a.Counter = math.MaxInt }, false, false, false},
		{func(a *api.Account) { a.Counter = -1 }, false, false, false},
		{func(a *api.Account) { a.Counter = math.MinInt }, false, false, false},
		{func(a *api.Account) { a.Param.T = api.Nat }, false, true, false},
		{func(a *api.Account) { a.Param.T = -1 }, false, false, false},
		{func(a *api.Account) { a.Param.Args = []api.Type{{}} }, false, false, false},
		{func(a *api.Account) { a.Param.Args = []api.Type{} }, true, true, true},
		{func(a *api.Account) { a.Store.T = api.Nat }, false, true, false},
		{func(a *api.Account) { a.Store.T = 99 }, false, false, false},
		{func(a *api.Account) { a.Store.Args = []api.Type{{}} }, false, false, false},
		{func(a *api.Account) { a.Store.Args = []api.Type{} }, true, true, true},
		{func(a *api.Account) { a.Code = codeOf("CDR; NIL operation; PAIR") }, false, true, false},
		{func(a *api.Account) { a.Code = []api.Node{{}} }, false, false, false},
		{func(a *api.Account) { a.Storage.K = api.Nat }, false, true, false},
		{func(a *api.Account) { a.Storage.K = api.Unit }, false, false, false},
		{func(a *api.Account) { a.Storage.N = 1 }, false, true, false},
		{func(a *api.Account) { a.Storage.N = -1 }, false, false, false},
		{func(a *api.Account) { a.Storage.A = 1 }, false, false, false},
		{func(a *api.Account) { a.Storage.S = "x" }, false, false, false},
		{func(a *api.Account) { a.Storage.Args = []api.Value{{}} }, false, false, false},
		{func(a *api.Account) { a.Storage.Args = []api.Value{} }, true, true, true},
		{func(a *api.Account) { a.Storage.Types = []api.Type{{}} }, false, false, false},
		{func(a *api.Account) { a.Storage.Types = []api.Type{} }, true, true, true},
		{func(a *api.Account) { a.Storage.Code = []api.Node{{}} }, false, false, false},
		{func(a *api.Account) { a.Storage.Code = []api.Node{} }, true, true, true},
	} {
		for _, at := range []struct {
			i    int
			good bool
		}{{person, x.person}, {contract, x.contract}, {nobody, x.nobody}} {
			l := crowd()
			x.part(&l.Accounts[at.i])
			if got := Good(l); got != at.good {
				t.Errorf("part %d of account %d: %v, %+v", i, at.i, got, l.Accounts[at.i])
			}
		}
	}
	// Code without elements is none, nil or not; a contract has some.
	for i, good := range map[int]bool{person: true, contract: false, nobody: true} {
		l := crowd()
		l.Accounts[i].Code = []api.Node{}
		if got := Good(l); got != good {
			t.Errorf("no code of account %d: %v", i, got)
		}
	}
}

// Contracts whose code is a script or not, and whose storage fits or not.
func TestGoodContracts(t *testing.T) {
	const counter = "UNPAIR; ADD; NIL operation; PAIR"
	const mint = "UNPAIR; UNPAIR; TICKET; IFNONE {} {CONS}; NIL operation; PAIR"
	for _, x := range []struct {
		param, store, code, storage string
		good                        bool
	}{
		{"nat", "nat", counter, "0", true},
		{"nat", "nat", counter, "1152921504606846976", true},
		{"nat", "integer", counter, "-5", true},
		{"pair string nat", "list (ticket string)", mint, `{Ticket 4 1 "x"}`, true},
		{"unit", "option (map nat (pair bool string))", keeps, `DSome {DElt 1 (DPair DTrue "a"); DElt 3 (DPair DFalse "")}`, true},
		{"lambda operation operation", "lambda operation operation", keeps, "{}", true},
		{"nat", "nat", "CAR; FAILWITH", "5", true},
		{"nat", "list (ticket nat)", "CAR; FAILWITH", "{Ticket 11 1152921504606846976 3}", true},
		{"nat", "nat", "{{UNPAIR}; ADD}; {NIL operation; PAIR}", "0", true},
		// The storage is not of its type.
		{"nat", "nat", counter, "-1", false},
		{"nat", "nat", counter, "1152921504606846977", false},
		{"unit", "address", keeps, "11", true},
		{"unit", "address", keeps, "12", false},
		{"unit", "map nat nat", keeps, "{DElt 1 1; DElt 2 1}", true},
		{"unit", "map nat nat", keeps, "{DElt 2 1; DElt 1 1}", false},
		{"unit", "map nat nat", keeps, "{DElt 1 1; DElt 1 1}", false},
		{"unit", "ticket nat", keeps, "Ticket 11 1 1", true},
		{"unit", "ticket nat", keeps, "Ticket 12 1 1", false},
		{"unit", "ticket nat", keeps, "Ticket 11 0 1", false},
		{"unit", "ticket nat", keeps, "Ticket 11 1 -1", false},
		{"unit", "list nat", keeps, "{" + strings.Repeat("1;", 24) + "}", true},
		{"unit", "list nat", keeps, "{" + strings.Repeat("1;", 25) + "}", false},
		// A lambda in it, that means something or not.
		{"unit", "lambda nat nat", keeps, "{PUSH nat 1; ADD}", true},
		{"unit", "lambda nat nat", keeps, "{PUSH integer 1; ADD}", false},
		{"unit", "lambda nat nat", keeps, "{ADD}", false},
		{"unit", "list (lambda nat nat)", keeps, "{{}; {DROP; PUSH nat 1}; {FAILWITH}}", true},
		{"unit", "list (lambda nat nat)", keeps, "{{}; {DROP; PUSH nat 1}; {DROP}}", false},
		{"unit", "lambda nat (option (ticket nat))", keeps, "{PUSH nat 1; TICKET}", false},
		{"unit", "lambda nat (option (ticket nat))", keeps, "{DROP; NONE (ticket nat)}", true},
		// The code is no script of these types.
		{"nat", "nat", "", "5", false},
		{"nat", "nat", "CDR", "5", false},
		{"nat", "nat", "5", "5", false},
		{"nat", "string", counter, `"x"`, false},
		{"integer", "nat", counter, "5", false},
		{"nat", "nat", "CDR; NIL nat; PAIR", "5", false},
		{"nat", "nat", "CAR; FAILWITH; DROP", "5", false},
		{"nat", "nat", "CDR; NIL operation; PAIR; SELF", "5", false},
		{"nat", "ticket nat", "CDR; DUP 1; DROP; NIL operation; PAIR", "Ticket 4 1 1", false},
		// Types that nobody may keep, or that are none.
		{"operation", "nat", keeps, "5", false},
		{"unit", "operation", keeps, "Operation 2 9 nat 7", false},
		{"unit", "list operation", keeps, "{}", false},
		{"unit", "list operation", "DROP; PUSH nat 1; FAILWITH", "{}", false},
		{"pair nat nat", "map (list nat) nat", keeps, "{}", false},
		{"map (list nat) nat", "nat", keeps, "5", false},
		{"ticket (ticket nat)", "nat", keeps, "5", false},
		{"nat nat", "nat", keeps, "5", false},
	} {
		l := with(api.Account{}, contract(x.param, x.store, x.code, x.storage))
		if got := Good(l); got != x.good {
			t.Errorf("{%s} of %s and %s, with %s: %v", x.code, x.param, x.store, x.storage, got)
		}
	}
	// Each of them counts, wherever it stands.
	fine, wrong := keeper("nat", "5"), keeper("nat", "-5")
	for i := api.Implicit; i < api.Accounts; i++ {
		l := with(slices.Repeat([]api.Account{fine}, 8)...)
		if !Good(l) {
			t.Fatal("eight contracts")
		}
		l.Accounts[i] = wrong
		if Good(l) {
			t.Errorf("account %d is wrong, and the ledger is good", i)
		}
	}
}

// sized is a list of lists of numbers of that Size, of at least 2.
func sized(size int) api.Value {
	v := api.Value{K: api.List}
	for left := size - 1; left > 0; {
		n := min(left-1, api.MaxItems)
		v.Args = append(v.Args, api.Value{K: api.List, Args: slices.Repeat([]api.Value{{K: api.Nat, N: 1}}, n)})
		left -= n + 1
	}
	return v
}

// The Size of a storage, and of trees and types of a contract, at their limits.
func TestGoodLimits(t *testing.T) {
	numbers := func(v api.Value) api.Account {
		a := keeper("list (list nat)", "{}")
		a.Storage = v
		return a
	}
	// A pair, a text (of 15 bytes it counts for 2) and numbers of a Size.
	texts := func(s string, size int) api.Account {
		a := keeper("pair string (list (list nat))", `DPair "" {}`)
		a.Storage.Args[0].S, a.Storage.Args[1] = s, sized(size)
		return a
	}
	code := func(args ...api.Node) api.Account {
		a := keeper("nat", "5")
		a.Code = append(a.Code, args...)
		return a
	}
	deep := func(n int) api.Node {
		row := seq()
		for range n - 1 {
			row = seq(row)
		}
		return row
	}
	// Code counts for nothing in a Size.
	lambdas := keeper("pair (lambda nat nat) (list (list nat))", "DPair {PUSH nat 1; ADD; {{{{}}}}} {}")
	lambdas.Storage.Args[1] = sized(198)
	for i, x := range []struct {
		a    api.Account
		good bool
	}{
		{numbers(sized(2)), true},
		{numbers(sized(199)), true},
		{numbers(sized(200)), true},
		{numbers(sized(201)), false},
		{numbers(sized(202)), false},
		{numbers(sized(601)), false},
		{texts("", 198), true},
		{texts("", 199), false},
		{texts("1234567", 198), true},
		{texts("12345678", 198), false},
		{texts("123456789012345", 197), true},
		{texts("1234567890123456", 197), false},
		{texts(strings.Repeat("x", 200), 173), true},
		{texts(strings.Repeat("x", 200), 174), false},
		{texts(strings.Repeat("x", 201), 2), false},
		{lambdas, true},
		// The first Seq is one of the nodes: beside it and those that keep there is room for 295 of 300.
		{code(slices.Repeat([]api.Node{seq()}, 295)...), true},
		{code(slices.Repeat([]api.Node{seq()}, 296)...), false},
		{code(deep(23)), true},
		{code(deep(24)), false},
	} {
		if got := Good(with(x.a)); got != x.good {
			t.Errorf("contract %d: %v", i, got)
		}
	}
}
