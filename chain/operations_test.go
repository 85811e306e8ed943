package chain

import (
	"math"
	"slices"
	"strconv"
	"strings"
	"testing"

	"touchstone/api"
	"touchstone/ledger"
)

// P8.2

// What an Op leads to is done row by row, and all of it ahead of the next Op.
func TestRows(t *testing.T) {
	w := &world{t, with(contract(twins, "{}"))}
	w.does(api.Receipt{Done: 7 + 3, Gas: 3*29 + 4*12 + 29 + 2*12}, 1000, transfer(4, 0, "1"), transfer(4, 0, "3"))
	// The last one first: 1; then 2 and 3; then what they told; then the second Op.
	w.keeps(4, "{7; 6; 3; 7; 6; 5; 4; 3; 2; 1}")
}

// Several contracts in a row: who tells something waits behind all that was told ahead of it.
func TestRowsOfMany(t *testing.T) {
	again := func(l api.Ledger, at int) api.Ledger {
		l.Accounts[at] = contract(script{"nat", "address", "UNPAIR; PUSH nat 10; MUL; DUP 2; PUSH mutez 0; DIG 2; TRANSFER nat; NIL operation; SWAP; CONS; PAIR"}, "5")
		return l
	}
	w := &world{t, again(again(with(contract(relay, "0"), contract(notes, "{}")), 6), 7)}
	// relay tells the last one first.
	list := "{DPair 5 4; DPair 7 3; DPair 5 2; DPair 6 1}"
	w.does(api.Receipt{Done: 7, Gas: 8 + 4*6 + 2*11 + 4*4}, 1000, transfer(4, 0, list))
	w.keeps(5, "{30; 10; 4; 2}")
	w.does(api.Receipt{Done: 8, Gas: 8 + 4*6 + 2*11 + 5*4}, 1000, transfer(4, 0, list), transfer(5, 0, "9"))
	w.keeps(5, "{9; 30; 10; 4; 2; 30; 10; 4; 2}")
}

// MaxQueue operations, be they Ops or told, and not one more.
func TestQueue(t *testing.T) {
	w := &world{t, with(contract(countdown, "DUnit"), contract(spray, "DUnit"))}
	down := func(n int) api.Op { return transfer(4, 0, strconv.Itoa(n)) }
	// countdown takes 15 steps if it tells something, and 10 in the end.
	w.does(api.Receipt{Done: 24, Gas: 23*15 + 10}, 1000, down(23))
	w.refuses(api.ErrFull, 24*15, 1000, down(24))
	w.refuses(api.ErrFull, 24*15, 1000, down(1000))
	w.refuses(api.ErrGas, 24*15-1, 24*15-1, down(24))
	person := transfer(2, 1, "DUnit")
	w.does(api.Receipt{Done: 24, Gas: 22*15 + 10}, 1000, person, down(22))
	w.does(api.Receipt{Done: 24, Gas: 22*15 + 10}, 1000, down(22), person)
	w.refuses(api.ErrFull, 23*15, 1000, person, down(23))
	w.refuses(api.ErrFull, 23*15+10, 1000, down(23), person)
	w.does(api.Receipt{Done: 24, Gas: 2 * (11*15 + 10)}, 1000, down(11), down(11))
	w.refuses(api.ErrFull, 11*15+10+12*15, 1000, down(11), down(12))
	w.does(api.Receipt{Done: 24, Gas: 8 * (2*15 + 10)}, 1000, slices.Repeat([]api.Op{down(2)}, 8)...)
	w.does(api.Receipt{Done: 24, Gas: 16*15 + 10, Made: []int{6}}, 1000, append(slices.Repeat([]api.Op{person}, 6), originate(adder, 0, "0"), down(16))...)
	w.refuses(api.ErrFull, 23*15+10, 1000, down(23), originate(adder, 0, "0"))
	// That it is one too many counts ahead of all that is wrong with it.
	w.refuses(api.ErrFull, 23*15+10, 1000, down(23), api.Op{})
	w.refuses(api.ErrFull, 23*15+10, 1000, down(23), transfer(9, -1, "DNone"))
	w.refuses(api.ErrKind, 22*15+10, 1000, down(22), api.Op{}, person)
	// Many told at once: none is done of those that are too many, nor is anything left of the others.
	each := func(n int) string { return "{" + strings.Repeat("DPair 2 0;", n) + "}" }
	w.does(api.Receipt{Done: 24, Gas: 7 + 23*6}, 1000, transfer(5, 0, each(23)))
	w.refuses(api.ErrFull, 7+24*6, 1000, transfer(5, 0, each(24)))
}

// Nothing is left of what was done ahead of an error, wherever that is.
func TestNothingLeft(t *testing.T) {
	w := &world{t, with(contract(relay, "0"), contract(adder, "5"), contract(says, "DUnit"), contract(mints, "DUnit"))}
	ahead := []api.Op{transfer(2, 7, "DUnit"), transfer(5, 8, "3"), transfer(7, 0, "9"), originate(adder, 9, "1"), transfer(4, 0, "{DPair 5 1; DPair 5 1}")}
	paid := 4 + 6 + 8 + 2*6 + 2*4
	w.refuses(api.ErrKind, paid, 1000, append(ahead, api.Op{})...)
	w.refuses(api.ErrFail, paid+6, 1000, append(ahead, transfer(6, 0, "1"))...)
	w.refuses(api.ErrFail, paid+8+2*6+4+6, 1000, append(ahead, transfer(4, 0, "{DPair 6 1; DPair 5 1}"))...)
	w.refuses(api.ErrFunds, paid, 1000, append(ahead, transfer(2, 999990-7-8-9+1, "DUnit"))...)
	w.refuses(api.ErrGas, paid+2, paid+2, append(ahead, transfer(5, 0, "1"))...)
	w.refuses(api.ErrType, paid, 1000, append(ahead, originate(adder, 9, "DUnit"))...)
	w.does(api.Receipt{Done: 8, Gas: paid, Minted: 9, Made: []int{8}}, 1000, append(ahead, transfer(2, 999990-7-8-9, "DUnit"))...)
}

// P8.3

func TestKinds(t *testing.T) {
	w := &world{t, with(contract(adder, "5"))}
	for _, k := range []int{0, 3, -1, 4, math.MaxInt, math.MinInt} {
		for _, op := range []api.Op{transfer(2, 1, "DUnit"), transfer(4, 0, "1"), originate(adder, 0, "1"), transfer(9, -1, "7")} {
			op.Kind = k
			w.refuses(api.ErrKind, 0, 100, op)
			w.refuses(api.ErrKind, 4, 100, transfer(4, 0, "1"), op)
			w.refuses(api.ErrNone, 0, 100, transfer(9, 0, "1"), op)
		}
	}
}

func TestTransfer(t *testing.T) {
	l := fund(with(contract(adder, "5"), contract(surroundings, "DPair (DPair 0 0) (DPair 0 0)")), 5, 300)
	w := &world{t, l}
	for _, x := range []struct {
		to, amount int
		arg        string
		e          api.Errno
	}{
		// Nobody, or no address, ahead of all else.
		{6, 0, "DUnit", api.ErrNone},
		{11, 0, "DUnit", api.ErrNone},
		{12, 0, "DUnit", api.ErrNone},
		{-1, 0, "DUnit", api.ErrNone},
		{math.MaxInt, 0, "DUnit", api.ErrNone},
		{math.MinInt, 0, "DUnit", api.ErrNone},
		{6, -1, "7", api.ErrNone},
		{12, 2000000, "7", api.ErrNone},
		// No amount, then less, ahead of what it is sent with.
		{2, -1, "DUnit", api.ErrRange},
		{2, math.MinInt, "DUnit", api.ErrRange},
		{4, -1, "DUnit", api.ErrRange},
		{2, api.MaxInt + 1, "7", api.ErrRange},
		{4, api.MaxInt, "DUnit", api.ErrFunds},
		{2, 999991, "7", api.ErrFunds},
		{1, 999991, "DUnit", api.ErrFunds},
		// To a person just Unit, to a contract just what it takes.
		{2, 1, "7", api.ErrType},
		{2, 1, "DTrue", api.ErrType},
		{2, 1, `""`, api.ErrType},
		{2, 1, "{}", api.ErrType},
		{2, 1, "DUnit DUnit", api.ErrType},
		{2, 1, "DROP", api.ErrType},
		{2, 1, "unit", api.ErrType},
		{1, 1, "0", api.ErrType},
		{4, 1, "DUnit", api.ErrType},
		{4, 1, "-1", api.ErrType},
		{4, 1, "1152921504606846977", api.ErrType},
		{4, 1, `"1"`, api.ErrType},
		{5, 1, "7", api.ErrType},
	} {
		w.refuses(x.e, 0, 100, transfer(x.to, x.amount, x.arg))
	}
	w.refuses(api.ErrType, 0, 100, api.Op{Kind: api.Transfer, To: 2, Arg: api.Node{Kind: 9}})
	w.does(api.Receipt{Done: 3}, 0, transfer(0, 999987, "DUnit"), transfer(1, 3, "DUnit"), transfer(2, 1, "DUnit"))
	w.has(0, 1999987)
	w.has(1, 2)
	w.has(2, 1000001)
}

// What an Op has for the other kind is not looked at.
func TestTransferAlone(t *testing.T) {
	w := &world{t, with(contract(adder, "5"))}
	for _, to := range []struct {
		op   api.Op
		want api.Receipt
	}{{transfer(2, 1, "DUnit"), api.Receipt{Done: 1}}, {transfer(4, 1, "1"), api.Receipt{Done: 1, Gas: 4}}} {
		to.op.Types = [2]api.Node{{Kind: 9}, {Kind: -1}}
		to.op.Code = api.Node{Kind: 77}
		w.does(to.want, 100, to.op)
	}
}

// A script runs with who it is, who sent, how much, and how much there is then.
func TestSurroundings(t *testing.T) {
	none := "DPair (DPair 0 0) (DPair 0 0)"
	w := &world{t, fund(with(contract(surroundings, none), contract(forward, "6"), contract(surroundings, none)), 4, 300)}
	w.does(api.Receipt{Done: 1, Gas: 10}, 100, transfer(4, 44, "DUnit"))
	w.keeps(4, "DPair (DPair 4 1) (DPair 44 344)")
	w.does(api.Receipt{Done: 1, Gas: 10}, 100, transfer(4, 0, "DUnit"))
	w.keeps(4, "DPair (DPair 4 1) (DPair 0 344)")
	// Sent on: by the contract, not by who signed.
	w.does(api.Receipt{Done: 2, Gas: 9 + 10}, 100, transfer(5, 21, "DUnit"))
	w.keeps(6, "DPair (DPair 6 5) (DPair 21 21)")
	w.has(5, 0)
	w.has(6, 21)
	l, r := Apply(w.l, api.Batch{Source: 3, Counter: 1, Gas: 10, Ops: []api.Op{transfer(4, 6, "DUnit")}})
	w.l = l
	if r.Code != api.OK {
		t.Errorf("%+v", r)
	}
	w.keeps(4, "DPair (DPair 4 3) (DPair 6 350)")
}

// To itself: nothing is moved, and it runs again.
func TestToItself(t *testing.T) {
	once := script{"bool", "mutez", "CAR; IF {NIL operation; SELF; PUSH mutez 9; PUSH bool DFalse; TRANSFER bool; CONS} {NIL operation}; DIP {BALANCE}; PAIR"}
	w := &world{t, with(contract(once, "0"))}
	w.refuses(api.ErrFunds, 11, 100, transfer(4, 8, "DTrue"))
	w.does(api.Receipt{Done: 2, Gas: 11 + 6}, 100, transfer(4, 9, "DTrue"))
	w.keeps(4, "9")
	w.has(4, 9)
}

// What a script tells is a transfer as well, with an argument that has its own type.
func TestTold(t *testing.T) {
	sends := func(t, v string, amount, to int) api.Account {
		n, a := strconv.Itoa(amount), strconv.Itoa(to)
		return contract(script{"unit", "unit", "CDR; NIL operation; PUSH address " + a + "; PUSH mutez " + n + "; PUSH (" + t + ") (" + v + "); TRANSFER (" + t + "); CONS; PAIR"}, "DUnit")
	}
	takes := func(t string) api.Account {
		return contract(script{t, "nat", "DROP; PUSH nat 1; NIL operation; PAIR"}, "0")
	}
	for _, x := range []struct {
		t, v       string
		amount, to int
		e          api.Errno
	}{
		{"unit", "DUnit", 5, 2, api.OK},
		{"unit", "DUnit", 0, 1, api.OK},
		{"nat", "7", 5, 5, api.OK},
		{"option nat", "DNone", 5, 6, api.OK},
		{"list (pair nat nat)", "{}", 0, 7, api.OK},
		// A value that would be of both types does not make them alike.
		{"integer", "7", 5, 5, api.ErrType},
		{"mutez", "7", 5, 5, api.ErrType},
		{"unit", "DUnit", 5, 5, api.ErrType},
		{"option integer", "DNone", 5, 6, api.ErrType},
		{"option unit", "DNone", 5, 6, api.ErrType},
		{"list (pair nat integer)", "{}", 0, 7, api.ErrType},
		{"list nat", "{}", 0, 7, api.ErrType},
		{"nat", "7", 5, 2, api.ErrType},
		{"option unit", "DNone", 5, 2, api.ErrType},
		// What Move says comes first.
		{"unit", "DUnit", 0, 8, api.ErrNone},
		{"nat", "7", 101, 11, api.ErrNone},
		{"unit", "DUnit", 101, 2, api.ErrFunds},
		{"nat", "7", 101, 2, api.ErrFunds},
		{"nat", "7", api.MaxInt, 5, api.ErrFunds},
		{"unit", "DUnit", 101, 4, api.ErrFunds},
	} {
		l := fund(with(sends(x.t, x.v, x.amount, x.to), takes("nat"), takes("option nat"), takes("list (pair nat nat)")), 4, 100)
		w := &world{t, l}
		if x.e != api.OK {
			w.refuses(x.e, 8, 100, transfer(4, 0, "DUnit"))
			continue
		}
		steps := 8
		if x.to > 3 {
			steps += 4
		}
		w.does(api.Receipt{Done: 2, Gas: steps}, 100, transfer(4, 0, "DUnit"))
		w.has(4, 100-x.amount)
		if x.to > 3 {
			w.has(x.to, x.amount)
			w.keeps(x.to, "1")
		}
	}
}

// Told by their order, each on what the others left.
func TestToldOrder(t *testing.T) {
	w := &world{t, fund(with(contract(spray, "DUnit"), contract(forward, "4")), 4, 50)}
	// The last one first: 50 can't be sent again.
	w.does(api.Receipt{Done: 3, Gas: 7 + 2*6}, 100, transfer(4, 0, "{DPair 2 20; DPair 0 30}"))
	w.has(0, 1000030)
	w.has(2, 1000020)
	w.has(4, 0)
	w.refuses(api.ErrFunds, 7+2*6, 100, transfer(4, 49, "{DPair 2 20; DPair 0 30}"))
	// Nobody is found ahead of there being less, and the other way round.
	w.refuses(api.ErrNone, 7+2*6, 100, transfer(4, 49, "{DPair 2 50; DPair 9 0}"))
	w.refuses(api.ErrFunds, 7+2*6, 100, transfer(4, 49, "{DPair 9 0; DPair 2 50}"))
}

// However a script ends, that is how the batch ends.
func TestScriptEnds(t *testing.T) {
	doubles := script{"nat", "nat", "CDR; DUP 1; ADD; NIL operation; PAIR"}
	w := &world{t, with(contract(never, `"no"`), contract(swells, long(101)), contract(doubles, "1152921504606846976"), contract(spins, "DUnit"), contract(still, "{}"))}
	w.refuses(api.ErrFail, 2, 100, transfer(4, 3, "1"))
	w.refuses(api.ErrBig, 3, 100, transfer(5, 3, "DUnit"))
	w.refuses(api.ErrOver, 3, 100, transfer(6, 3, "1"))
	w.refuses(api.ErrGas, 99, 99, transfer(7, 3, "1000"))
	w.refuses(api.ErrGas, 1<<20, 1<<20, transfer(7, 3, "1000000"))
	w.refuses(api.ErrGas, 1, 1, transfer(4, 3, "1"))
	// What is sent may be larger than what is put: 300 nodes in all.
	w.does(api.Receipt{Done: 1, Gas: 3}, 3, transfer(8, 0, "{"+strings.Repeat(long(200)+";", 24)+"}"))
	w.refuses(api.ErrType, 0, 3, transfer(8, 0, "{"+strings.Repeat(long(200)+";", 25)+"}"))
}

// Tickets and lambdas go on as what they are.
func TestTickets(t *testing.T) {
	w := &world{t, with(contract(minter, "5"), contract(joiner, "DNone"), contract(filler, "7"), contract(wallet, "{}"), contract(filler, "7"))}
	w.does(api.Receipt{Done: 4, Gas: 12 + 6 + 12 + 7, Minted: 15}, 100, transfer(4, 0, "7"), transfer(4, 0, "8"))
	w.keeps(5, `DSome (Ticket 4 15 "x")`)
	w.does(api.Receipt{Done: 4, Gas: 2 * (13 + 5), Minted: 5}, 100, transfer(6, 0, "2"), transfer(8, 0, "3"))
	w.keeps(7, `{Ticket 8 3 "x"; Ticket 6 2 "x"}`)
	// They are of other makers: joiner loses both.
	w.does(api.Receipt{Done: 2, Gas: 12 + 7}, 100, transfer(7, 0, "DRight 5"))
	w.keeps(7, `{Ticket 6 2 "x"}`)
	w.keeps(5, "DNone")
	w.does(api.Receipt{Done: 2, Gas: 12 + 6}, 100, transfer(7, 0, "DRight 5"))
	w.keeps(5, `DSome (Ticket 6 2 "x")`)
	w.does(api.Receipt{Done: 1, Gas: 8}, 100, transfer(7, 0, "DRight 5"))
	// To a person, or to who takes something else, they don't go; nor can anybody write one.
	w.l.Accounts[4].Storage.N = 2
	w.refuses(api.ErrType, 12, 100, transfer(4, 0, "7"))
	w.l.Accounts[4].Storage.N = 7
	w.refuses(api.ErrType, 12, 100, transfer(4, 0, "7"))
	w.refuses(api.ErrType, 0, 100, transfer(5, 0, "7"))
	w.refuses(api.ErrType, 0, 100, transfer(7, 0, "DLeft (DPair 1 2)"))
}

func TestLambdas(t *testing.T) {
	w := &world{t, with(contract(teaches, "5"), contract(taught, "DNone"), contract(learns, "DNone"))}
	w.does(api.Receipt{Done: 2, Gas: 9 + 4}, 100, transfer(4, 0, "DUnit"))
	w.keeps(5, "DSome {PUSH nat 3; ADD}")
	w.does(api.Receipt{Done: 2, Gas: 7 + 12}, 100, transfer(6, 0, "DNone"), transfer(6, 0, "DSome 5"))
	w.keeps(6, "DNone")
	w.refuses(api.ErrType, 0, 100, transfer(5, 0, "{}"))
}

// No more than MaxInt is minted in a batch, by whom it may be.
func TestMinted(t *testing.T) {
	w := &world{t, with(contract(mints, "DUnit"), contract(mints, "DUnit"), contract(relay, "0"))}
	all, half := strconv.Itoa(api.MaxInt), strconv.Itoa(api.MaxInt/2)
	w.does(api.Receipt{Done: 1, Gas: 6, Minted: api.MaxInt}, 100, transfer(4, 0, all))
	w.does(api.Receipt{Done: 2, Gas: 12, Minted: api.MaxInt}, 100, transfer(4, 0, half), transfer(5, 0, half))
	w.does(api.Receipt{Done: 3, Gas: 18, Minted: api.MaxInt}, 100, transfer(4, 0, "0"), transfer(4, 0, all), transfer(5, 0, "0"))
	w.refuses(api.ErrOver, 12, 100, transfer(4, 0, all), transfer(5, 0, "1"))
	w.refuses(api.ErrOver, 18, 100, transfer(4, 0, half), transfer(4, 0, half), transfer(4, 0, "1"), transfer(4, 0, "1"))
	w.refuses(api.ErrOver, 12, 100, transfer(4, 0, all), transfer(5, 0, all))
	w.refuses(api.ErrOver, 8+2*6+12, 100, transfer(6, 0, "{DPair 4 1; DPair 5 "+all+"}"))
	// How its script ended comes first.
	w.refuses(api.ErrGas, 11, 11, transfer(4, 0, all), transfer(5, 0, "1"))
}

// P8.4

func TestOriginate(t *testing.T) {
	w := &world{t, ledger.New()}
	w.does(api.Receipt{Done: 3, Made: []int{4, 5, 6}}, 0, originate(adder, 50, "7"), originate(joiner, 0, "DNone"), originate(notes, 1, "{3; 2}"))
	want := with(contract(adder, "7"), contract(joiner, "DNone"), contract(notes, "{3; 2}"))
	want.Accounts[4].Balance, want.Accounts[6].Balance = 50, 1
	want.Accounts[1].Balance, want.Accounts[1].Counter, want.Fees = 1000000-61, 1, 10
	if !alikeLedgers(w.l, want) {
		t.Errorf("%+v", w.l)
	}
	// Made and asked in one batch, and all the money that is left.
	w.does(api.Receipt{Done: 3, Gas: 8, Made: []int{7}}, 100, originate(adder, 0, "7"), transfer(7, 1, "3"), transfer(7, 1, "5"))
	w.keeps(7, "15")
	w.does(api.Receipt{Done: 1, Made: []int{8}}, 0, originate(adder, 1000000-61-10-2-10, "7"))
	w.has(1, 0)
}

// The first that is nobody's, be it between others.
func TestOriginateWhere(t *testing.T) {
	l := ledger.New()
	for _, at := range []int{5, 6, 9, 11} {
		l.Accounts[at] = contract(adder, "1")
	}
	w := &world{t, l}
	w.does(api.Receipt{Done: 4, Made: []int{4, 7, 8, 10}}, 0, slices.Repeat([]api.Op{originate(notes, 5, "{}")}, 4)...)
	for _, at := range []int{4, 7, 8, 10} {
		w.keeps(at, "{}")
		w.has(at, 5)
	}
	w.refuses(api.ErrFull, 0, 0, originate(notes, 5, "{}"))
}

func TestOriginateFull(t *testing.T) {
	w := &world{t, ledger.New()}
	one := originate(adder, 1, "0")
	w.does(api.Receipt{Done: 8, Made: []int{4, 5, 6, 7, 8, 9, 10, 11}}, 0, slices.Repeat([]api.Op{one}, 8)...)
	w.refuses(api.ErrFull, 0, 0, one)
	w.refuses(api.ErrFull, 0, 0, transfer(2, 1, "DUnit"), one)
	// Ahead of the money, behind all else.
	w.refuses(api.ErrFull, 0, 0, originate(adder, -1, "0"))
	w.refuses(api.ErrFull, 0, 0, originate(adder, 2000000, "0"))
	w.refuses(api.ErrType, 0, 0, originate(adder, 1, "DUnit"))
	w.refuses(api.ErrForm, 0, 0, originate(script{"nat", "nat", "DROP 1"}, 1, "0"))
	w.does(api.Receipt{Done: 1, Gas: 4}, 4, transfer(11, 1, "6"))
	w.keeps(11, "6")
}

func TestOriginateRefused(t *testing.T) {
	w := &world{t, with(contract(adder, "5"))}
	keep := func(t string) script { return script{"unit", t, "CDR; NIL operation; PAIR"} }
	takes := func(t string) script { return script{t, "unit", "CDR; NIL operation; PAIR"} }
	short := "{" + strings.Repeat(long(200)+";", 7) + strings.Repeat(`"";`, 17) + "}"
	for _, x := range []struct {
		op api.Op
		e  api.Errno
	}{
		// No type, ahead of all else; one that can't be kept, ahead of the code.
		{originate(script{"7", "nat", "DROP 1"}, 0, "0"), api.ErrType},
		{originate(script{"nat", "DUnit", "DROP 1"}, 0, "0"), api.ErrType},
		{originate(script{"nat", "pair nat", "DROP 1"}, -1, "0"), api.ErrType},
		{originate(script{"map (list nat) nat", "nat", "DROP 1"}, 0, "0"), api.ErrType},
		{originate(script{"nat", "ticket (list nat)", "DROP 1"}, 0, "0"), api.ErrType},
		{originate(takes("operation"), 0, "DUnit"), api.ErrType},
		{originate(keep("list operation"), 0, "{}"), api.ErrType},
		{originate(script{"operation", "nat", "DROP 1"}, 0, "0"), api.ErrType},
		// Code that is none.
		{originate(script{"nat", "nat", "DROP 1"}, -1, "DUnit"), api.ErrForm},
		{originate(script{"nat", "nat", "5"}, -1, "DUnit"), api.ErrForm},
		{originate(script{"nat", "nat", "CDR; FAILWITH; DROP"}, -1, "DUnit"), api.ErrForm},
		{originate(script{"nat", "nat", "CDR; NIL operation"}, -1, "DUnit"), api.ErrType},
		{originate(script{"nat", "nat", ""}, -1, "DUnit"), api.ErrType},
		{originate(script{"nat", "string", adder.code}, -1, "DUnit"), api.ErrType},
		{originate(script{"nat", "integer", "CAR; NIL operation; PAIR"}, 0, "0"), api.ErrType},
		{originate(script{"nat", "nat", strings.Repeat("DUP 1;", 40) + adder.code}, -1, "DUnit"), api.ErrFull},
		{originate(script{"nat", "nat", "PUSH nat 1152921504606846977; DROP; " + adder.code}, -1, "DUnit"), api.ErrRange},
		{originate(script{"nat", "nat", strings.Repeat("{", 25) + strings.Repeat("}", 25)}, -1, "DUnit"), api.ErrLong},
		// A storage that is none.
		{originate(adder, -1, "-1"), api.ErrType},
		{originate(adder, -1, "DUnit"), api.ErrType},
		{originate(adder, 2000000, `"0"`), api.ErrType},
		{originate(keep("lambda nat nat"), 0, "{}"), api.ErrType},
		{originate(keep("ticket nat"), 0, "DPair 4 1"), api.ErrType},
		{originate(keep("list string"), 0, "{"+strings.Repeat(long(0)+";", 25)+"}"), api.ErrType},
		{originate(keep("list string"), -1, strings.Replace(short, `""`, long(8), 1)), api.ErrType},
		{originate(keep("list string"), 0, "{"+strings.Repeat(long(200)+";", 8)+"}"), api.ErrType},
		// What Move says.
		{originate(keep("list string"), -1, short), api.ErrRange},
		{originate(adder, math.MinInt, "0"), api.ErrRange},
		{originate(adder, api.MaxInt+1, "0"), api.ErrRange},
		{originate(adder, api.MaxInt, "0"), api.ErrFunds},
		{originate(adder, 999991, "0"), api.ErrFunds},
	} {
		w.refuses(x.e, 0, 100, x.op)
		w.refuses(x.e, 4, 100, transfer(4, 0, "1"), x.op, api.Op{})
	}
	noRow := originate(adder, -1, "DUnit")
	noRow.Code = noRow.Code.Args[0]
	w.refuses(api.ErrForm, 0, 100, noRow)
	w.does(api.Receipt{Done: 2, Made: []int{5, 6}}, 0, originate(keep("list string"), 0, short), originate(never, 0, `""`))
	w.does(api.Receipt{Done: 2, Made: []int{7, 8}}, 0, originate(keep("option (lambda nat nat)"), 0, "DNone"), originate(takes("lambda operation operation"), 999960, "DUnit"))
}

// To is not looked at.
func TestOriginateAlone(t *testing.T) {
	w := &world{t, ledger.New()}
	for i, to := range []int{4, 0, -1, 12, math.MaxInt} {
		op := originate(adder, 0, "0")
		op.To = to
		w.does(api.Receipt{Done: 1, Made: []int{4 + i}}, 0, op)
	}
}
