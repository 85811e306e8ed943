package ledger

import (
	"fmt"
	"math"
	"math/rand"
	"strings"
	"testing"

	"touchstone/api"
	"touchstone/value"
)

// P7.4

func TestHeld(t *testing.T) {
	const most = 1152921504606846976
	for _, x := range []struct {
		store, storage string
		maker          int
		t, of          string
		held           int
	}{
		{"ticket nat", "Ticket 4 7 1", 4, "nat", "1", 7},
		{"ticket nat", "Ticket 4 7 1", 5, "nat", "1", 0},
		{"ticket nat", "Ticket 4 7 1", 4, "nat", "2", 0},
		{"ticket nat", "Ticket 4 7 1", 4, "integer", "1", 0},
		{"ticket nat", "Ticket 4 7 1", 4, "ticket nat", "Ticket 4 7 1", 0},
		{"ticket nat", "Ticket 0 7 1", 0, "nat", "1", 7},
		{"ticket nat", "Ticket 11 1152921504606846976 0", 11, "nat", "0", most},
		{"nat", "7", 4, "nat", "7", 0},
		{"ticket string", `Ticket 4 7 "x"`, 4, "string", `"x"`, 7},
		{"ticket string", `Ticket 4 7 "x"`, 4, "string", `""`, 0},
		{"ticket unit", "Ticket 4 7 DUnit", 4, "unit", "DUnit", 7},
		{"ticket (pair nat string)", `Ticket 4 7 (DPair 1 "x")`, 4, "pair nat string", `DPair 1 "x"`, 7},
		{"ticket (pair nat string)", `Ticket 4 7 (DPair 1 "x")`, 4, "pair nat string", `DPair 1 "y"`, 0},
		// Wherever they are.
		{"list (ticket nat)", "{Ticket 4 7 1; Ticket 4 5 2; Ticket 4 6 1; Ticket 3 9 1}", 4, "nat", "1", 13},
		{"list (ticket nat)", "{Ticket 4 7 1; Ticket 4 5 2; Ticket 4 6 1; Ticket 3 9 1}", 4, "nat", "2", 5},
		{"list (ticket nat)", "{Ticket 4 7 1; Ticket 4 5 2; Ticket 4 6 1; Ticket 3 9 1}", 3, "nat", "1", 9},
		{"list (ticket nat)", "{}", 4, "nat", "1", 0},
		{"option (ticket nat)", "DSome (Ticket 4 7 1)", 4, "nat", "1", 7},
		{"option (ticket nat)", "DNone", 4, "nat", "1", 0},
		{"pair (ticket nat) nat", "DPair (Ticket 4 7 1) 1", 4, "nat", "1", 7},
		{"pair nat (ticket nat)", "DPair 1 (Ticket 4 7 1)", 4, "nat", "1", 7},
		{"pair (ticket nat) (ticket nat)", "DPair (Ticket 4 7 1) (Ticket 4 20 1)", 4, "nat", "1", 27},
		{"or (ticket nat) nat", "DLeft (Ticket 4 7 1)", 4, "nat", "1", 7},
		{"or (ticket nat) nat", "DRight 7", 4, "nat", "1", 0},
		{"or nat (ticket nat)", "DRight (Ticket 4 7 1)", 4, "nat", "1", 7},
		{"or (ticket nat) (ticket nat)", "DRight (Ticket 4 7 1)", 4, "nat", "1", 7},
		{"map nat (ticket nat)", "{DElt 1 (Ticket 4 7 1); DElt 2 (Ticket 4 20 1); DElt 3 (Ticket 4 5 2)}", 4, "nat", "1", 27},
		{"map nat (pair nat (list (option (ticket nat))))", "{DElt 1 (DPair 1 {DSome (Ticket 4 7 1); DNone}); DElt 2 (DPair 1 {DNone; DSome (Ticket 4 20 1)})}", 4, "nat", "1", 27},
		{"list (or (ticket nat) (ticket integer))", "{DLeft (Ticket 4 7 1); DRight (Ticket 4 20 1); DLeft (Ticket 4 3 1)}", 4, "nat", "1", 10},
		{"list (or (ticket nat) (ticket integer))", "{DLeft (Ticket 4 7 1); DRight (Ticket 4 20 1); DLeft (Ticket 4 3 1)}", 4, "integer", "1", 20},
		// Values that are alike, of types that are not.
		{"pair (ticket (option nat)) (ticket (option string))", "DPair (Ticket 4 7 DNone) (Ticket 4 20 DNone)", 4, "option nat", "DNone", 7},
		{"pair (ticket (option nat)) (ticket (option string))", "DPair (Ticket 4 7 DNone) (Ticket 4 20 DNone)", 4, "option string", "DNone", 20},
		{"pair (ticket (option nat)) (ticket (option string))", "DPair (Ticket 4 7 DNone) (Ticket 4 20 DNone)", 4, "option unit", "DNone", 0},
		{"list (ticket (or nat string))", "{Ticket 4 7 (DLeft 1); Ticket 4 20 (DLeft 1)}", 4, "or nat string", "DLeft 1", 27},
		{"list (ticket (or nat string))", "{Ticket 4 7 (DLeft 1); Ticket 4 20 (DLeft 1)}", 4, "or nat integer", "DLeft 1", 0},
		{"ticket (or nat nat)", "Ticket 4 7 (DLeft 1)", 4, "or nat nat", "DRight 1", 0},
		// A lambda has none, be they in its types.
		{"lambda (ticket nat) (ticket nat)", "{}", 4, "nat", "1", 0},
		{"pair (lambda (ticket nat) unit) (ticket nat)", "DPair {DROP; PUSH unit DUnit} (Ticket 4 7 1)", 4, "nat", "1", 7},
		// Makers and types that are none.
		{"ticket nat", "Ticket 4 7 1", -1, "nat", "1", 0},
		{"ticket nat", "Ticket 4 7 1", 12, "nat", "1", 0},
		{"ticket nat", "Ticket 4 7 1", math.MinInt, "nat", "1", 0},
		{"ticket nat", "Ticket 4 7 1", 4, "nat nat", "1", 0},
		{"ticket nat", "Ticket 4 7 1", 4, "list nat", "{1}", 0},
		{"ticket nat", "Ticket 4 7 1", 4, "nat", "-1", 0},
	} {
		l := with(keeper("nat", "1"), api.Account{}, keeper(x.store, x.storage))
		if !Good(l) {
			t.Errorf("%s of %s is not good", x.storage, x.store)
		}
		of := valueOf(x.t, x.of)
		if got := Held(l, x.maker, typeOf(x.t), of); got != x.held {
			t.Errorf("%s of %s by %d, in %s of %s: %d, wanted %d", x.of, x.t, x.maker, x.storage, x.store, got, x.held)
		}
		// A type that it is not of is none of those that are asked for.
		if got := Held(l, x.maker, api.Type{}, of); got != 0 {
			t.Errorf("%s of no type: %d", x.of, got)
		}
		// A value that only looks like one of the type.
		of.K++
		if got := Held(l, x.maker, typeOf(x.t), of); got != 0 {
			t.Errorf("of another kind, in %s of %s: %d", x.storage, x.store, got)
		}
		of.K--
		of.S += "?"
		if got := Held(l, x.maker, typeOf(x.t), of); got != 0 {
			t.Errorf("what is no value, in %s of %s: %d", x.storage, x.store, got)
		}
	}
}

// All contracts count, each once.
func TestHeldEverywhere(t *testing.T) {
	var keepers []api.Account
	sum, digit := 0, 1
	for i := range 8 {
		store, storage := "ticket nat", fmt.Sprintf("Ticket 4 %d 1", digit)
		if i%2 == 1 {
			store, storage = "list (ticket nat)", fmt.Sprintf("{Ticket 4 %d 1; Ticket 4 %d 2}", digit, digit)
		}
		keepers = append(keepers, keeper(store, storage))
		sum, digit = sum+digit, digit*10
		l := with(keepers...)
		if got := Held(l, 4, typeOf("nat"), valueOf("nat", "1")); !Good(l) || got != sum {
			t.Errorf("of %d contracts: %d", i+1, got)
		}
	}
	if got := Held(with(keepers...), 4, typeOf("nat"), valueOf("nat", "2")); got != 10101010 {
		t.Errorf("of another one: %d", got)
	}
	if got := Held(New(), 4, typeOf("nat"), valueOf("nat", "1")); got != 0 {
		t.Errorf("in a new ledger: %d", got)
	}
	// More than a number of a ticket may be, in tickets that each are one.
	l := with(keeper("list (ticket nat)", "{"+strings.Repeat("Ticket 4 1152921504606846976 1;", 7)+"}"))
	if got := Held(l, 4, typeOf("nat"), valueOf("nat", "1")); !Good(l) || got != 7<<60 {
		t.Errorf("seven of MaxInt: %d", got)
	}
}

// stock is what tickets there are, by maker, type and value.
type stock map[string]int

func stampText(maker int, t api.Type, of api.Value) string {
	return fmt.Sprintf("%d %v %v", maker, t, of)
}

// filler makes types and values at random, and keeps account of each ticket as it makes it.
type filler struct {
	*rand.Rand
	stock  stock
	stamps []stamp
}

// small is a type that a ticket can be of, with a value. There are few of them, so that many tickets are alike.
func (f *filler) small() api.Type {
	list := []string{"nat", "integer", "bool", "unit", "string", "option nat", "option string", "or nat nat", "or nat integer", "pair bool bool"}
	return typeOf(list[f.Intn(len(list))])
}

func (f *filler) store(depth int) api.Type {
	kinds := []int{api.Ticket, api.Ticket, api.Nat, api.Lambda, api.Option, api.List, api.Pair, api.Or, api.Map}
	if depth == 0 {
		kinds = kinds[:4]
	}
	t := api.Type{T: kinds[f.Intn(len(kinds))]}
	switch t.T {
	case api.Ticket:
		t.Args = []api.Type{f.small()}
	case api.Lambda:
		// What it takes it gives.
		of := f.store(0)
		t.Args = []api.Type{of, of}
	case api.Option, api.List:
		t.Args = []api.Type{f.store(depth - 1)}
	case api.Pair, api.Or:
		t.Args = []api.Type{f.store(depth - 1), f.store(depth - 1)}
	case api.Map:
		t.Args = []api.Type{{T: api.Nat}, f.store(depth - 1)}
	}
	return t
}

// value is one of a type.
func (f *filler) value(t api.Type) api.Value {
	v := api.Value{K: t.T}
	switch t.T {
	case api.Nat, api.Integer, api.Bool:
		v.N = f.Intn(2)
	case api.String:
		v.S = []string{"", "x"}[f.Intn(2)]
	case api.Lambda:
		v.Types = t.Args
	case api.Option:
		if f.Intn(3) > 0 {
			v.Args = []api.Value{f.value(t.Args[0])}
		}
	case api.Or:
		v.N = f.Intn(2)
		v.Args = []api.Value{f.value(t.Args[v.N])}
	case api.Pair:
		v.Args = []api.Value{f.value(t.Args[0]), f.value(t.Args[1])}
	case api.List:
		for range f.Intn(4) {
			v.Args = append(v.Args, f.value(t.Args[0]))
		}
	case api.Map:
		for i := range f.Intn(4) {
			key := api.Value{K: api.Nat, N: 2 * i}
			v.Args = append(v.Args, api.Value{K: api.Pair, Args: []api.Value{key, f.value(t.Args[1])}})
		}
	case api.Ticket:
		v.A, v.N, v.Args = f.Intn(3)+4, f.Intn(9)+1, []api.Value{f.value(t.Args[0])}
		f.stock[stampText(v.A, t.Args[0], v.Args[0])] += v.N
		f.stamps = append(f.stamps, stamp{v.A, t.Args[0], v.Args[0]})
	}
	return v
}

// What is held is what was put in, of all that was and of some that was not.
func TestHeldRandom(t *testing.T) {
	f := &filler{Rand: rand.New(rand.NewSource(74))}
	asked := 0
	for range 1500 {
		f.stock, f.stamps = stock{}, nil
		l := New()
		for i := 4; i < 12; i++ {
			if f.Intn(3) == 0 {
				continue
			}
			a := keeper("unit", "DUnit")
			a.Store = f.store(3)
			a.Storage = f.value(a.Store)
			l.Accounts[i] = a
		}
		if !Good(l) {
			if !tooLarge(l) {
				t.Fatalf("not good: %v", l)
			}
			continue
		}
		for range 3 {
			of := f.small()
			f.stamps = append(f.stamps, stamp{f.Intn(14) - 1, of, (&filler{Rand: f.Rand, stock: stock{}}).value(of)})
		}
		for _, s := range f.stamps {
			asked++
			if got, want := Held(l, s.maker, s.t, s.of), f.stock[stampText(s.maker, s.t, s.of)]; got != want {
				t.Fatalf("%v of %v by %d: %d, wanted %d, in %v", s.of, s.t, s.maker, got, want, l)
			}
		}
	}
	if asked < 5000 {
		t.Errorf("only %d were asked for", asked)
	}
}

func tooLarge(l api.Ledger) bool {
	for _, a := range l.Accounts {
		if value.Size(a.Storage) > 200 {
			return true
		}
	}
	return false
}
