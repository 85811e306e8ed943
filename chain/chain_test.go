package chain

import (
	"math"
	"slices"
	"strings"
	"testing"

	"touchstone/api"
	"touchstone/ledger"
	"touchstone/value"
)

// world is a ledger that batches of person 1 are applied to, one by one.
type world struct {
	*testing.T
	l api.Ledger
}

const fee = 10

// batch is person 1's next one.
func (w *world) batch(gas int, ops ...api.Op) api.Batch {
	return api.Batch{Source: 1, Counter: w.l.Accounts[1].Counter + 1, Fee: fee, Gas: gas, Ops: ops}
}

// charged is the ledger with nothing of a batch but its fee and its number.
func (w *world) charged() api.Ledger {
	l := w.l
	l.Accounts[1].Balance -= fee
	l.Accounts[1].Counter++
	l.Fees += fee
	return l
}

// does applies a batch that is done as a whole.
func (w *world) does(want api.Receipt, gas int, ops ...api.Op) {
	w.Helper()
	charged := w.charged()
	l, r := Apply(w.l, w.batch(gas, ops...))
	if !alikeReceipts(r, want) {
		w.Fatalf("%+v; wanted %+v", r, want)
	}
	if l.Fees != charged.Fees || l.Accounts[1].Counter != charged.Accounts[1].Counter {
		w.Errorf("fees %d, counter %d", l.Fees, l.Accounts[1].Counter)
	}
	if !ledger.Good(l) {
		w.Fatalf("not good: %+v", l)
	}
	w.l = l
}

// refuses applies a batch of which nothing is left but what it cost. What it is tried on stays.
func (w *world) refuses(e api.Errno, paid, gas int, ops ...api.Op) {
	w.Helper()
	l, r := Apply(w.l, w.batch(gas, ops...))
	if !alikeReceipts(r, api.Receipt{Code: e, Gas: paid}) {
		w.Errorf("%s, %+v; wanted %s, %d steps", errorName(r.Code), r, errorName(e), paid)
	}
	if !alikeLedgers(l, w.charged()) {
		w.Errorf("%s: what is left: %+v", errorName(e), l)
	}
}

// keeps is whether a contract has this in its storage.
func (w *world) keeps(at int, storage string) {
	w.Helper()
	a := w.l.Accounts[at]
	if v := inType(a.Store, storage); !value.Same(a.Storage, v) {
		w.Errorf("%d keeps %+v; wanted %s", at, a.Storage, storage)
	}
}

func (w *world) has(at, balance int) {
	w.Helper()
	if n := w.l.Accounts[at].Balance; n != balance {
		w.Errorf("%d has %d; wanted %d", at, n, balance)
	}
}

// fund gives an account money of person 3.
func fund(l api.Ledger, at, n int) api.Ledger {
	l, e := ledger.Move(l, 3, at, n)
	if e != api.OK {
		panic("fund: " + errorName(e))
	}
	return l
}

// P8.1

// fault is something that has a batch refused ahead of its Ops.
type fault struct {
	name string
	e    api.Errno
	lay  func(l *api.Ledger, b *api.Batch)
}

// faults are all of them, by the order in which they count.
func faults() [][]fault {
	ops := func(n int) func(*api.Ledger, *api.Batch) {
		return func(_ *api.Ledger, b *api.Batch) { b.Ops = slices.Repeat([]api.Op{transfer(2, 1, "DUnit")}, n) }
	}
	batch := func(lay func(b *api.Batch)) func(*api.Ledger, *api.Batch) {
		return func(_ *api.Ledger, b *api.Batch) { lay(b) }
	}
	return [][]fault{
		{
			{"money is made", api.ErrRange, func(l *api.Ledger, _ *api.Batch) { l.Fees++ }},
			{"no ledger", api.ErrRange, func(l *api.Ledger, _ *api.Batch) { *l = api.Ledger{} }},
			{"a storage of another type", api.ErrRange, func(l *api.Ledger, _ *api.Batch) { l.Accounts[4].Storage.K = api.Integer }},
			{"a person's script", api.ErrRange, func(l *api.Ledger, _ *api.Batch) { l.Accounts[2].Code = codeOf("DROP") }},
		},
		{
			{"nobody", api.ErrNone, batch(func(b *api.Batch) { b.Source = 5 })},
			{"nobody at the last address", api.ErrNone, batch(func(b *api.Batch) { b.Source = 11 })},
			{"a contract", api.ErrNone, batch(func(b *api.Batch) { b.Source = 4 })},
			{"no address", api.ErrNone, batch(func(b *api.Batch) { b.Source = 12 })},
			{"below all addresses", api.ErrNone, batch(func(b *api.Batch) { b.Source = -1 })},
			{"far below", api.ErrNone, batch(func(b *api.Batch) { b.Source = math.MinInt })},
			{"far above", api.ErrNone, batch(func(b *api.Batch) { b.Source = math.MaxInt })},
		},
		{
			{"the number that was", api.ErrOld, batch(func(b *api.Batch) { b.Counter = 6 })},
			{"one too far", api.ErrOld, batch(func(b *api.Batch) { b.Counter = 8 })},
			{"0", api.ErrOld, batch(func(b *api.Batch) { b.Counter = 0 })},
			{"below 0", api.ErrOld, batch(func(b *api.Batch) { b.Counter = -7 })},
			{"the least", api.ErrOld, batch(func(b *api.Batch) { b.Counter = math.MinInt })},
			{"the greatest", api.ErrOld, batch(func(b *api.Batch) { b.Counter = math.MaxInt })},
			{"no number is left", api.ErrOld, func(l *api.Ledger, b *api.Batch) {
				l.Accounts[1].Counter, b.Counter = api.MaxInt, api.MaxInt+1
			}},
		},
		{
			{"a fee below 0", api.ErrRange, batch(func(b *api.Batch) { b.Fee = -1 })},
			{"a fee far below 0", api.ErrRange, batch(func(b *api.Batch) { b.Fee = math.MinInt })},
			{"gas below 0", api.ErrRange, batch(func(b *api.Batch) { b.Gas = -1 })},
			{"too much gas", api.ErrRange, batch(func(b *api.Batch) { b.Gas = 1<<20 + 1 })},
			{"far too much gas", api.ErrRange, batch(func(b *api.Batch) { b.Gas = math.MaxInt })},
		},
		{
			{"no list of Ops", api.ErrFull, batch(func(b *api.Batch) { b.Ops = nil })},
			{"no Ops", api.ErrFull, batch(func(b *api.Batch) { b.Ops = []api.Op{} })},
			{"nine Ops", api.ErrFull, ops(9)},
			{"many Ops", api.ErrFull, ops(1000)},
		},
		{
			{"less than the fee", api.ErrFunds, batch(func(b *api.Batch) {
				// Another fault that is laid as well stays one.
				if b.Fee >= 0 {
					b.Fee = 500001
				}
			})},
			{"far less than the fee", api.ErrFunds, batch(func(b *api.Batch) {
				if b.Fee >= 0 {
					b.Fee = math.MaxInt
				}
			})},
		},
	}
}

// sound is a ledger and a batch of person 1, whose number is 7, that is done.
func sound() (api.Ledger, api.Batch) {
	l := with(contract(adder, "5"))
	l.Accounts[1].Counter = 6
	l.Accounts[1].Balance, l.Fees = 500000, 500000
	return l, api.Batch{Source: 1, Counter: 7, Fee: 3, Gas: 100, Ops: []api.Op{transfer(2, 40, "DUnit")}}
}

func TestRefused(t *testing.T) {
	l, b := sound()
	if _, r := Apply(l, b); r.Code != api.OK {
		t.Fatalf("sound: %+v", r)
	}
	refused := func(name string, want api.Errno, lay ...func(l *api.Ledger, b *api.Batch)) {
		l, b := sound()
		for _, f := range lay {
			f(&l, &b)
		}
		got, r := Apply(l, b)
		if !alikeReceipts(r, api.Receipt{Code: want}) {
			t.Errorf("%s: %+v, wanted %s", name, r, errorName(want))
		}
		if !alikeLedgers(got, l) {
			t.Errorf("%s: the ledger is not as it was", name)
		}
	}
	for i, row := range faults() {
		for _, f := range row {
			refused(f.name, f.e, f.lay)
			for _, behind := range faults()[i+1:] {
				for _, g := range behind {
					// The one ahead is laid last, where both lie in one place.
					refused(f.name+" and "+g.name, f.e, g.lay, f.lay)
				}
			}
		}
	}
}

// What is at the edge is not refused.
func TestEdges(t *testing.T) {
	for name, lay := range map[string]func(l *api.Ledger, b *api.Batch){
		"the last number": func(l *api.Ledger, b *api.Batch) { l.Accounts[1].Counter, b.Counter = api.MaxInt-1, api.MaxInt },
		"no fee":          func(_ *api.Ledger, b *api.Batch) { b.Fee = 0 },
		"all as a fee":    func(_ *api.Ledger, b *api.Batch) { b.Fee, b.Ops = 500000, []api.Op{transfer(2, 0, "DUnit")} },
		"no gas":          func(_ *api.Ledger, b *api.Batch) { b.Gas = 0 },
		"most gas":        func(_ *api.Ledger, b *api.Batch) { b.Gas = 1 << 20 },
		"eight Ops":       func(_ *api.Ledger, b *api.Batch) { b.Ops = slices.Repeat(b.Ops, 8) },
		"the first one":   func(_ *api.Ledger, b *api.Batch) { b.Source, b.Counter = 0, 1 },
		"the last one":    func(_ *api.Ledger, b *api.Batch) { b.Source, b.Counter = 3, 1 },
	} {
		l, b := sound()
		lay(&l, &b)
		got, r := Apply(l, b)
		if !alikeReceipts(r, api.Receipt{Done: len(b.Ops)}) {
			t.Errorf("%s: %+v", name, r)
		}
		want := l
		want.Fees += b.Fee
		want.Accounts[b.Source].Balance -= b.Fee
		want.Accounts[b.Source].Counter = b.Counter
		for _, op := range b.Ops {
			want.Accounts[b.Source].Balance -= op.Amount
			want.Accounts[op.To].Balance += op.Amount
		}
		if !alikeLedgers(got, want) {
			t.Errorf("%s: %+v", name, got)
		}
	}
}

// The fee is gone ahead of the Ops, and stays gone.
func TestFee(t *testing.T) {
	w := &world{t, with(contract(says, "DUnit"))}
	w.refuses(api.ErrFunds, 0, 100, transfer(2, 999991, "DUnit"))
	w.refuses(api.ErrFail, 6, 100, transfer(2, 5, "DUnit"), transfer(4, 6, "1"))
	w.does(api.Receipt{Done: 1}, 0, transfer(2, 999990, "DUnit"))
	w.has(1, 0)
	w.has(2, 1999990)
	if _, r := Apply(w.l, w.batch(0, transfer(1, 0, "DUnit"))); r.Code != api.ErrFunds {
		t.Errorf("nothing left for the fee: %+v", r)
	}
}

// A batch that ended in an error can't be brought again.
func TestAgain(t *testing.T) {
	l, b := sound()
	b.Ops[0].Kind = 0
	l, r := Apply(l, b)
	if r.Code != api.ErrKind || l.Fees != 500003 {
		t.Errorf("%+v", r)
	}
	again, r := Apply(l, b)
	if !alikeReceipts(r, api.Receipt{Code: api.ErrOld}) || !alikeLedgers(again, l) {
		t.Errorf("again: %+v", r)
	}
}

// P8.5

func TestRun(t *testing.T) {
	l, r, e := Run(nil)
	if e != api.OK || len(r) != 0 || !alikeLedgers(l, ledger.New()) {
		t.Errorf("of nothing: %v, %v, %s", l, r, errorName(e))
	}
	send := func(source, counter, n int) api.Batch {
		return api.Batch{Source: source, Counter: counter, Fee: 1, Ops: []api.Op{transfer(3, n, "DUnit")}}
	}
	l, r, e = Run([]api.Batch{send(0, 1, 5), send(0, 1, 6), send(2, 1, 1000000), send(4, 1, 1), send(0, 2, 7), send(2, 2, 8)})
	want := ledger.New()
	want.Accounts[0].Balance, want.Accounts[0].Counter = 999986, 2
	want.Accounts[2].Balance, want.Accounts[2].Counter = 999990, 2
	want.Accounts[3].Balance, want.Fees = 1000020, 4
	if e != api.OK || !alikeLedgers(l, want) {
		t.Errorf("%s, %+v", errorName(e), l)
	}
	codes := []api.Errno{api.OK, api.ErrOld, api.ErrFunds, api.ErrNone, api.OK, api.OK}
	if !slices.EqualFunc(r, codes, func(r api.Receipt, e api.Errno) bool { return r.Code == e }) {
		t.Errorf("%+v", r)
	}
}

func TestRunMany(t *testing.T) {
	var b []api.Batch
	for i := range 201 {
		b = append(b, api.Batch{Source: 1, Counter: i + 1, Ops: []api.Op{transfer(0, 2, "DUnit")}})
	}
	l, r, e := Run(b[:200])
	if e != api.OK || len(r) != 200 || l.Accounts[0].Balance != 1000400 || l.Accounts[1].Counter != 200 {
		t.Errorf("200: %s, %d receipts, %+v", errorName(e), len(r), l)
	}
	for _, x := range r {
		if !alikeReceipts(x, api.Receipt{Done: 1}) {
			t.Errorf("200: %+v", x)
		}
	}
	l, r, e = Run(b)
	if e != api.ErrFull || len(r) != 0 || !alikeLedgers(l, api.Ledger{}) {
		t.Errorf("201: %s, %d receipts, %+v", errorName(e), len(r), l)
	}
	if _, _, e := Run(make([]api.Batch, 5000)); e != api.ErrFull {
		t.Errorf("5000: %s", errorName(e))
	}
}

// Steps are paid for one by one, over all Ops, and told whether it ended well or not.
func TestGas(t *testing.T) {
	w := &world{t, with(contract(adder, "5"), contract(says, "DUnit"), contract(relay, "0"))}
	add := transfer(4, 0, "2")
	w.refuses(api.ErrGas, 0, 0, add)
	w.refuses(api.ErrGas, 3, 3, add)
	w.refuses(api.ErrGas, 4, 4, add, add)
	w.refuses(api.ErrGas, 7, 7, add, add)
	w.refuses(api.ErrFail, 4+6, 100, add, transfer(5, 0, "1"), add)
	w.refuses(api.ErrKind, 8, 100, add, add, api.Op{})
	w.refuses(api.ErrNone, 12, 100, add, add, add, transfer(9, 0, "DUnit"))
	w.does(api.Receipt{Done: 2, Gas: 8}, 8, add, add)
	w.keeps(4, "9")
	// Of what is told, too: relay takes eight, and six for each item.
	w.does(api.Receipt{Done: 3, Gas: 8 + 2*6 + 2*4}, 28, transfer(6, 0, "{DPair 4 1; DPair 4 2}"))
	w.keeps(4, "12")
	w.refuses(api.ErrGas, 27, 27, transfer(6, 0, "{DPair 4 1; DPair 4 2}"))
	// People take none.
	w.does(api.Receipt{Done: 2, Gas: 4}, 4, add, transfer(2, 1, "DUnit"))
}

// The examples of the document.
func TestExamples(t *testing.T) {
	w := &world{t, ledger.New()}
	w.does(api.Receipt{Done: 1, Made: []int{4}}, 0, originate(adder, 0, "10"))
	w.does(api.Receipt{Done: 1, Gas: 4}, 4, transfer(4, 0, "5"))
	w.keeps(4, "15")
	w.does(api.Receipt{Done: 2, Made: []int{5, 6}}, 0, originate(minter, 0, "6"), originate(joiner, 0, "DNone"))
	w.does(api.Receipt{Done: 2, Gas: 18, Minted: 3}, 100, transfer(5, 0, "3"))
	w.keeps(6, `DSome (Ticket 5 3 "x")`)
	w.does(api.Receipt{Done: 2, Gas: 19, Minted: 4}, 100, transfer(5, 0, "4"))
	w.keeps(6, `DSome (Ticket 5 7 "x")`)
	w.refuses(api.ErrFail, 4+19+6, 100, transfer(4, 9, "5"), transfer(5, 8, "3"), transfer(5, 0, "0"))
	twice := script{"ticket string", "unit", "CAR; DUP 1; DROP; DROP; PUSH unit DUnit; NIL operation; PAIR"}
	w.refuses(api.ErrType, 0, 100, originate(twice, 0, "DUnit"))
}

// long is a text of n bytes, as a tree tells it.
func long(n int) string { return `"` + strings.Repeat("a", n) + `"` }
