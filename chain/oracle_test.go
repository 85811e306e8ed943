package chain

import (
	"math/rand"
	"slices"
	"strconv"
	"testing"

	"touchstone/api"
	"touchstone/check"
	"touchstone/kind"
	"touchstone/ledger"
	"touchstone/run"
	"touchstone/value"
)

// A second opinion on Apply, made in another way: rounds instead of a queue, an error that is thrown, and money by hand. It leans on the layers below, which have tests of their own.

// thrown is an error on its way to where a batch ends.
type thrown api.Errno

func unless(ok bool, e api.Errno) {
	if !ok {
		panic(thrown(e))
	}
}

type opinion struct {
	accounts map[int]*api.Account
	source   int
	gas      int
	receipt  api.Receipt
}

// message is a transfer from somebody, with what it brings: arg finds out, if it is given what is wanted.
type message struct {
	from, to, amount int
	arg              func(want api.Type) (api.Value, bool)
}

func opinionOf(l api.Ledger, b api.Batch) (after api.Ledger, r api.Receipt) {
	if e := opinionAtFirst(l, b); e != api.OK {
		return l, api.Receipt{Code: e}
	}
	l.Fees += b.Fee
	l.Accounts[b.Source].Balance -= b.Fee
	l.Accounts[b.Source].Counter += 1
	o := opinion{accounts: map[int]*api.Account{}, source: b.Source, gas: b.Gas}
	for i, a := range l.Accounts {
		o.accounts[i] = &a
	}
	defer func() {
		if e, ok := recover().(thrown); ok {
			after, r = l, api.Receipt{Code: api.Errno(e), Gas: b.Gas - o.gas}
		}
	}()
	for _, op := range b.Ops {
		round := o.signed(op)
		for len(round) > 0 {
			var next []message
			for _, m := range round {
				next = append(next, o.send(m)...)
			}
			round = next
		}
	}
	after.Fees = l.Fees
	for i, a := range o.accounts {
		after.Accounts[i] = *a
	}
	o.receipt.Gas = b.Gas - o.gas
	return after, o.receipt
}

func opinionAtFirst(l api.Ledger, b api.Batch) api.Errno {
	if !ledger.Good(l) {
		return api.ErrRange
	}
	if b.Source < 0 || b.Source > 3 {
		return api.ErrNone
	}
	a := l.Accounts[b.Source]
	if a.Counter >= 1<<60 || b.Counter-a.Counter != 1 {
		return api.ErrOld
	}
	if b.Fee < 0 || b.Gas < 0 || b.Gas > 1048576 {
		return api.ErrRange
	}
	if len(b.Ops) < 1 || len(b.Ops) > 8 {
		return api.ErrFull
	}
	if b.Fee > a.Balance {
		return api.ErrFunds
	}
	return api.OK
}

// signed is the first round of an Op.
func (o *opinion) signed(op api.Op) []message {
	if op.Kind == api.Transfer {
		return []message{{o.source, op.To, op.Amount, func(want api.Type) (api.Value, bool) {
			v, e := value.Parse(want, op.Arg)
			return v, e == api.OK
		}}}
	}
	o.count()
	unless(op.Kind == api.Originate, api.ErrKind)
	o.make(op)
	return nil
}

func (o *opinion) count() {
	unless(o.receipt.Done < 24, api.ErrFull)
	o.receipt.Done++
}

func (o *opinion) pay(from, to, n int) {
	for _, i := range []int{from, to} {
		a, ok := o.accounts[i]
		unless(ok && a.Is != api.Nobody, api.ErrNone)
	}
	unless(n >= 0 && n <= 1<<60, api.ErrRange)
	unless(n <= o.accounts[from].Balance, api.ErrFunds)
	o.accounts[from].Balance -= n
	o.accounts[to].Balance += n
}

func (o *opinion) make(op api.Op) {
	a := &api.Account{Is: api.Contract, Code: op.Code.Args}
	for i, t := range []*api.Type{&a.Param, &a.Store} {
		got, e := kind.Parse(op.Types[i])
		unless(e == api.OK, api.ErrType)
		*t = got
	}
	e := check.Script(a.Param, a.Store, op.Code)
	unless(e == api.OK, e)
	a.Storage, e = value.Parse(a.Store, op.Arg)
	unless(e == api.OK && value.Size(a.Storage) <= 200, api.ErrType)
	for i := 4; i < 12; i++ {
		if o.accounts[i].Is == api.Nobody {
			o.accounts[i] = a
			o.receipt.Made = append(o.receipt.Made, i)
			o.pay(o.source, i, op.Amount)
			return
		}
	}
	unless(false, api.ErrFull)
}

// send does a transfer, and answers those that are told.
func (o *opinion) send(m message) []message {
	o.count()
	o.pay(m.from, m.to, m.amount)
	a := o.accounts[m.to]
	if a.Is == api.Person {
		_, ok := m.arg(typeOf("unit"))
		unless(ok, api.ErrType)
		return nil
	}
	v, ok := m.arg(a.Param)
	unless(ok, api.ErrType)
	both := api.Type{T: api.Pair, Args: []api.Type{a.Param, a.Store}}
	stack := []api.Value{{K: api.Pair, Args: []api.Value{v, a.Storage}}}
	r := run.Run(api.Env{Self: m.to, Sender: m.from, Amount: m.amount, Balance: a.Balance}, seq(a.Code...), []api.Type{both}, stack, o.gas)
	o.gas -= r.Gas
	unless(r.Code == api.OK, r.Code)
	unless(r.Minted <= 1<<60-o.receipt.Minted, api.ErrOver)
	o.receipt.Minted += r.Minted
	a.Storage = r.Stack[0].Args[1]
	var told []message
	for _, op := range r.Stack[0].Args[0].Args {
		told = append(told, message{m.to, op.A, op.N, func(want api.Type) (api.Value, bool) {
			return op.Args[0], kind.Same(op.Types[0], want)
		}})
	}
	return told
}

// Batches at random, on a ledger that grows.

// life makes batches that mostly mean something.
type life struct {
	*rand.Rand
	l api.Ledger
}

// storages are trees of storages at first, one of the scripts each.
func (f life) storage(s script) string {
	switch s.store {
	case "unit":
		return "DUnit"
	case "nat":
		return strconv.Itoa(f.Intn(9))
	case "address":
		return strconv.Itoa(f.Intn(13))
	case "string":
		return `"abc"`
	case "pair (pair address address) (pair mutez mutez)":
		return "DPair (DPair 0 0) (DPair 0 0)"
	}
	if s.store[:4] == "list" {
		return "{}"
	}
	return "DNone"
}

// argument is the text of a tree that is mostly of a type.
func (f life) argument(t api.Type) string {
	kinds := []string{"unit", "nat", "string", "address", "bool"}
	if f.Intn(40) == 0 {
		t = typeOf(kinds[f.Intn(len(kinds))])
	}
	switch t.T {
	case api.Unit:
		return "DUnit"
	case api.Nat, api.Mutez:
		return strconv.Itoa([]int{0, 0, 1, 2, 3, 3, 5, 8, 13, 20, 60, 1000, api.MaxInt / 2, api.MaxInt}[f.Intn(14)])
	case api.Address:
		return strconv.Itoa(min(11, f.somebody()))
	case api.Option:
		if f.Intn(2) == 0 {
			return "DNone"
		}
		return "DSome (" + f.argument(t.Args[0]) + ")"
	case api.Pair:
		return "DPair (" + f.argument(t.Args[0]) + ") (" + f.argument(t.Args[1]) + ")"
	case api.Or:
		return "DRight (" + f.argument(t.Args[1]) + ")"
	case api.List:
		s := "{"
		for range f.Intn(5) {
			s += f.argument(t.Args[0]) + ";"
		}
		return s + "}"
	}
	return `"ab"`
}

// somebody is mostly the address of one.
func (f life) somebody() int {
	to := f.Intn(13)
	for f.Intn(10) > 0 && (to > 11 || f.l.Accounts[to].Is == api.Nobody) {
		to = f.Intn(13)
	}
	return to
}

func (f life) op() api.Op {
	if f.Intn(60) == 0 {
		return api.Op{Kind: f.Intn(5) - 1}
	}
	amount := []int{0, 0, 0, 1, 5, 30, 1000, 200000, -1}[f.Intn(9)*f.Intn(9)/8]
	if f.Intn(8) == 0 {
		all := allScripts()
		s := all[f.Intn(len(all))]
		op := originate(s, amount, f.storage(s))
		if f.Intn(10) == 0 {
			op.Types[f.Intn(2)] = nodeOf("nat")
		}
		return op
	}
	to := f.somebody()
	t := typeOf("unit")
	if to < 12 && f.l.Accounts[to].Is == api.Contract {
		t = f.l.Accounts[to].Param
	}
	return transfer(to, amount, f.argument(t))
}

func (f life) batch() api.Batch {
	source := f.Intn(4)
	b := api.Batch{Source: source, Counter: f.l.Accounts[source].Counter + 1, Fee: f.Intn(20), Gas: 4000}
	for range 1 + f.Intn(2)*f.Intn(5) {
		b.Ops = append(b.Ops, f.op())
	}
	switch f.Intn(30) {
	case 0:
		b.Gas = f.Intn(40)
	case 1:
		b.Counter += f.Intn(3) - 1
	case 2:
		b.Fee = f.Intn(3000000) - 1000000
	case 3:
		b.Source = f.Intn(14) - 1
	case 4:
		b.Ops = slices.Repeat(b.Ops, f.Intn(10))
	}
	return b
}

// tickets are how many of each sort there are in all storages, told by their maker and what they are of.
func tickets(l api.Ledger) map[string]int {
	all := map[string]int{}
	var look func(v api.Value)
	look = func(v api.Value) {
		if v.K == api.Ticket {
			all[strconv.Itoa(v.A)+" "+v.Args[0].S] += v.N
		}
		for _, arg := range v.Args {
			look(arg)
		}
	}
	for _, a := range l.Accounts {
		look(a.Storage)
	}
	return all
}

// testLife holds many batches, one behind the other, to the second opinion, and to what holds of each.
func testLife(t *testing.T, seed int64, codes map[api.Errno]int) {
	f := life{rand.New(rand.NewSource(seed)), ledger.New()}
	var batches []api.Batch
	var receipts []api.Receipt
	for i := range api.MaxBatches {
		b := f.batch()
		if i == 0 {
			// At random those hardly find each other.
			b = api.Batch{Source: 1, Counter: 1, Ops: []api.Op{originate(minter, 0, "5"), originate(joiner, 0, "DNone"), originate(filler, 0, "7"), originate(wallet, 0, "{}")}}
		}
		got, r := Apply(f.l, b)
		want, opinion := opinionOf(f.l, b)
		if !alikeReceipts(r, opinion) || !alikeLedgers(got, want) {
			t.Fatalf("%+v\n%+v\nwanted %+v", b, r, opinion)
		}
		codes[r.Code]++
		if r.Done > 5 {
			codes[-1]++
		}
		if !ledger.Good(got) || ledger.Sum(got) != 4000000 {
			t.Fatalf("%+v: not good", b)
		}
		before := tickets(f.l)
		more := 0
		for sort, n := range tickets(got) {
			more += max(0, n-before[sort])
		}
		if more > r.Minted {
			t.Fatalf("%+v: %d tickets more, %d minted", b, more, r.Minted)
		}
		if more > 0 {
			codes[-2]++
		}
		f.l = got
		batches, receipts = append(batches, b), append(receipts, r)
	}
	l, r, e := Run(batches)
	if e != api.OK || !slices.EqualFunc(r, receipts, alikeReceipts) || !alikeLedgers(l, f.l) {
		t.Fatalf("Run: %s", errorName(e))
	}
}

func TestLife(t *testing.T) {
	codes := map[api.Errno]int{}
	for seed := range int64(20) {
		testLife(t, 800+seed, codes)
	}
	for _, e := range []api.Errno{api.OK, api.ErrRange, api.ErrKind, api.ErrType, api.ErrNone, api.ErrFull, api.ErrFunds, api.ErrOld, api.ErrFail, api.ErrOver, api.ErrGas, api.ErrBig, -1, -2} {
		if codes[e] < 10 {
			t.Errorf("%s only %d times", errorName(e), codes[e])
		}
	}
	if testing.Verbose() {
		t.Log(codes)
	}
}
