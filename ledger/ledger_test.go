package ledger

import (
	"math"
	"math/big"
	"math/rand"
	"testing"

	"touchstone/api"
)

// P7.1

func TestNew(t *testing.T) {
	l := New()
	var want api.Ledger
	for i := range 4 {
		want.Accounts[i].Is = api.Person
		want.Accounts[i].Balance = 1000000
	}
	if !alikeLedgers(l, want) {
		t.Errorf("New: %+v", l)
	}
	l.Accounts[0].Balance, l.Accounts[5].Is, l.Fees = 3, api.Contract, 1
	if !alikeLedgers(New(), want) {
		t.Errorf("New, behind a change of another one: %+v", New())
	}
}

func TestSum(t *testing.T) {
	if n := Sum(New()); n != 4000000 {
		t.Errorf("Sum(New()): %d", n)
	}
	if n := Sum(api.Ledger{}); n != 0 {
		t.Errorf("Sum of nothing: %d", n)
	}
	// Each account has a digit of its own, of whatever kind it is.
	var l api.Ledger
	digit := 1
	for i := range l.Accounts {
		l.Accounts[i] = api.Account{Is: i % 4, Balance: digit, Counter: 5}
		digit *= 10
	}
	l.Fees = digit * 7
	if n := Sum(l); n != 7111111111111 {
		t.Errorf("Sum: %d", n)
	}
	l.Accounts[3].Balance = -1000
	if n := Sum(l); n != 7111111109111 {
		t.Errorf("Sum with less than nothing: %d", n)
	}
}

// P7.3

// crowd is a good ledger of people, contracts and nobody: what they have is their own number and some zeros.
func crowd() api.Ledger {
	l := with(
		contract("nat", "nat", "UNPAIR; ADD; NIL operation; PAIR", "7"),
		keeper("list (ticket string)", `{Ticket 4 3 "x"; Ticket 5 1 ""}`),
		keeper("lambda nat nat", "{PUSH nat 1; ADD}"))
	for i, a := range l.Accounts {
		if a.Is != api.Nobody {
			l.Accounts[i].Balance = (i + 1) * 100
		}
		if a.Is == api.Person {
			l.Accounts[i].Counter = i
		}
	}
	l.Fees = 4000000 - (1+2+3+4+5+6+7)*100
	return l
}

func TestMove(t *testing.T) {
	if !Good(crowd()) {
		t.Fatal("crowd")
	}
	for _, x := range []struct {
		from, to, n int
		e           api.Errno
	}{
		{0, 1, 0, api.OK},
		{0, 1, 1, api.OK},
		{0, 1, 99, api.OK},
		{0, 1, 100, api.OK},
		{3, 6, 400, api.OK},
		{6, 3, 700, api.OK},
		{4, 5, 123, api.OK},
		{5, 5, 0, api.OK},
		{5, 5, 600, api.OK},
		// There is less, be it that it would come back.
		{0, 1, 101, api.ErrFunds},
		{0, 1, api.MaxInt, api.ErrFunds},
		{6, 0, 701, api.ErrFunds},
		{5, 5, 601, api.ErrFunds},
		// No amount.
		{0, 1, -1, api.ErrRange},
		{0, 1, api.MaxInt + 1, api.ErrRange},
		{0, 0, -1, api.ErrRange},
		{0, 1, math.MinInt, api.ErrRange},
		{0, 1, math.MaxInt, api.ErrRange},
		// Nobody, or no address: ahead of all else.
		{0, 7, 1, api.ErrNone},
		{7, 0, 0, api.ErrNone},
		{11, 11, 0, api.ErrNone},
		{0, 12, 1, api.ErrNone},
		{12, 0, 1, api.ErrNone},
		{0, -1, 1, api.ErrNone},
		{-1, 0, 1, api.ErrNone},
		{math.MinInt, 0, 1, api.ErrNone},
		{0, math.MaxInt, 1, api.ErrNone},
		{0, 7, -1, api.ErrNone},
		{12, 0, -1, api.ErrNone},
		{0, 12, 101, api.ErrNone},
		{7, 0, api.MaxInt + 1, api.ErrNone},
	} {
		l := crowd()
		got, e := Move(l, x.from, x.to, x.n)
		want := crowd()
		if x.e == api.OK {
			want.Accounts[x.from].Balance -= x.n
			want.Accounts[x.to].Balance += x.n
		}
		if e != x.e || !alikeLedgers(got, want) {
			t.Errorf("Move(%d, %d, %d): %s, %+v", x.from, x.to, x.n, errorNames[e], got)
		}
		if !alikeLedgers(l, crowd()) {
			t.Errorf("Move(%d, %d, %d) changes what was handed in", x.from, x.to, x.n)
		}
		if !Good(got) {
			t.Errorf("Move(%d, %d, %d) is not good", x.from, x.to, x.n)
		}
	}
}

// From the first account to the last one, and back.
func TestMoveEnds(t *testing.T) {
	l := New()
	l.Accounts[11] = keeper("nat", "5")
	there, e := Move(l, 0, 11, 1000000)
	if e != api.OK || there.Accounts[0].Balance != 0 || there.Accounts[11].Balance != 1000000 || !Good(there) {
		t.Errorf("there: %s, %+v", errorNames[e], there)
	}
	back, e := Move(there, 11, 0, 1000000)
	if e != api.OK || !alikeLedgers(back, l) {
		t.Errorf("back: %s, %+v", errorNames[e], back)
	}
}

// Nothing else is asked of a ledger: one that is not good has its money moved as well.
func TestMoveWhatever(t *testing.T) {
	var l api.Ledger
	for i, is := range []int{api.Nobody, api.Contract, 3, -1, api.Person} {
		l.Accounts[i].Is = is
		l.Accounts[i].Balance = 10
	}
	l.Accounts[4].Balance = -5
	l.Accounts[3].Counter = -1
	l.Accounts[2].Storage = valueOf("list nat", "{1; -2}")
	l.Fees = -77
	for _, x := range []struct {
		from, to, n int
		e           api.Errno
		left, now   int
	}{
		{1, 2, 4, api.OK, 6, 14},
		{2, 3, 10, api.OK, 0, 20},
		{3, 4, 3, api.OK, 7, -2},
		{3, 4, 11, api.ErrFunds, 10, -5},
		{4, 1, 0, api.ErrFunds, -5, 10},
		{4, 4, 1, api.ErrFunds, -5, -5},
		{0, 1, 1, api.ErrNone, 10, 10},
		{1, 0, 1, api.ErrNone, 10, 10},
		{1, 5, 1, api.ErrNone, 10, 0},
	} {
		got, e := Move(l, x.from, x.to, x.n)
		want := l
		want.Accounts[x.from].Balance, want.Accounts[x.to].Balance = x.left, x.now
		if e != x.e || !alikeLedgers(got, want) {
			t.Errorf("Move(%d, %d, %d): %s, %+v", x.from, x.to, x.n, errorNames[e], got)
		}
	}
}

// opinion is what Move should say, worked out with numbers that have no bounds.
func opinion(l api.Ledger, from, to, n int) api.Errno {
	for _, i := range []int{from, to} {
		if i < 0 || i > 11 || l.Accounts[i].Is == 0 {
			return api.ErrNone
		}
	}
	most := new(big.Int).Lsh(big.NewInt(1), 60)
	amount := big.NewInt(int64(n))
	if amount.Sign() < 0 || amount.Cmp(most) > 0 {
		return api.ErrRange
	}
	if left := new(big.Int).Sub(big.NewInt(int64(l.Accounts[from].Balance)), amount); left.Sign() < 0 {
		return api.ErrFunds
	}
	return api.OK
}

// Many moves, one behind the other: no money is made or lost, and nobody has less than nothing.
func TestManyMoves(t *testing.T) {
	r := rand.New(rand.NewSource(71))
	l := crowd()
	done := 0
	for range 3000 {
		from, to, n := r.Intn(14)-1, r.Intn(14)-1, r.Intn(600)-5
		before := l
		got, e := Move(l, from, to, n)
		if want := opinion(l, from, to, n); e != want {
			t.Fatalf("Move(%d, %d, %d): %s, wanted %s", from, to, n, errorNames[e], errorNames[want])
		}
		if !alikeLedgers(l, before) {
			t.Fatalf("Move(%d, %d, %d) changes what was handed in", from, to, n)
		}
		if e == api.OK {
			done++
			l.Accounts[from].Balance -= n
			l.Accounts[to].Balance += n
		}
		if !alikeLedgers(got, l) || Sum(got) != 4000000 || !Good(got) {
			t.Fatalf("Move(%d, %d, %d): %+v", from, to, n, got)
		}
		l = got
	}
	if done < 300 {
		t.Errorf("only %d were done", done)
	}
}
