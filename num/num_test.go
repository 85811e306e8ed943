package num

import (
	"math"
	"math/big"
	"testing"

	"touchstone/api"
)

const most = api.MaxInt

// outside are numbers that are not within the bounds.
var outside = []int{most + 1, -most - 1, 2 * most, -2 * most, math.MaxInt, math.MinInt, math.MinInt + 1}

// inside are numbers within the bounds: both ends, what lies about 0, and about where products pass the bounds.
var inside = []int{
	-most, -most + 1, -most / 2, -most/2 - 1, -most / 3, -1<<31 - 1, -1 << 31, -1 << 30, -1<<30 - 1, -1<<30 + 1,
	-1000003, -7, -6, -3, -2, -1, 0, 1, 2, 3, 6, 7, 1000003,
	1<<30 - 1, 1 << 30, 1<<30 + 1, 1 << 31, 1<<31 + 1, most / 3, most / 2, most/2 + 1, most - 1, most,
}

type binary func(a, b int) (int, api.Errno)

type sample struct {
	a, b, n int
	e       api.Errno
}

func expect(t *testing.T, name string, f binary, samples []sample) {
	t.Helper()
	for _, x := range samples {
		if n, e := f(x.a, x.b); n != x.n || e != x.e {
			t.Errorf("%s(%d, %d): %d, %d; wanted %d, %d", name, x.a, x.b, n, e, x.n, x.e)
		}
	}
}

// agree holds f against numbers without bounds, at all pairs of inside.
func agree(t *testing.T, name string, f binary, exact func(z, a, b *big.Int) *big.Int) {
	t.Helper()
	for _, a := range inside {
		for _, b := range inside {
			z := exact(new(big.Int), big.NewInt(int64(a)), big.NewInt(int64(b)))
			want, e := 0, api.ErrOver
			if z.CmpAbs(big.NewInt(most)) <= 0 {
				want, e = int(z.Int64()), api.OK
			}
			expect(t, name, f, []sample{{a, b, want, e}})
		}
	}
}

// P1.1

func TestIn(t *testing.T) {
	for _, n := range inside {
		if !In(n) {
			t.Errorf("In(%d): false", n)
		}
	}
	for _, n := range outside {
		if In(n) {
			t.Errorf("In(%d): true", n)
		}
	}
}

func TestRangeFirst(t *testing.T) {
	for _, bad := range outside {
		if n, e := Abs(bad); n != 0 || e != api.ErrRange {
			t.Errorf("Abs(%d): %d, %d", bad, n, e)
		}
		for _, other := range append(inside, outside...) {
			rangeFirst(t, bad, other)
			rangeFirst(t, other, bad)
		}
	}
}

func rangeFirst(t *testing.T, a, b int) {
	t.Helper()
	for name, f := range map[string]binary{"Add": Add, "Sub": Sub, "Mul": Mul} {
		expect(t, name, f, []sample{{a, b, 0, api.ErrRange}})
	}
	if q, r, e := Ediv(a, b); q != 0 || r != 0 || e != api.ErrRange {
		t.Errorf("Ediv(%d, %d): %d, %d, %d", a, b, q, r, e)
	}
}

// P1.2

func TestAbs(t *testing.T) {
	for _, x := range [][2]int{{0, 0}, {1, 1}, {-1, 1}, {5, 5}, {-5, 5}, {most, most}, {-most, most}, {1 - most, most - 1}} {
		if n, e := Abs(x[0]); n != x[1] || e != api.OK {
			t.Errorf("Abs(%d): %d, %d", x[0], n, e)
		}
	}
}

func TestAdd(t *testing.T) {
	expect(t, "Add", Add, []sample{
		{2, 3, 5, api.OK},
		{-2, -3, -5, api.OK},
		{most - 1, 1, most, api.OK},
		{1 - most, -1, -most, api.OK},
		{most, -most, 0, api.OK},
		{most, 1, 0, api.ErrOver},
		{-most, -1, 0, api.ErrOver},
		{most, most, 0, api.ErrOver},
		{-most, -most, 0, api.ErrOver},
	})
	agree(t, "Add", Add, (*big.Int).Add)
}

func TestSub(t *testing.T) {
	expect(t, "Sub", Sub, []sample{
		{3, 5, -2, api.OK},
		{5, 3, 2, api.OK},
		{0, most, -most, api.OK},
		{0, -most, most, api.OK},
		{-most, -most, 0, api.OK},
		{-most, 1, 0, api.ErrOver},
		{most, -1, 0, api.ErrOver},
		{most, -most, 0, api.ErrOver},
		{-most, most, 0, api.ErrOver},
	})
	agree(t, "Sub", Sub, (*big.Int).Sub)
}

func TestMul(t *testing.T) {
	expect(t, "Mul", Mul, []sample{
		{6, 7, 42, api.OK},
		{-6, 7, -42, api.OK},
		{6, -7, -42, api.OK},
		{-6, -7, 42, api.OK},
		{0, -most, 0, api.OK},
		{most, 0, 0, api.OK},
		{1, most, most, api.OK},
		{-1, most, -most, api.OK},
		{-1, -most, most, api.OK},
		{1 << 30, 1 << 30, most, api.OK},
		{1 << 30, -1 << 30, -most, api.OK},
		{1<<30 + 1, 1 << 30, 0, api.ErrOver},
		{-1<<30 - 1, 1 << 30, 0, api.ErrOver},
		{2, most, 0, api.ErrOver},
		{-2, most, 0, api.ErrOver},
		// These wrap round, in 64 bits, to numbers within the bounds.
		{1 << 32, 1 << 32, 0, api.ErrOver},
		{1 << 32, -1<<32 - 1, 0, api.ErrOver},
		{16, most, 0, api.ErrOver},
		{most, most, 0, api.ErrOver},
		{-most, most, 0, api.ErrOver},
		{-most, -most, 0, api.ErrOver},
	})
	agree(t, "Mul", Mul, (*big.Int).Mul)
}

// P1.3

func TestEdiv(t *testing.T) {
	for _, x := range [][4]int{
		{7, 2, 3, 1}, {-7, 2, -4, 1}, {7, -2, -3, 1}, {-7, -2, 4, 1},
		{6, 3, 2, 0}, {-6, 3, -2, 0}, {6, -3, -2, 0}, {-6, -3, 2, 0},
		{1, 2, 0, 1}, {-1, 2, -1, 1}, {1, -2, 0, 1}, {-1, -2, 1, 1},
		{0, 5, 0, 0}, {0, -5, 0, 0},
		{most, 1, most, 0}, {most, -1, -most, 0}, {-most, 1, -most, 0}, {-most, -1, most, 0},
		{1, most, 0, 1}, {-1, most, -1, most - 1}, {1, -most, 0, 1}, {-1, -most, 1, most - 1},
		{most, -most, -1, 0}, {-most, -most, 1, 0},
		{most - 1, most, 0, most - 1}, {1 - most, most, -1, 1}, {1 - most, -most, 1, 1},
	} {
		if q, r, e := Ediv(x[0], x[1]); q != x[2] || r != x[3] || e != api.OK {
			t.Errorf("Ediv(%d, %d): %d, %d, %d; wanted %d, %d", x[0], x[1], q, r, e, x[2], x[3])
		}
	}
}

func TestEdivByNone(t *testing.T) {
	for _, a := range inside {
		if q, r, e := Ediv(a, 0); q != 0 || r != 0 || e != api.ErrNone {
			t.Errorf("Ediv(%d, 0): %d, %d, %d", a, q, r, e)
		}
	}
}

func TestEdivAgrees(t *testing.T) {
	for _, a := range inside {
		for _, b := range inside {
			if b == 0 {
				continue
			}
			wantQ, wantR := new(big.Int).DivMod(big.NewInt(int64(a)), big.NewInt(int64(b)), new(big.Int))
			q, r, e := Ediv(a, b)
			if e != api.OK || int64(q) != wantQ.Int64() || int64(r) != wantR.Int64() {
				t.Errorf("Ediv(%d, %d): %d, %d, %d; wanted %v, %v", a, b, q, r, e, wantQ, wantR)
			}
			if size, _ := Abs(b); r < 0 || r >= size || !In(q) {
				t.Errorf("Ediv(%d, %d): %d, %d out of their bounds", a, b, q, r)
			}
		}
	}
}
