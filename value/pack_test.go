package value

import (
	"math/rand"
	"slices"
	"strings"
	"testing"

	"touchstone/api"
	"touchstone/tree"
)

// P4.6

// told are values of types, and the bytes that tell them.
var told = []struct {
	t api.Type
	v api.Value
	s string
}{
	{unitT, unit, "\x05\x02\x14\x00"},
	{boolT, val(api.Bool, 1), "\x05\x02\x15\x00"},
	{boolT, val(api.Bool, 0), "\x05\x02\x16\x00"},
	{intT, val(api.Integer, 0), "\x05\x00\x00"},
	{intT, val(api.Integer, -1), "\x05\x00\x41"},
	{intT, val(api.Integer, -64), "\x05\x00\xc0\x01"},
	{intT, val(api.Integer, -api.MaxInt), "\x05\x00\xc0\x80\x80\x80\x80\x80\x80\x80\x20"},
	{natT, nat(63), "\x05\x00\x3f"},
	{natT, nat(64), "\x05\x00\x80\x01"},
	{mutezT, val(api.Mutez, api.MaxInt), "\x05\x00\x80\x80\x80\x80\x80\x80\x80\x80\x20"},
	{addrT, val(api.Address, 11), "\x05\x00\x0b"},
	{textT, text(""), "\x05\x01\x00"},
	{textT, text("\x05a"), "\x05\x01\x02\x05a"},
	{textT, text(strings.Repeat("x", 64)), "\x05\x01\x80\x01" + strings.Repeat("x", 64)},
	{ty(api.Option, natT), nothing, "\x05\x02\x1b\x00"},
	{ty(api.Option, natT), some(nat(5)), "\x05\x02\x1a\x01\x00\x05"},
	{ty(api.Pair, natT, textT), both(nat(1), text("a")), "\x05\x02\x17\x02\x00\x01\x01\x01a"},
	{ty(api.Or, natT, textT), left(nat(3)), "\x05\x02\x18\x01\x00\x03"},
	{ty(api.Or, natT, textT), right(text("b")), "\x05\x02\x19\x01\x01\x01b"},
	{listT, val(api.List, 0), "\x05\x03\x00"},
	{listT, val(api.List, 0, nat(2), nat(1)), "\x05\x03\x02\x00\x02\x00\x01"},
	{mapT, val(api.Map, 0), "\x05\x03\x00"},
	{mapT, val(api.Map, 0, both(nat(1), text("b")), both(nat(2), text("a"))), "\x05\x03\x02\x02\x1c\x02\x00\x01\x01\x01b\x02\x1c\x02\x00\x02\x01\x01a"},
	{textT, text(strings.Repeat("x", 196)), "\x05\x01\x84\x03" + strings.Repeat("x", 196)},
}

func TestPack(t *testing.T) {
	for _, x := range told {
		if s, e := Pack(x.t, x.v); s != x.s || e != api.OK {
			t.Errorf("Pack(%v, %v): %q, %d", x.t, x.v, s, e)
		}
		if s, e := Told(x.v); s != x.s || e != api.OK {
			t.Errorf("Told(%v): %q, %d", x.v, s, e)
		}
		if v, e := Unpack(x.t, x.s); !alike(v, x.v) || e != api.OK {
			t.Errorf("Unpack(%v, %q): %v, %d", x.t, x.s, v, e)
		}
	}
}

func TestPackType(t *testing.T) {
	for _, x := range slices.Concat(untold(), wrongs()) {
		if s, e := Pack(x.t, x.v); s != "" || e != api.ErrType {
			t.Errorf("Pack(%v, %v): %q, %d", x.t, x.v, s, e)
		}
	}
	// That a value is not of the type counts for more than that it is too long.
	if s, e := Pack(ty(api.Pair, textT, natT), both(text(longest), nat(-1))); s != "" || e != api.ErrType {
		t.Errorf("Pack of a long one that is not of the type: %q, %d", s, e)
	}
	if s, e := Pack(ty(api.Pair, textT, ty(api.Option, opT)), both(text(longest), nothing)); s != "" || e != api.ErrType {
		t.Errorf("Pack of a long one that is not Packed: %q, %d", s, e)
	}
}

func TestPackLong(t *testing.T) {
	for n := 150; n <= api.MaxText; n++ {
		v := text(strings.Repeat("x", n))
		for _, pack := range []func() (string, api.Errno){
			func() (string, api.Errno) { return Pack(textT, v) },
			func() (string, api.Errno) { return Told(v) },
		} {
			s, e := pack()
			if n <= 196 && (e != api.OK || len(s) != n+4) {
				t.Errorf("a text of %d bytes: %d, %d bytes", n, e, len(s))
			}
			if n > 196 && (e != api.ErrLong || s != "") {
				t.Errorf("a text of %d bytes: %d, %d bytes", n, e, len(s))
			}
		}
	}
	for all := 189; all < 195; all++ {
		for n := range all {
			bytes := 4 + 2 + 2 + all
			for _, one := range []int{n, all - n} {
				if one >= 64 {
					bytes++
				}
			}
			s, e := Pack(ty(api.Pair, textT, textT), both(text(strings.Repeat("x", n)), text(strings.Repeat("y", all-n))))
			if bytes <= 200 && (e != api.OK || len(s) != bytes) || bytes > 200 && (e != api.ErrLong || s != "") {
				t.Errorf("texts of %d and %d bytes: %d, %d bytes", n, all-n, e, len(s))
			}
		}
	}
	kind, v := maps(12, natT, nat(1))
	if s, e := Pack(kind, v); s != "" || e != api.ErrLong {
		t.Errorf("Pack of one that is too deep: %q, %d", s, e)
	}
	if s, e := Told(v); s != "" || e != api.ErrLong {
		t.Errorf("Told of one that is too deep: %q, %d", s, e)
	}
	kind, v = maps(11, natT, nat(1))
	if s, e := Pack(kind, v); len(s) != 1+11*7+2 || e != api.OK {
		t.Errorf("Pack of a deep one: %q, %d", s, e)
	}
}

func TestUnpackWrong(t *testing.T) {
	opt := ty(api.Option, natT)
	for _, x := range []struct {
		t api.Type
		s string
	}{
		{natT, ""}, {natT, "\x05"}, {natT, "\x00\x01"}, {natT, "\x04\x00\x01"}, {natT, "\x06\x00\x01"}, {natT, "\x05\x05\x00\x01"}, {natT, "5\x00\x01"},
		{natT, "\x05\x00"}, {natT, "\x05\x00\x01\x00"}, {natT, "\x05\x00\x01\x05"}, {natT, " \x05\x00\x01"},
		{natT, "\x05\x00\x41"}, {natT, "\x05\x00\x40"}, {natT, "\x05\x00\x80\x00"}, {natT, "\x05\x01\x00"}, {natT, "\x05\x03\x00"}, {natT, "\x05\x02\x14\x00"}, {natT, "\x05\x04\x00"},
		{natT, "\x05\x00\x81\x80\x80\x80\x80\x80\x80\x80\x20"},
		{addrT, "\x05\x00\x0c"}, {unitT, "\x05\x02\x14\x01\x00\x00"}, {unitT, "\x05\x02\x13\x00"}, {unitT, "\x05\x02\x01\x00"}, {unitT, "\x05\x02\x14"},
		{opt, "\x05\x02\x1b\x01\x00\x01"}, {opt, "\x05\x02\x1a\x00"}, {opt, "\x05\x02\x1a\x02\x00\x01\x00\x01"}, {opt, "\x05\x02\x1a\x01\x05\x00\x01"},
		{textT, "\x05\x01\x02a"}, {textT, "\x05\x01\x01ab"},
		{mapT, "\x05\x03\x02\x02\x1c\x02\x00\x02\x01\x01a\x02\x1c\x02\x00\x01\x01\x01b"},
		{mapT, "\x05\x03\x02\x02\x1c\x02\x00\x01\x01\x01a\x02\x1c\x02\x00\x01\x01\x01b"},
		{mapT, "\x05\x03\x01\x02\x17\x02\x00\x01\x01\x01a"},
		{listT, "\x05\x03\x19" + strings.Repeat("\x00\x00", 25)},
		{listT, "\x05\x03\x02\x00\x00"},
		{ty(api.Option, ty(api.Option, natT)), "\x05" + strings.Repeat("\x02\x1a\x01", 24) + "\x00\x00"},
		// Types that are not Packed, of which Parse has a value.
		{ty(api.Option, opT), "\x05\x02\x1b\x00"}, {ty(api.Option, tickT), "\x05\x02\x1b\x00"}, {ty(api.Option, lamT), "\x05\x02\x1b\x00"},
		{ty(api.List, tickT), "\x05\x03\x00"}, {ty(api.Map, natT, opT), "\x05\x03\x00"}, {ty(api.Or, natT, lamT), "\x05\x02\x18\x01\x00\x03"},
		{opT, "\x05\x02\x14\x00"}, {lamT, "\x05\x03\x00"}, {tickT, "\x05\x00\x01"},
		// Types that are not good.
		{api.Type{}, "\x05\x00\x00"}, {ty(16), "\x05\x00\x00"}, {ty(api.Nat, natT), "\x05\x00\x00"}, {ty(api.Option), "\x05\x02\x1b\x00"}, {ty(api.Map, listT, natT), "\x05\x03\x00"}, {under(24, natT), "\x05\x02\x1b\x00"},
		// Texts that are too long.
		{textT, "\x05\x01\x85\x03" + strings.Repeat("x", 197)}, {textT, "\x05\x01\x88\x03" + strings.Repeat("x", 200)},
		{ty(api.Pair, textT, textT), "\x05\x02\x17\x02\x01\x80\x01" + strings.Repeat("x", 64) + "\x01\xbf\x01" + strings.Repeat("y", 127)},
		{natT, "\x05\x00\x01" + strings.Repeat("\x00", 198)}, {natT, strings.Repeat("\x05", 100000)}, {listT, "\x05" + strings.Repeat("\x03\x01", 100000)},
	} {
		if v, e := Unpack(x.t, x.s); !bare(v) || e != api.ErrForm {
			t.Errorf("Unpack(%v, %q): %v, %d", x.t, x.s, v, e)
		}
	}
}

// Bytes of a value, cut off, with one more, and with one other byte.
func TestUnpackSpoilt(t *testing.T) {
	for _, x := range told {
		for i := range x.s {
			if v, e := Unpack(x.t, x.s[:i]); !bare(v) || e != api.ErrForm {
				t.Errorf("Unpack(%v, %q): %v, %d", x.t, x.s[:i], v, e)
			}
			for b := range 256 {
				s := x.s[:i] + string([]byte{byte(b)}) + x.s[i+1:]
				unpacksLike(t, x.t, s)
			}
		}
		for b := range 256 {
			s := x.s + string([]byte{byte(b)})
			if v, e := Unpack(x.t, s); !bare(v) || e != api.ErrForm {
				t.Errorf("Unpack(%v, %q): %v, %d", x.t, s, v, e)
			}
		}
	}
}

// unpacksLike holds Unpack against a second opinion.
func unpacksLike(t *testing.T, x api.Type, s string) {
	t.Helper()
	var want api.Value
	ok := false
	if len(s) > 0 && len(s) <= 200 && s[0] == 5 {
		if n, e := tree.Decode(s[1:]); e == api.OK {
			want, ok = tells(x, n)
		}
	}
	v, e := Unpack(x, s)
	if !alike(v, want) || ok != (e == api.OK) || !ok && e != api.ErrForm {
		t.Fatalf("Unpack(%v, %q): %v, %d, wanted %v, %v", x, s, v, e, want, ok)
	}
	if back, e := Pack(x, v); ok && (back != s || e != api.OK) {
		t.Fatalf("Pack of what Unpack(%v, %q) answered: %q, %d", x, s, back, e)
	}
}

func TestPackAgrees(t *testing.T) {
	r := rand.New(rand.NewSource(46))
	long := 0
	for range 20000 {
		x := someType(r, 1+r.Intn(4), false)
		v := someValue(r, x)
		if typeHolds(x, api.Operation, api.Lambda, api.Ticket) {
			if s, e := Pack(x, v); s != "" || e != api.ErrType {
				t.Fatalf("Pack(%v, %v): %q, %d", x, v, s, e)
			}
			continue
		}
		want, e := tree.Encode(treeBy(x, v))
		want = "\x05" + want
		if e != api.OK || len(want) > 200 {
			want, e = "", api.ErrLong
			long++
		}
		if s, got := Pack(x, v); s != want || got != e {
			t.Fatalf("Pack(%v, %v): %q, %d, wanted %q, %d", x, v, s, got, want, e)
		}
		if s, got := Told(v); s != want || got != e {
			t.Fatalf("Told(%v): %q, %d, wanted %q, %d", v, s, got, want, e)
		}
		if e == api.OK {
			unpacksLike(t, x, want)
			unpacksLike(t, someType(r, 2, true), want)
		}
	}
	if long < 100 {
		t.Errorf("only %d were too long", long)
	}
}

// What is no value of a type that can be told is told neither, or ends at least.
func TestToldEnds(t *testing.T) {
	for _, v := range []api.Value{{}, val(16, 0), val(-1, 0), val(99, 0), sent(0, 0, natT, nat(1)), code(natT, textT), ticket(1, 2, text("a")),
		nat(api.MaxInt + 1), text(longest + "x"), some(ticket(1, 2, text("a"))), val(api.Map, 0, nat(1), ticket(1, 1, unit)), val(api.List, 0, api.Value{})} {
		if s, e := Told(v); s != "" || e == api.OK {
			t.Errorf("Told(%v): %q, %d", v, s, e)
		}
	}
	for _, v := range []api.Value{val(api.Map, 0, nat(1)), val(api.Or, 7), val(api.Pair, 0), val(api.Option, 0, nat(1), nat(2)), val(api.Nat, 1, nat(1)), asList(100000, nat),
		val(api.Unit, 0, asList(1000, nat)), val(api.Map, 0, val(api.Pair, 0))} {
		Told(v)
	}
	wide := nat(1)
	for range 200 {
		wide = both(wide, wide)
	}
	if s, e := Told(wide); s != "" || e != api.ErrLong {
		t.Errorf("Told of far too many: %q, %d", s, e)
	}
}
