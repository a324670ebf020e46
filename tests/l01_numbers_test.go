package tests

import (
	"math"
	"strings"
	"testing"

	"loop.example/g01227/impl"
)

func TestCodes(t *testing.T) {
	consts := []int64{impl.OK, impl.ErrInvalid, impl.ErrRange, impl.ErrLimit, impl.ErrState, impl.ErrSyntax, impl.ErrNotFound, impl.ErrBudget, impl.ErrProof}
	names := []string{"ok", "invalid", "range", "limit", "state", "syntax", "notfound", "budget", "proof"}
	for i, name := range names {
		if consts[i] != int64(i) {
			t.Errorf("the code of %s is %d, want %d", name, consts[i], i)
		}
		if got := impl.CodeName(int64(i)); got != name {
			t.Errorf("CodeName(%d) = %q, want %q", i, got, name)
		}
	}
	for _, code := range []int64{-1, 9, 256, 1 << 32, math.MinInt64, math.MaxInt64} {
		if got := impl.CodeName(code); got != "" {
			t.Errorf("CodeName(%d) = %q, want none", code, got)
		}
	}
}

func TestSameNumber(t *testing.T) {
	list := []float32{0, minusZero, 1, -1, belowOne, aboveOne, smallest, -smallest, inf, minusInf, nan, math.MaxFloat32}
	for i, a := range list {
		for k, b := range list {
			if got := impl.SameNumber(a, b); got != (i == k) {
				t.Errorf("SameNumber(%v, %v) = %v", a, b, got)
			}
		}
	}
	if !impl.SameNumber(nan, otherNaN) || !impl.SameNumber(otherNaN, nan) {
		t.Error("two NaN with other bits are not the same")
	}
}

func TestAmountsAndShares(t *testing.T) {
	for _, c := range []struct {
		a             float32
		amount, share bool
	}{
		{0, true, true}, {minusZero, false, false}, {smallest, true, true}, {-smallest, false, false},
		{0.5, true, true}, {belowOne, true, true}, {1, true, true}, {aboveOne, true, false},
		{math.MaxFloat32, true, false}, {-math.MaxFloat32, false, false}, {-1, false, false},
		{inf, false, false}, {minusInf, false, false}, {nan, false, false}, {otherNaN, false, false},
	} {
		if got := impl.IsAmount(c.a); got != c.amount {
			t.Errorf("IsAmount(%v) = %v", c.a, got)
		}
		if got := impl.IsShare(c.a); got != c.share {
			t.Errorf("IsShare(%v) = %v", c.a, got)
		}
	}
}

func TestNumberText(t *testing.T) {
	for _, c := range []struct {
		a    float32
		text string
	}{
		{0, "00000000"}, {minusZero, "80000000"}, {1, "3f800000"}, {-1, "bf800000"}, {0.5, "3f000000"},
		{0.1, "3dcccccd"}, {smallest, "00000001"}, {-smallest, "80000001"}, {fromBits(0x007fffff), "007fffff"},
		{math.MaxFloat32, "7f7fffff"}, {inf, "7f800000"}, {minusInf, "ff800000"}, {nan, "7fc00000"},
		{fromBits(0x0abcdef0), "0abcdef0"},
	} {
		if got := impl.NumberText(c.a); got != c.text {
			t.Errorf("NumberText(%v) = %q, want %q", c.a, got, c.text)
		}
		a, code := impl.ReadNumber(c.text)
		wantNumber(t, "ReadNumber "+c.text, a, code, c.a, impl.OK)
	}
	for _, bits := range []uint32{0x7fc00001, 0x7f800001, 0x7fffffff, 0xffc00000, 0xffffffff} {
		if got := impl.NumberText(fromBits(bits)); got != "7fc00000" {
			t.Errorf("NumberText of the NaN %08x = %q", bits, got)
		}
	}
}

func TestNumberTextsAreReadBack(t *testing.T) {
	d := &draw{1}
	for range 20000 {
		a := fromBits(d.bits()<<16 ^ d.bits())
		back, code := impl.ReadNumber(impl.NumberText(a))
		wantNumber(t, "read back", back, code, a, impl.OK)
	}
}

func TestReadNumberRefuses(t *testing.T) {
	for _, text := range []string{
		"", "0", "3f80000", "3f8000000", "3F800000", "3f80000G", "3f80000g", " 3f80000", "3f80000 ", "+3f80000", "-3f80000",
		"0x3f8000", "3f8_0000", "3f80.000", "3f800000\n", "7fc00001", "7f800001", "7fffffff", "ffc00000", "ff800001", "7FC00000",
		"NaN", "0.5", "3f80000\x00", "\xff\xff\xff\xff\xff\xff\xff\xff", "３f8000", strings.Repeat("0", 9), strings.Repeat("0", 1000000),
	} {
		a, code := impl.ReadNumber(text)
		if len(text) > 40 {
			text = text[:40]
		}
		wantNumber(t, "ReadNumber "+text, a, code, 0, impl.ErrSyntax)
	}
}
