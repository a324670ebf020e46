package tests

import (
	"math"
	"testing"

	"loop.example/g01227/impl"
)

// modelMiddle returns a number that is at least one of the others, and at most another one.
func modelMiddle(a, b, c float32) float32 {
	if a <= b && b <= c || c <= b && b <= a {
		return b
	}
	if b <= a && a <= c || c <= a && a <= b {
		return a
	}
	return c
}

func wantMerge(t *testing.T, name string, a, b float32, code int64, wantA, wantB float32, wantCode int64) {
	t.Helper()
	if !same(a, wantA) || !same(b, wantB) || code != wantCode {
		t.Errorf("%s: got %v, %v, %d, want %v, %v, %d", name, a, b, code, wantA, wantB, wantCode)
	}
}

func (d *draw) stream() float32 {
	if d.below(2) == 0 {
		return float32(d.below(9)) / 8
	}
	return d.amount()
}

func TestMergeTwoIsThatOfTheModel(t *testing.T) {
	d := &draw{90}
	var met [4]int
	for range 40000 {
		a, b, take, share := d.stream(), d.stream(), d.stream(), d.share()
		one, two, code := impl.MergeTwo(a, b, take, share)
		if add(a, b) <= take {
			met[0]++
			wantMerge(t, "both", one, two, code, a, b, impl.OK)
			continue
		}
		rest, due := sub(take, b), mul(share, take)
		want := modelMiddle(a, rest, due)
		wantMerge(t, "merge", one, two, code, want, sub(take, want), impl.OK)
		switch want {
		case due:
			met[1]++
		case a:
			met[2]++
		case rest:
			met[3]++
		}
		if t.Failed() {
			t.Fatalf("%v %v %v %v", a, b, take, share)
		}
	}
	if met[0] == 0 || met[1] == 0 || met[2] == 0 || met[3] == 0 {
		t.Errorf("how streams merge: %v", met)
	}
}

func TestMergeTwoNeitherMakesNorTakesMore(t *testing.T) {
	d := &draw{91}
	for range 20000 {
		a, b, take, share := d.stream(), d.stream(), d.stream(), d.share()
		one, two, code := impl.MergeTwo(a, b, take, share)
		if code != impl.OK || !impl.IsAmount(one) || !impl.IsAmount(two) {
			t.Fatalf("%v %v %v %v: %v %v %d", a, b, take, share, one, two, code)
		}
		far := 1e-6 * (float64(take) + float64(b))
		if one > a || float64(two) > float64(b)+far || float64(one)+float64(two) > float64(take)+far {
			t.Fatalf("%v %v %v %v: %v %v", a, b, take, share, one, two)
		}
	}
}

func TestPlainMerges(t *testing.T) {
	much := float32(math.MaxFloat32)
	for _, c := range []struct {
		name                      string
		a, b, take, share, c1, c2 float32
	}{
		{"example", 0.5, 0.25, 0.5, 0.5, 0.25, 0.25}, {"both go", 0.5, 0.25, 1, 0.5, 0.5, 0.25}, {"both just go", 0.5, 0.25, 0.75, 0, 0.5, 0.25},
		{"both just go, as their sum is rounded", 1, 1.0 / (1 << 25), 1, 0.5, 1, 1.0 / (1 << 25)},
		{"due", 1, 1, 1, 0.25, 0.25, 0.75}, {"little in the first", 0.125, 1, 1, 0.5, 0.125, 0.875}, {"little in the second", 1, 0.125, 1, 0.5, 0.875, 0.125},
		{"no right", 1, 0.25, 1, 0, 0.75, 0.25}, {"all right", 0.75, 1, 1, 1, 0.75, 0.25}, {"no right, and much in the second", 1, 2, 1, 0, 0, 1},
		{"all right, and much in the first", 2, 1, 1, 1, 1, 0}, {"nothing is taken", 1, 1, 0, 0.5, 0, 0}, {"nothing comes", 0, 0, 0, 0.5, 0, 0},
		{"nothing in the first", 0, 1, 0.5, 1, 0, 0.5}, {"nothing in the second", 1, 0, 0.5, 0, 0.5, 0},
		{"an infinite sum", much, much, much, 0.5, much / 2, much / 2}, {"an infinite sum, due to the first", much, much, much, 1, much, 0}, {"very little", smallest, smallest, smallest, 1, smallest, 0},
	} {
		one, two, code := impl.MergeTwo(c.a, c.b, c.take, c.share)
		wantMerge(t, c.name, one, two, code, c.c1, c.c2, impl.OK)
	}
}

func TestMergeTwoRefuses(t *testing.T) {
	for _, bad := range badAmounts {
		for at := range 7 {
			n := [3]float32{0.25, 0.25, 1}
			for i := range n {
				if (at+1)>>i&1 == 1 {
					n[i] = bad
				}
			}
			one, two, code := impl.MergeTwo(n[0], n[1], n[2], 0.5)
			wantMerge(t, "no amount", one, two, code, 0, 0, impl.ErrRange)
		}
	}
	for _, bad := range badShares {
		for _, take := range []float32{0.25, 8} {
			one, two, code := impl.MergeTwo(0.25, 0.25, take, bad)
			wantMerge(t, "no share", one, two, code, 0, 0, impl.ErrRange)
		}
	}
}

func TestSplitOneIsThatOfTheModel(t *testing.T) {
	d, all, some := &draw{92}, 0, 0
	for range 20000 {
		send, takes := d.stream(), impl.Four{d.stream(), d.stream(), d.stream(), d.stream()}
		turns := d.turns(1 + d.below(4))
		if d.below(3) == 0 {
			turns = impl.Four{d.share(), d.share(), d.share(), d.share()}
		}
		want := send
		for k := range turns {
			if turns[k] > 0 {
				want = lesser(want, div(takes[k], turns[k]))
			}
		}
		if want == send {
			all++
		} else {
			some++
		}
		got, code := impl.SplitOne(send, takes, turns)
		wantNumber(t, "split", got, code, want, impl.OK)
	}
	if all == 0 || some == 0 {
		t.Errorf("streams that go, and that do not: %d %d", all, some)
	}
}

func TestPlainSplits(t *testing.T) {
	much := float32(math.MaxFloat32)
	for _, c := range []struct {
		name         string
		send         float32
		takes, turns impl.Four
		want         float32
	}{
		{"example", 1, impl.Four{0.25, 1}, impl.Four{0.5, 0.5}, 0.5}, {"all goes", 0.25, impl.Four{1, 1}, impl.Four{0.5, 0.5}, 0.25},
		{"the last one stops", 1, impl.Four{1, 1, 1, 0.125}, impl.Four{0.25, 0.25, 0.25, 0.25}, 0.5}, {"no turn", 1, impl.Four{}, impl.Four{}, 1},
		{"takes nothing, no turn", 1, impl.Four{0, 1}, impl.Four{0, 1}, 1}, {"takes nothing", 1, impl.Four{0, 1}, impl.Four{smallest, 1}, 0},
		{"sends nothing", 0, impl.Four{0, 1}, impl.Four{0.5, 0.5}, 0}, {"an infinite quotient", 1, impl.Four{much}, impl.Four{smallest}, 1},
		{"very much", much, impl.Four{much}, impl.Four{0.5}, much}, {"turns need not be 1 together", 1, impl.Four{0.5, 0.75}, impl.Four{1, 1}, 0.5},
	} {
		got, code := impl.SplitOne(c.send, c.takes, c.turns)
		wantNumber(t, c.name, got, code, c.want, impl.OK)
	}
}

func TestSplitOneRefuses(t *testing.T) {
	takes, turns := impl.Four{0.25, 1}, impl.Four{0.5, 0.5}
	for _, bad := range badAmounts {
		got, code := impl.SplitOne(bad, takes, turns)
		wantNumber(t, "send", got, code, 0, impl.ErrRange)
	}
	for arm := range 4 {
		for _, bad := range badAmounts {
			other := takes
			other[arm] = bad
			got, code := impl.SplitOne(1, other, turns)
			wantNumber(t, "takes", got, code, 0, impl.ErrRange)
		}
		for _, bad := range badShares {
			other := turns
			other[arm] = bad
			got, code := impl.SplitOne(1, takes, other)
			wantNumber(t, "turns", got, code, 0, impl.ErrRange)
		}
	}
}
