package tests

import (
	"testing"

	"loop.example/g01227/impl"
)

// modelBetween returns the number at a part of the way from a to b.
func modelBetween(a, b int16, part, of int64) int16 {
	return modelCount(add(float32(a), mul(sub(float32(b), float32(a)), div(float32(part), float32(of)))))
}

// wideBetween makes the product first, and rounds it only at the end.
func wideBetween(a, b int16, part, of int64) int16 {
	return modelCount(float32(float64(a) + (float64(b)-float64(a))*float64(part)/float64(of)))
}

// modelGaps goes over all turns, and looks for the neighbours of each one.
func modelGaps(list []impl.Tally, between func(a, b int16, part, of int64) int16) []impl.Tally {
	var out []impl.Tally
	for i := range list {
		if out = append(out, list[i]); i == len(list)-1 {
			break
		}
		a, b := list[i], list[i+1]
		for t := a.Turn + 1; t < b.Turn; t++ {
			out = append(out, impl.Tally{Turn: t, Count: between(a.Count, b.Count, t-a.Turn, b.Turn-a.Turn), Full: between(a.Full, b.Full, t-a.Turn, b.Turn-a.Turn)})
		}
	}
	return out
}

func TestFillGapsIsThatOfTheModel(t *testing.T) {
	d, narrow := &draw{330}, 0
	var met [3]int
	for range 20000 {
		list := d.tallies(d.below(20), d.below(14))
		if d.below(3) == 0 {
			list = d.tied()
		}
		got, code := impl.FillGaps(list)
		want := modelGaps(list, modelBetween)
		switch {
		case widest(list) > 12:
			met[0]++
			wantTallies(t, "a wide gap", got, code, nil, impl.ErrState)
			continue
		case len(want) > 96:
			met[1]++
			wantTallies(t, "many turns", got, code, nil, impl.ErrLimit)
			continue
		}
		met[2]++
		wantTallies(t, "FillGaps", got, code, want, impl.OK)
		if t.Failed() {
			t.Fatal(list)
		}
		if !sameTallies(want, modelGaps(list, wideBetween)) {
			narrow++
		}
		again, code := impl.FillGaps(got)
		wantTallies(t, "nothing is left to fill", again, code, got, impl.OK)
	}
	if met[0] < 200 || met[1] < 200 || met[2] < 200 || narrow == 0 {
		t.Errorf("lists %v, with narrow numbers %d", met, narrow)
	}
}

// tied draws a list between whose neighbours there are ties.
func (d *draw) tied() []impl.Tally {
	var list []impl.Tally
	for i := range int64(1 + d.below(9)) {
		list = append(list, impl.Tally{Turn: 10 * i, Count: int16(5 * d.below(200)), Full: int16(5 * d.below(200))})
	}
	return list
}

// widest returns how many turns the widest gap has.
func widest(list []impl.Tally) int64 {
	gap := int64(0)
	for i := 1; i < len(list); i++ {
		gap = max(gap, list[i].Turn-list[i-1].Turn-1)
	}
	return gap
}

// TestGapsAreFilledBetweenTheirNeighbours asks for each turn, and for numbers that go from one neighbour to the other.
func TestGapsAreFilledBetweenTheirNeighbours(t *testing.T) {
	d := &draw{331}
	for range 5000 {
		a := impl.Tally{Turn: int64(d.below(60000)), Count: int16(d.below(32768)), Full: int16(d.below(1001))}
		b := impl.Tally{Turn: a.Turn + 1 + int64(d.below(13)), Count: int16(d.below(32768)), Full: int16(d.below(1001))}
		list, code := impl.FillGaps([]impl.Tally{a, b})
		if code != impl.OK || !impl.ValidTallies(list) || list[0] != a || list[len(list)-1] != b || int64(len(list)) != b.Turn-a.Turn+1 {
			t.Fatalf("%v %v: %v, %d", a, b, list, code)
		}
		for i := 1; i < len(list); i++ {
			one, two := list[i-1], list[i]
			rise, fall := one.Count <= two.Count && one.Full <= two.Full, one.Count >= two.Count && one.Full >= two.Full
			if two.Turn != one.Turn+1 || a.Count <= b.Count && a.Full <= b.Full && !rise || a.Count >= b.Count && a.Full >= b.Full && !fall {
				t.Fatalf("%v %v: %v", a, b, list)
			}
		}
	}
}

func TestPlainGaps(t *testing.T) {
	at := func(turn int64, count, full int16) impl.Tally {
		return impl.Tally{Turn: turn, Count: count, Full: full}
	}
	long := []impl.Tally{}
	for i := range int64(7) {
		long = append(long, at(13*i, 0, 0))
	}
	just := append(append([]impl.Tally{}, long...), at(91, 0, 0), at(95, 0, 0))
	over := append(append([]impl.Tally{}, long...), at(91, 0, 0), at(96, 0, 0))
	both := append(append([]impl.Tally{}, over...), at(110, 0, 0))
	for _, c := range []struct {
		name string
		list []impl.Tally
		want []impl.Tally
		code int64
	}{
		{"example", []impl.Tally{at(5, 1, 0), at(8, 4, 0)}, []impl.Tally{at(5, 1, 0), at(6, 2, 0), at(7, 3, 0), at(8, 4, 0)}, impl.OK},
		{"none", nil, nil, impl.OK},
		{"one", []impl.Tally{at(9, 3, 4)}, []impl.Tally{at(9, 3, 4)}, impl.OK},
		{"no gap", []impl.Tally{at(1, 3, 4), at(2, 9, 9)}, []impl.Tally{at(1, 3, 4), at(2, 9, 9)}, impl.OK},
		{"downwards", []impl.Tally{at(1, 9, 1000), at(4, 0, 100)}, []impl.Tally{at(1, 9, 1000), at(2, 6, 700), at(3, 3, 400), at(4, 0, 100)}, impl.OK},
		{"ties to the even one", []impl.Tally{at(1, 0, 5), at(3, 1, 2), at(5, 4, 1)}, []impl.Tally{at(1, 0, 5), at(2, 0, 4), at(3, 1, 2), at(4, 2, 2), at(5, 4, 1)}, impl.OK},
		{"a gap of 13 turns", []impl.Tally{at(0, 0, 0), at(14, 0, 0)}, nil, impl.ErrState},
		{"a gap of 12 turns ahead of one of 13", []impl.Tally{at(0, 0, 0), at(13, 0, 0), at(27, 0, 0)}, nil, impl.ErrState},
		{"the widest gap", []impl.Tally{at(0, 0, 0), at(65535, 0, 0)}, nil, impl.ErrState},
		{"one turn too many", over, nil, impl.ErrLimit},
		{"a wide gap behind too many turns", both, nil, impl.ErrState},
	} {
		got, code := impl.FillGaps(c.list)
		wantTallies(t, c.name, got, code, c.want, c.code)
	}
	got, code := impl.FillGaps([]impl.Tally{at(0, 0, 0), at(13, 26, 13)})
	if len(got) != 14 || code != impl.OK || got[12] != at(12, 24, 12) {
		t.Errorf("a gap of 12 turns: %v, %d", got, code)
	}
	if got, code = impl.FillGaps(just); len(got) != 96 || code != impl.OK {
		t.Errorf("just as many turns as there may be: %d, %d", len(got), code)
	}
}

func TestFillGapsRefuses(t *testing.T) {
	for name, bad := range badTallies() {
		got, code := impl.FillGaps(bad)
		wantTallies(t, name, got, code, nil, impl.ErrInvalid)
	}
}

// modelJoin asks for each turn by itself.
func modelJoin(a, b []impl.Tally) []impl.Tally {
	var out []impl.Tally
	for turn := range int64(500) { // no list that is drawn goes further
		best, met := impl.Tally{}, false
		for _, x := range append(append([]impl.Tally{}, a...), b...) {
			if x.Turn == turn && (!met || x.Count > best.Count || x.Count == best.Count && x.Full > best.Full) {
				best, met = x, true
			}
		}
		if met {
			out = append(out, best)
		}
	}
	return out
}

func TestJoinTalliesIsThatOfTheModel(t *testing.T) {
	d := &draw{332}
	full, over := 0, 0
	for range 600 {
		a, b := d.tallies(d.below(97), d.below(4)), d.tallies(d.below(97), d.below(4))
		if d.below(4) == 0 {
			b = append([]impl.Tally{}, a...)
			for i := range b {
				b[i].Count, b[i].Full = int16(d.below(3)), int16(d.below(3))
			}
		}
		want := modelJoin(a, b)
		got, code := impl.JoinTallies(a, b)
		other, otherCode := impl.JoinTallies(b, a)
		if len(want) > 96 {
			over++
			wantTallies(t, "many", got, code, nil, impl.ErrLimit)
			wantTallies(t, "many, the other way", other, otherCode, nil, impl.ErrLimit)
			continue
		}
		full++
		wantTallies(t, "JoinTallies", got, code, want, impl.OK)
		wantTallies(t, "JoinTallies, the other way", other, otherCode, want, impl.OK)
		if t.Failed() {
			t.Fatalf("%v %v", a, b)
		}
	}
	if full < 50 || over < 10 {
		t.Errorf("lists that are joined %d, that are too long %d", full, over)
	}
}

func TestPlainJoins(t *testing.T) {
	at := func(turn int64, count, full int16) impl.Tally {
		return impl.Tally{Turn: turn, Count: count, Full: full}
	}
	most := (&draw{333}).tallies(96, 0)
	last := most[95].Turn
	odd := []impl.Tally{at(1, 0, 0), at(3, 0, 0), at(5, 0, 0)}
	for _, c := range []struct {
		name       string
		a, b, want []impl.Tally
		code       int64
	}{
		{"none", nil, nil, nil, impl.OK}, {"one list", odd, nil, odd, impl.OK}, {"the list itself", most, most, most, impl.OK},
		{"by turns", odd, []impl.Tally{at(2, 9, 9), at(6, 8, 8)}, []impl.Tally{at(1, 0, 0), at(2, 9, 9), at(3, 0, 0), at(5, 0, 0), at(6, 8, 8)}, impl.OK},
		{"the greater count", []impl.Tally{at(4, 5, 0)}, []impl.Tally{at(4, 4, 1000)}, []impl.Tally{at(4, 5, 0)}, impl.OK},
		{"the greater Full", []impl.Tally{at(4, 5, 7)}, []impl.Tally{at(4, 5, 8)}, []impl.Tally{at(4, 5, 8)}, impl.OK},
		{"the same one", []impl.Tally{at(4, 5, 7)}, []impl.Tally{at(4, 5, 7)}, []impl.Tally{at(4, 5, 7)}, impl.OK},
		{"the ends of turns", []impl.Tally{at(65535, 1, 1)}, []impl.Tally{at(0, 2, 2)}, []impl.Tally{at(0, 2, 2), at(65535, 1, 1)}, impl.OK},
		{"one too many", most, []impl.Tally{at(last+1, 0, 0)}, nil, impl.ErrLimit},
		{"the last one of many", most, []impl.Tally{at(last, 32767, 0)}, append(append([]impl.Tally{}, most[:95]...), at(last, 32767, 0)), impl.OK},
		{"just as many as there may be", most[:95], []impl.Tally{most[95]}, most, impl.OK},
	} {
		got, code := impl.JoinTallies(c.a, c.b)
		wantTallies(t, c.name, got, code, c.want, c.code)
		got, code = impl.JoinTallies(c.b, c.a)
		wantTallies(t, c.name+", the other way", got, code, c.want, c.code)
	}
}

func TestJoinTalliesRefuses(t *testing.T) {
	most := (&draw{334}).tallies(96, 0)
	for name, bad := range badTallies() {
		for _, list := range [][]impl.Tally{nil, most, bad} {
			got, code := impl.JoinTallies(bad, list)
			wantTallies(t, name, got, code, nil, impl.ErrInvalid)
			got, code = impl.JoinTallies(list, bad)
			wantTallies(t, name+" in the second list", got, code, nil, impl.ErrInvalid)
		}
	}
}
