package tests

import (
	"math"
	"sort"
	"testing"

	"loop.example/g01227/impl"
)

func TestValidTallies(t *testing.T) {
	for name, list := range badTallies() {
		if impl.ValidTallies(list) {
			t.Errorf("%s: a list that is not valid is told to be", name)
		}
	}
	d := &draw{310}
	for range 3000 {
		if list := d.some(); !impl.ValidTallies(list) {
			t.Fatalf("%v is not told to be valid", list)
		}
	}
	for _, list := range [][]impl.Tally{nil, {}, {{}}, {{Turn: 65535, Count: 32767, Full: 1000}}, {{Turn: 65534}, {Turn: 65535}}, {{}, {Turn: 65535}}, counted(make([]int16, 96)...)} {
		if !impl.ValidTallies(list) {
			t.Errorf("%v is not told to be valid", list)
		}
	}
}

func TestSumsAreThoseOfTheModel(t *testing.T) {
	d := &draw{311}
	for range 5000 {
		list := d.some()
		sum, full, busy := int64(0), 0, impl.Tally{Turn: -1, Count: -1}
		var counts []int
		for _, x := range list {
			sum += int64(x.Count)
			full += int(x.Full)
			counts = append(counts, int(x.Count))
			if x.Count > busy.Count {
				busy = x
			}
		}
		got, code := impl.SumOfTallies(list)
		wantCount(t, "SumOfTallies", got, code, sum, impl.OK)
		mean, meanCode := impl.MeanFull(list)
		middle, middleCode := impl.MiddleCount(list)
		turn, turnCode := impl.BusiestTurn(list)
		if len(list) == 0 {
			wantNumber(t, "MeanFull of none", mean, meanCode, 0, impl.ErrNotFound)
			wantCount(t, "MiddleCount of none", int64(middle), middleCode, 0, impl.ErrNotFound)
			wantCount(t, "BusiestTurn of none", turn, turnCode, 0, impl.ErrNotFound)
			continue
		}
		sort.Ints(counts)
		wantNumber(t, "MeanFull", mean, meanCode, div(float32(full), float32(len(list))), impl.OK)
		wantCount(t, "MiddleCount", int64(middle), middleCode, int64(counts[(len(counts)-1)/2]), impl.OK)
		wantCount(t, "BusiestTurn", turn, turnCode, busy.Turn, impl.OK)
		if t.Failed() {
			t.Fatal(list)
		}
	}
}

func TestPlainSums(t *testing.T) {
	most := counted(make([]int16, 96)...)
	for i := range most {
		most[i].Count, most[i].Full = 32767, 1000
	}
	sum, code := impl.SumOfTallies(most)
	wantCount(t, "the greatest sum", sum, code, 96*32767, impl.OK)
	sum, code = impl.SumOfTallies(nil)
	wantCount(t, "no tallies", sum, code, 0, impl.OK)
	mean, code := impl.MeanFull(most)
	wantNumber(t, "all are full", mean, code, 1000, impl.OK)
	mean, code = impl.MeanFull([]impl.Tally{{Full: 1}, {Turn: 1}, {Turn: 2}})
	wantNumber(t, "a third", mean, code, div(1, 3), impl.OK)
	for _, c := range []struct {
		name         string
		counts       []int16
		middle, busy int64
	}{
		{"one", []int16{7}, 7, 0}, {"the lesser one of two", []int16{9, 4}, 4, 0}, {"of three", []int16{9, 1, 4}, 4, 0},
		{"the second one of four", []int16{8, 1, 9, 3}, 3, 2}, {"equal ones", []int16{5, 5, 5, 5}, 5, 0}, {"the first one of several", []int16{1, 6, 2, 6}, 2, 1},
		{"nothing", []int16{0, 0, 0}, 0, 0}, {"the last one", []int16{0, 0, 32767}, 0, 2},
	} {
		middle, code := impl.MiddleCount(counted(c.counts...))
		wantCount(t, c.name, int64(middle), code, c.middle, impl.OK)
		busy, code := impl.BusiestTurn(counted(c.counts...))
		wantCount(t, c.name, busy, code, c.busy, impl.OK)
	}
}

func TestSumsRefuse(t *testing.T) {
	for name, list := range badTallies() {
		sum, code := impl.SumOfTallies(list)
		wantCount(t, name, sum, code, 0, impl.ErrInvalid)
		mean, code := impl.MeanFull(list)
		wantNumber(t, name, mean, code, 0, impl.ErrInvalid)
		middle, code := impl.MiddleCount(list)
		wantCount(t, name, int64(middle), code, 0, impl.ErrInvalid)
		busy, code := impl.BusiestTurn(list)
		wantCount(t, name, busy, code, 0, impl.ErrInvalid)
	}
}

func modelSmooth(list []impl.Tally, share float32) []float32 {
	var out []float32
	for i, x := range list {
		a := float32(x.Count)
		if i > 0 {
			a = add(mul(out[i-1], sub(1, share)), mul(a, share))
		}
		out = append(out, a)
	}
	return out
}

func TestSmoothCountsAreThoseOfTheModel(t *testing.T) {
	d := &draw{312}
	for range 5000 {
		list, share := d.some(), d.share()
		got, code := impl.SmoothCounts(list, share)
		wantNumbers(t, "SmoothCounts", got, code, modelSmooth(list, share), impl.OK)
	}
	for _, c := range []struct {
		share float32
		want  []float32
	}{{0.5, []float32{8, 6, 7, 3.5}}, {0, []float32{8, 8, 8, 8}}, {1, []float32{8, 4, 8, 0}}, {0.25, []float32{8, 7, 7.25, 5.4375}}} {
		got, code := impl.SmoothCounts(counted(8, 4, 8, 0), c.share)
		wantNumbers(t, "plain counts", got, code, c.want, impl.OK)
	}
	got, code := impl.SmoothCounts(nil, 0.5)
	wantNumbers(t, "no counts", got, code, nil, impl.OK)
}

func TestSmoothCountsRefuses(t *testing.T) {
	for _, bad := range badShares {
		for _, list := range [][]impl.Tally{nil, counted(1), counted(1, 2, 3)} {
			got, code := impl.SmoothCounts(list, bad)
			wantNumbers(t, "no share", got, code, nil, impl.ErrRange)
		}
	}
	for name, list := range badTallies() {
		for _, share := range []float32{0.5, nan, 2} {
			got, code := impl.SmoothCounts(list, share)
			wantNumbers(t, name, got, code, nil, impl.ErrInvalid)
		}
	}
}

func TestWithoutWrong(t *testing.T) {
	d := &draw{313}
	for range 5000 {
		list, most := d.some(), int16(d.below([]int{3, 12, 32768}[d.below(3)]))
		var want []impl.Tally
		for _, x := range list {
			if x.Count > most || x.Count > 0 && x.Full == 0 {
				continue
			}
			want = append(want, x)
		}
		got, code := impl.WithoutWrong(list, most)
		wantTallies(t, "WithoutWrong", got, code, want, impl.OK)
		if right, _ := impl.WithoutWrong(got, most); !sameTallies(right, got) {
			t.Fatalf("what is right is wrong later: %v", got)
		}
	}
	list := []impl.Tally{{Turn: 1}, {Turn: 2, Full: 9}, {Turn: 3, Count: 4}, {Turn: 4, Count: 4, Full: 1}, {Turn: 5, Count: 5, Full: 1}, {Turn: 6, Count: 6, Full: 1000}, {Turn: 9, Count: 32767, Full: 1}}
	for _, c := range []struct {
		most  int16
		turns []int64
	}{{0, whole(1, 2)}, {3, whole(1, 2)}, {4, whole(1, 2, 4)}, {5, whole(1, 2, 4, 5)}, {32766, whole(1, 2, 4, 5, 6)}, {32767, whole(1, 2, 4, 5, 6, 9)}} {
		got, code := impl.WithoutWrong(list, c.most)
		var turns []int64
		for _, x := range got {
			turns = append(turns, x.Turn)
		}
		wantWhole(t, "turns that are right", append(turns, code), append(c.turns, impl.OK))
	}
}

func TestWithoutWrongRefuses(t *testing.T) {
	for _, most := range []int16{-1, math.MinInt16} {
		for _, list := range [][]impl.Tally{nil, counted(0, 1)} {
			got, code := impl.WithoutWrong(list, most)
			wantTallies(t, "most", got, code, nil, impl.ErrRange)
		}
	}
	for name, list := range badTallies() {
		for _, most := range []int16{-1, 0, math.MaxInt16} {
			got, code := impl.WithoutWrong(list, most)
			wantTallies(t, name, got, code, nil, impl.ErrInvalid)
		}
	}
}

func wantCalls(t *testing.T, name string, got [8]bool, code int64, want [8]bool, wantCode int64) {
	t.Helper()
	if got != want || code != wantCode {
		t.Errorf("%s: got %v, %d, want %v, %d", name, got, code, want, wantCode)
	}
}

func TestCallsOf(t *testing.T) {
	d := &draw{314}
	for range 5000 {
		list, least := d.tallies(d.below(12), 3), int16(d.below([]int{3, 12, 32768}[d.below(3)]))
		var want [8]bool
		for i := range want {
			want[i] = i < len(list) && list[i].Count >= least
		}
		got, code := impl.CallsOf(list, least)
		wantCalls(t, "CallsOf", got, code, want, impl.OK)
	}
	for _, c := range []struct {
		name   string
		counts []int16
		least  int16
		want   [8]bool
	}{
		{"none", nil, 0, [8]bool{}}, {"just the least", []int16{2, 3, 4}, 3, [8]bool{false, true, true}}, {"nothing is enough", []int16{0, 0}, 0, [8]bool{true, true}},
		{"the ninth one is not asked", []int16{0, 0, 0, 0, 0, 0, 0, 1, 9}, 1, [8]bool{7: true}}, {"the greatest", []int16{32767, 32766}, 32767, [8]bool{true}},
	} {
		got, code := impl.CallsOf(counted(c.counts...), c.least)
		wantCalls(t, c.name, got, code, c.want, impl.OK)
	}
	got, code := impl.CallsOf([]impl.Tally{{Turn: 7, Count: 5}, {Turn: 900, Count: 5}}, 5)
	wantCalls(t, "turns do not matter", got, code, [8]bool{true, true}, impl.OK)
}

func TestCallsOfRefuses(t *testing.T) {
	for _, least := range []int16{-1, math.MinInt16} {
		for _, list := range [][]impl.Tally{nil, counted(0, 1)} {
			got, code := impl.CallsOf(list, least)
			wantCalls(t, "least", got, code, [8]bool{}, impl.ErrRange)
		}
	}
	for name, list := range badTallies() {
		for _, least := range []int16{-1, 0, 1} {
			got, code := impl.CallsOf(list, least)
			wantCalls(t, name, got, code, [8]bool{}, impl.ErrInvalid)
		}
	}
}
