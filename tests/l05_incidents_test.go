package tests

import (
	"math"
	"strings"
	"testing"

	"loop.example/g01227/impl"
)

var badTimes = []int64{0, -1, 97, 1 << 32, 1<<32 + 1, math.MinInt64, math.MaxInt64}

// modelIncident marks for each turn of both lists whether it is striking, and looks for the first end of a row of marks.
func modelIncident(above, below []impl.Tally, most, share float32, times int) (int64, int64) {
	lower := map[int64]float32{}
	for _, x := range below {
		lower[x.Turn] = float32(x.Full)
	}
	marks, turns := "", []int64{}
	for _, x := range above {
		full := float32(x.Full)
		if low, both := lower[x.Turn]; both {
			mark := "."
			if kept := sub(full, low); kept >= most && kept >= mul(share, full) {
				mark = "#"
			}
			marks += mark
			turns = append(turns, x.Turn)
		}
	}
	row := strings.Index(marks, strings.Repeat("#", times))
	if row < 0 {
		return 0, impl.ErrNotFound
	}
	return turns[row+times-1], impl.OK
}

func TestFirstIncidentIsThatOfTheModel(t *testing.T) {
	d, found, lost := &draw{320}, 0, 0
	for range 30000 {
		above, below := d.tallies(d.below(30), d.below(3)), d.tallies(d.below(30), d.below(3))
		most, share := float32(d.below(5)), d.share()
		if d.below(2) == 0 {
			most, share = float32(d.below(800)), float32(d.below(5))/4
		}
		times := 1 + d.below(4)
		want, wantCode := modelIncident(above, below, most, share, times)
		got, code := impl.FirstIncident(above, below, most, share, int64(times))
		wantCount(t, "FirstIncident", got, code, want, wantCode)
		if t.Failed() {
			t.Fatalf("%v %v %v %v %v", above, below, most, share, times)
		}
		if code == impl.OK && times > 1 {
			found++
		} else {
			lost++
		}
	}
	if found < 1000 || lost < 1000 {
		t.Errorf("found %d, not found %d", found, lost)
	}
}

// fulls makes tallies of the turns 0, 1, 2 .. with Full; a negative one leaves its turn out.
func fulls(list ...int16) []impl.Tally {
	var out []impl.Tally
	for i, full := range list {
		if full >= 0 {
			out = append(out, impl.Tally{Turn: int64(i), Full: full})
		}
	}
	return out
}

func TestPlainIncidents(t *testing.T) {
	all := fulls(make([]int16, 96)...)
	for _, c := range []struct {
		name         string
		above, below []impl.Tally
		most, share  float32
		times        int64
		want, code   int64
	}{
		{"example", fulls(-1, 400, 400, 0), fulls(-1, 100, 100), 200, 0.5, 2, 2, impl.OK},
		{"just most", fulls(400), fulls(100), 300, 0, 1, 0, impl.OK},
		{"less than most", fulls(400), fulls(100), 300.5, 0, 1, 0, impl.ErrNotFound},
		{"just the share", fulls(400), fulls(100), 0, 0.75, 1, 0, impl.OK},
		{"less than the share", fulls(400), fulls(101), 0, 0.75, 1, 0, impl.ErrNotFound},
		{"the share is that of above, not of below", fulls(400), fulls(300), 0, 0.3, 1, 0, impl.ErrNotFound},
		{"nothing is enough", fulls(0), fulls(0), 0, 1, 1, 0, impl.OK},
		{"less than below", fulls(0), fulls(1), 0, 0, 1, 0, impl.ErrNotFound},
		{"full and empty", fulls(1000), fulls(0), 1000, 1, 1, 0, impl.OK},
		{"more than any", fulls(1000), fulls(0), math.MaxFloat32, 0, 1, 0, impl.ErrNotFound},
		{"the last one of the row", fulls(9, 9, 9, 9), fulls(0, 0, 0, 0), 1, 0, 3, 2, impl.OK},
		{"a break", fulls(9, 9, 0, 9, 9, 9), fulls(0, 0, 0, 0, 0, 0), 1, 0, 3, 5, impl.OK},
		{"a break at the end", fulls(9, 9, 0, 9, 9), fulls(0, 0, 0, 0, 0), 1, 0, 3, 0, impl.ErrNotFound},
		{"a turn that only above has does not break", fulls(9, 0, 9), fulls(0, -1, 0), 1, 0, 2, 2, impl.OK},
		{"a turn that only below has does not break", fulls(9, -1, 9), fulls(0, 1000, 0), 1, 0, 2, 2, impl.OK},
		{"a turn that only one has is not counted", fulls(9, 9, -1), fulls(0, -1, 0), 1, 0, 2, 0, impl.ErrNotFound},
		{"no turn is in both", fulls(9, -1, 9), fulls(-1, 0, -1, 0), 0, 0, 1, 0, impl.ErrNotFound},
		{"none above", nil, fulls(0, 0), 0, 0, 1, 0, impl.ErrNotFound},
		{"none below", fulls(9, 9), nil, 0, 0, 1, 0, impl.ErrNotFound},
		{"all turns", all, all, 0, 0, 96, 95, impl.OK},
		{"all turns but one", all[1:], all, 0, 0, 96, 0, impl.ErrNotFound},
	} {
		got, code := impl.FirstIncident(c.above, c.below, c.most, c.share, c.times)
		wantCount(t, c.name, got, code, c.want, c.code)
	}
}

func TestFirstIncidentRefuses(t *testing.T) {
	one := fulls(9, 9)
	for _, bad := range badAmounts {
		got, code := impl.FirstIncident(one, one, bad, 0.5, 1)
		wantCount(t, "most", got, code, 0, impl.ErrRange)
	}
	for _, bad := range badShares {
		got, code := impl.FirstIncident(one, one, 0, bad, 1)
		wantCount(t, "share", got, code, 0, impl.ErrRange)
	}
	for _, bad := range badTimes {
		got, code := impl.FirstIncident(one, one, 0, 0, bad)
		wantCount(t, "times", got, code, 0, impl.ErrRange)
		got, code = impl.FirstIncident(nil, nil, 0, 0, bad)
		wantCount(t, "times, no tallies", got, code, 0, impl.ErrRange)
	}
	for name, bad := range badTallies() {
		for _, times := range []int64{1, 0} {
			got, code := impl.FirstIncident(bad, one, 0, 0, times)
			wantCount(t, name+" above", got, code, 0, impl.ErrInvalid)
			got, code = impl.FirstIncident(one, bad, 0, 0, times)
			wantCount(t, name+" below", got, code, 0, impl.ErrInvalid)
		}
	}
}

// modelStuck looks at each tally back over as many as there have to be.
func modelStuck(list []impl.Tally, times int) (int64, int64) {
	for last := times - 1; last < len(list); last++ {
		stuck := list[last].Count > 0
		for _, x := range list[last-times+1 : last] {
			stuck = stuck && x.Count == list[last].Count && x.Full == list[last].Full
		}
		if stuck {
			return list[last].Turn, impl.OK
		}
	}
	return 0, impl.ErrNotFound
}

func TestFirstStuckIsThatOfTheModel(t *testing.T) {
	d, found, lost := &draw{321}, 0, 0
	for range 30000 {
		list, times := d.tallies(d.below(40), d.below(3)), 1+d.below(5)
		want, wantCode := modelStuck(list, times)
		got, code := impl.FirstStuck(list, int64(times))
		wantCount(t, "FirstStuck", got, code, want, wantCode)
		if t.Failed() {
			t.Fatalf("%v %v", list, times)
		}
		if code == impl.OK && times > 1 {
			found++
		} else {
			lost++
		}
	}
	if found < 1000 || lost < 1000 {
		t.Errorf("found %d, not found %d", found, lost)
	}
}

func TestPlainStuckDetectors(t *testing.T) {
	longest := counted(make([]int16, 96)...)
	for i := range longest {
		longest[i].Count = 1
	}
	other := counted(5, 5, 5, 5)
	other[1].Full = 499
	for _, c := range []struct {
		name       string
		list       []impl.Tally
		times      int64
		want, code int64
	}{
		{"none", nil, 1, 0, impl.ErrNotFound}, {"one is a row", counted(0, 3), 1, 1, impl.OK}, {"nothing is not stuck", counted(0, 0, 0), 1, 0, impl.ErrNotFound},
		{"nothing, again and again", counted(0, 0, 0), 2, 0, impl.ErrNotFound}, {"two", counted(5, 5, 9), 2, 1, impl.OK}, {"a row that is too short", counted(5, 5, 9), 3, 0, impl.ErrNotFound},
		{"the second row", counted(5, 5, 0, 5, 5, 5), 3, 5, impl.OK}, {"another count between", counted(5, 5, 6, 5, 5, 5), 3, 5, impl.OK}, {"another Full", other, 3, 0, impl.ErrNotFound}, {"behind another Full", other, 2, 3, impl.OK},
		{"turns do not matter", []impl.Tally{{Turn: 3, Count: 5}, {Turn: 9, Count: 5}, {Turn: 60000, Count: 5}}, 3, 60000, impl.OK},
		{"the longest row", longest, 96, 95, impl.OK}, {"a row longer than the list", longest[1:], 96, 0, impl.ErrNotFound},
	} {
		got, code := impl.FirstStuck(c.list, c.times)
		wantCount(t, c.name, got, code, c.want, c.code)
	}
}

func TestFirstStuckRefuses(t *testing.T) {
	for _, bad := range badTimes {
		got, code := impl.FirstStuck(counted(5, 5), bad)
		wantCount(t, "times", got, code, 0, impl.ErrRange)
		got, code = impl.FirstStuck(nil, bad)
		wantCount(t, "times, no tallies", got, code, 0, impl.ErrRange)
	}
	for name, bad := range badTallies() {
		for _, times := range []int64{1, 0} {
			got, code := impl.FirstStuck(bad, times)
			wantCount(t, name, got, code, 0, impl.ErrInvalid)
		}
	}
}
