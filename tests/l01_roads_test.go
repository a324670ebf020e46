package tests

import (
	"math"
	"strings"
	"testing"

	"loop.example/g01227/impl"
)

// badRoads returns roads each of which is just not valid in one thing.
func badRoads() map[string]impl.Road {
	out := map[string]impl.Road{"zero": {}}
	put := func(name string, change func(*impl.Road)) {
		r := impl.Road{Pace: 0.5, Back: 0.5, Lanes: 1}
		change(&r)
		out[name] = r
	}
	for name, a := range map[string]float32{"-0": minusZero, "-1": -1, "below 0": -smallest, "above 1": aboveOne, "inf": inf, "-inf": minusInf, "NaN": nan, "other NaN": otherNaN} {
		put("first "+name, func(r *impl.Road) { r.Cars[0] = a })
		put("mid "+name, func(r *impl.Road) { r.Cars[7] = a })
		put("last "+name, func(r *impl.Road) { r.Cars[15] = a })
		put("pace "+name, func(r *impl.Road) { r.Pace = a })
		put("back "+name, func(r *impl.Road) { r.Back = a })
	}
	under := math.Nextafter32(1.0/64, 0)
	put("pace 0", func(r *impl.Road) { r.Pace = 0 })
	put("pace under", func(r *impl.Road) { r.Pace = under })
	put("back 0", func(r *impl.Road) { r.Back = 0 })
	put("back under", func(r *impl.Road) { r.Back = under })
	for name, a := range map[string]float32{"0": 0, "-0": minusZero, "under": math.Nextafter32(0.25, 0), "over": math.Nextafter32(8, 9), "-1": -1, "inf": inf, "-inf": minusInf, "NaN": nan} {
		put("lanes "+name, func(r *impl.Road) { r.Lanes = a })
	}
	return out
}

var badCells = []int64{-1, 16, 17, math.MinInt64, math.MaxInt64, 1 << 32, -(1 << 32)}
var badShares = []float32{-1, minusZero, -smallest, aboveOne, 2, inf, minusInf, nan, otherNaN}

func TestValidRoad(t *testing.T) {
	for name, r := range badRoads() {
		if impl.ValidRoad(r) {
			t.Errorf("%s: a road that is not valid is told to be", name)
		}
	}
	d := &draw{2}
	for range 500 {
		if r := d.road(); !impl.ValidRoad(r) {
			t.Errorf("%v is not told to be valid", r)
		}
	}
	for _, r := range []impl.Road{{Pace: 1.0 / 64, Back: 1.0 / 64, Lanes: 0.25}, {Pace: 1, Back: 1, Lanes: 8}, {Cars: impl.Cars{0: 1, 7: smallest, 15: 1}, Pace: 1, Back: 1.0 / 64, Lanes: 1}} {
		if !impl.ValidRoad(r) {
			t.Errorf("%v is not told to be valid", r)
		}
	}
}

func TestSameRoad(t *testing.T) {
	base := (&draw{3}).road()
	base.Cars[4] = 0
	changes := map[string]func(*impl.Road){
		"none": func(r *impl.Road) {}, "first": func(r *impl.Road) { r.Cars[0] = -9 }, "last": func(r *impl.Road) { r.Cars[15] = -9 },
		"sign": func(r *impl.Road) { r.Cars[4] = minusZero }, "pace": func(r *impl.Road) { r.Pace = -9 },
		"back": func(r *impl.Road) { r.Back = -9 }, "lanes": func(r *impl.Road) { r.Lanes = -9 },
		"cell NaN": func(r *impl.Road) { r.Cars[9] = nan }, "pace NaN": func(r *impl.Road) { r.Pace = nan },
		"back NaN": func(r *impl.Road) { r.Back = nan }, "lanes NaN": func(r *impl.Road) { r.Lanes = nan },
		"pace 0": func(r *impl.Road) { r.Pace = 0 }, "pace -0": func(r *impl.Road) { r.Pace = minusZero },
	}
	for one, f := range changes {
		for two, g := range changes {
			r, s := base, base
			f(&r)
			g(&s)
			if got := impl.SameRoad(r, s); got != (one == two) {
				t.Errorf("SameRoad of %s and %s is %v", one, two, got)
			}
		}
	}
	r, s := base, base
	r.Cars[3], s.Cars[3], r.Lanes, s.Lanes = nan, otherNaN, otherNaN, nan
	if !impl.SameRoad(r, s) {
		t.Error("roads with NaN at the same places are not the same")
	}
}

func TestMakeRoad(t *testing.T) {
	r, code := impl.MakeRoad(0.5, 0.25, 2)
	wantRoad(t, "make", r, code, impl.Road{Pace: 0.5, Back: 0.25, Lanes: 2}, impl.OK)
	for name, bad := range badRoads() {
		if bad.Cars != (impl.Cars{}) || math.Signbit(float64(bad.Cars[0])) || math.Signbit(float64(bad.Cars[7])) || math.Signbit(float64(bad.Cars[15])) {
			continue
		}
		r, code := impl.MakeRoad(bad.Pace, bad.Back, bad.Lanes)
		wantRoad(t, name, r, code, impl.Road{}, impl.ErrInvalid)
	}
}

func TestFillAndSet(t *testing.T) {
	base := (&draw{4}).road()
	for _, share := range []float32{0, smallest, 0.3, 1} {
		want := base
		for i := range want.Cars {
			want.Cars[i] = share
		}
		r, code := impl.FillRoad(base, share)
		wantRoad(t, "fill", r, code, want, impl.OK)
		for cell := range int64(16) {
			want := base
			want.Cars[cell] = share
			r, code := impl.SetCell(base, cell, share)
			wantRoad(t, "set", r, code, want, impl.OK)
		}
	}
	for _, share := range badShares {
		r, code := impl.FillRoad(base, share)
		wantRoad(t, "fill bad share", r, code, impl.Road{}, impl.ErrRange)
		r, code = impl.SetCell(base, 3, share)
		wantRoad(t, "set bad share", r, code, impl.Road{}, impl.ErrRange)
	}
	for _, cell := range badCells {
		r, code := impl.SetCell(base, cell, 0.5)
		wantRoad(t, "set bad cell", r, code, impl.Road{}, impl.ErrRange)
	}
}

func TestCarsOn(t *testing.T) {
	d, wide := &draw{5}, 0
	for range 1000 {
		r := d.road()
		sum, whole := r.Cars[0], float64(r.Cars[0])
		for _, share := range r.Cars[1:] {
			sum = add(sum, share)
			whole += float64(share)
		}
		want := mul(sum, r.Lanes)
		got, code := impl.CarsOn(r)
		wantNumber(t, "CarsOn", got, code, want, impl.OK)
		if want != float32(whole*float64(r.Lanes)) {
			wide++
		}
	}
	if wide == 0 {
		t.Error("no road shows whether sums are narrow")
	}
}

func TestCarsOnGoesFromTheFirstCellOn(t *testing.T) {
	half := float32(1.0 / (1 << 24))
	r := impl.Road{Cars: impl.Cars{0: 1, 1: half, 2: half, 3: half, 4: half}, Pace: 0.5, Back: 0.5, Lanes: 1}
	got, code := impl.CarsOn(r)
	wantNumber(t, "greatest first", got, code, 1, impl.OK)
	r.Cars = impl.Cars{11: half, 12: half, 13: half, 14: half, 15: 1}
	got, code = impl.CarsOn(r)
	wantNumber(t, "greatest last", got, code, 1+4*half, impl.OK)
}

func TestDensestCell(t *testing.T) {
	for _, c := range []struct {
		cars  impl.Cars
		cell  int64
		share float32
	}{
		{impl.Cars{}, 0, 0}, {impl.Cars{15: smallest}, 15, smallest}, {impl.Cars{3: 0.5, 9: 0.5}, 3, 0.5},
		{impl.Cars{3: 0.5, 9: belowOne, 12: 1, 13: 1}, 12, 1}, {impl.Cars{0: 1, 15: 1}, 0, 1},
	} {
		cell, share, code := impl.DensestCell(impl.Road{Cars: c.cars, Pace: 0.5, Back: 0.5, Lanes: 2})
		if cell != c.cell || !same(share, c.share) || code != impl.OK {
			t.Errorf("DensestCell of %v: %d %v %d", c.cars, cell, share, code)
		}
	}
}

func TestQueueAndFree(t *testing.T) {
	best := float32(0.5)
	more := math.Nextafter32(best, 1)
	for _, c := range []struct {
		cars  impl.Cars
		queue int64
		free  bool
	}{
		{impl.Cars{}, 0, true}, {impl.Cars{15: best}, 0, true}, {impl.Cars{15: more}, 1, false}, {impl.Cars{0: more}, 0, false},
		{impl.Cars{14: 1}, 0, false}, {impl.Cars{11: 1, 12: best, 13: more, 14: more, 15: 1}, 3, false},
		{impl.Cars{12: 1, 14: 1, 15: 1}, 2, false},
	} {
		r := impl.Road{Cars: c.cars, Pace: 0.5, Back: 0.5, Lanes: 1}
		queue, one := impl.QueueOf(r)
		free, two := impl.IsFree(r)
		if queue != c.queue || free != c.free || one != impl.OK || two != impl.OK {
			t.Errorf("%v: queue %d %d, free %v %d", c.cars, queue, one, free, two)
		}
	}
	full, _ := impl.FillRoad(impl.Road{Pace: 0.5, Back: 0.5, Lanes: 1}, more)
	if queue, code := impl.QueueOf(full); queue != 16 || code != impl.OK {
		t.Errorf("a full road has the queue %d, %d", queue, code)
	}
}

func TestMixRoads(t *testing.T) {
	d, once := &draw{6}, 0
	for range 2000 {
		r, s, share := d.road(), d.road(), d.share()
		want := r
		for i := range want.Cars {
			sum := add(mul(r.Cars[i], sub(1, share)), mul(s.Cars[i], share))
			want.Cars[i] = lesser(sum, 1)
			if sum != float32(float64(r.Cars[i])*float64(sub(1, share))+float64(s.Cars[i])*float64(share)) {
				once++
			}
		}
		got, code := impl.MixRoads(r, s, share)
		wantRoad(t, "mix", got, code, want, impl.OK)
	}
	if once == 0 {
		t.Error("no mix shows whether products are rounded first")
	}
}

func TestMixRoadsIsHeld(t *testing.T) {
	r, s := mustMake(t, 0.5, 0.5, 1), mustMake(t, 0.25, 0.75, 4)
	r.Cars[2], s.Cars[2] = 1, 1
	for bits := uint32(0x33000000); bits < 0x3f800000; bits += 0x1357 {
		share := fromBits(bits)
		got, code := impl.MixRoads(r, s, share)
		if code != impl.OK || !impl.ValidRoad(got) {
			t.Fatalf("mix by %v: %v, %d", share, got, code)
		}
	}
	for _, share := range badShares {
		got, code := impl.MixRoads(r, s, share)
		wantRoad(t, "bad share", got, code, impl.Road{}, impl.ErrRange)
	}
	for name, bad := range badRoads() {
		got, code := impl.MixRoads(r, bad, 0.5)
		wantRoad(t, name+" as second", got, code, impl.Road{}, impl.ErrInvalid)
		got, code = impl.MixRoads(bad, r, 2)
		wantRoad(t, name+" as first", got, code, impl.Road{}, impl.ErrInvalid)
	}
	got, code := impl.MixRoads(r, s, 0)
	wantRoad(t, "none of s", got, code, r, impl.OK)
	got, code = impl.MixRoads(r, s, 1)
	r.Cars = s.Cars
	wantRoad(t, "all of s", got, code, r, impl.OK)
}

func TestErrInvalidComesFirst(t *testing.T) {
	for name, bad := range badRoads() {
		for _, cell := range []int64{3, 15, 16, -1} {
			for _, share := range []float32{0.5, 2} {
				r, code := impl.FillRoad(bad, share)
				wantRoad(t, name+" fill", r, code, impl.Road{}, impl.ErrInvalid)
				r, code = impl.SetCell(bad, cell, share)
				wantRoad(t, name+" set", r, code, impl.Road{}, impl.ErrInvalid)
			}
			for what, f := range map[string]func(impl.Road, int64) (float32, int64){"sends": impl.SendsAt, "takes": impl.TakesAt, "between": impl.FlowBetween, "speed": impl.SpeedAt} {
				a, code := f(bad, cell)
				wantNumber(t, name+" "+what, a, code, 0, impl.ErrInvalid)
			}
		}
		for what, f := range map[string]func(impl.Road) (float32, int64){"best": impl.BestShare, "most": impl.MostFlow, "cars": impl.CarsOn} {
			a, code := f(bad)
			wantNumber(t, name+" "+what, a, code, 0, impl.ErrInvalid)
		}
		if cell, share, code := impl.DensestCell(bad); cell != 0 || !same(share, 0) || code != impl.ErrInvalid {
			t.Errorf("%s densest: %d %v %d", name, cell, share, code)
		}
		if queue, code := impl.QueueOf(bad); queue != 0 || code != impl.ErrInvalid {
			t.Errorf("%s queue: %d %d", name, queue, code)
		}
		if free, code := impl.IsFree(bad); free || code != impl.ErrInvalid {
			t.Errorf("%s free: %v %d", name, free, code)
		}
		if text := impl.RoadText(bad); text != "" {
			t.Errorf("%s text: %q", name, text)
		}
	}
}

func TestRoadText(t *testing.T) {
	r := mustMake(t, 0.5, 0.25, 2)
	r.Cars[0], r.Cars[1], r.Cars[15] = 1, smallest, 0.75
	want := "road 3f000000 3e800000 40000000 3f800000 00000001" + strings.Repeat(" 00000000", 13) + " 3f400000"
	if got := impl.RoadText(r); got != want {
		t.Errorf("got %q, want %q", got, want)
	}
	back, code := impl.ReadRoad(want)
	wantRoad(t, "read", back, code, r, impl.OK)
}

func TestRoadsAreReadFromTheirTexts(t *testing.T) {
	d := &draw{7}
	for range 2000 {
		r := d.road()
		back, code := impl.ReadRoad(impl.RoadText(r))
		wantRoad(t, "read back", back, code, r, impl.OK)
	}
}

func TestReadRoadRefuses(t *testing.T) {
	r := (&draw{8}).road()
	r.Cars[5] = 0.4
	text := impl.RoadText(r)
	words := strings.Split(text, " ")
	list := []string{
		"", "road", "road ", " " + text, text + " ", text + "\n", "\n" + text, text + " 00000000", "Road" + text[4:], "ROAD" + text[4:],
		"roads" + text[4:], text[5:], strings.ToUpper(text), strings.Replace(text, " ", "  ", 1), strings.ReplaceAll(text, " ", "\t"),
		strings.Join(words[:19], " "), strings.Join(words, ","), text[:len(text)-1], text + "0", text + " " + text,
		strings.Repeat(" ", 19), strings.Repeat(" ", 1000000), strings.Repeat("road ", 200000), strings.Repeat("x", 1000000),
	}
	for at := 1; at < len(words); at++ {
		for _, bad := range []string{"", "0", "3F000000", "3f0000000", "7fc00000", "7fc00001", "7f800000", "80000000", "bf000000", "41000001", "zzzzzzzz"} {
			other := append([]string{}, words...)
			other[at] = bad
			list = append(list, strings.Join(other, " "))
		}
	}
	for _, bad := range badRoads() {
		words := []string{"road", impl.NumberText(bad.Pace), impl.NumberText(bad.Back), impl.NumberText(bad.Lanes)}
		for _, share := range bad.Cars {
			words = append(words, impl.NumberText(share))
		}
		list = append(list, strings.Join(words, " "))
	}
	for _, bad := range list {
		got, code := impl.ReadRoad(bad)
		if len(bad) > 200 {
			bad = bad[:200]
		}
		wantRoad(t, "ReadRoad "+bad, got, code, impl.Road{}, impl.ErrSyntax)
	}
}
