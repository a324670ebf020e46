package tests

import (
	"math"
	"testing"

	"loop.example/g01227/impl"
)

func TestToCountIsTheNearestInteger(t *testing.T) {
	check := func(a float32) {
		t.Helper()
		if got := impl.ToCount(a); got != modelCount(a) {
			t.Errorf("ToCount(%v) = %d, want %d", a, got, modelCount(a))
		}
	}
	for half := -2 * 32770; half <= 2*32770; half++ {
		a := float32(half) / 2
		check(a)
		check(math.Nextafter32(a, inf))
		check(math.Nextafter32(a, minusInf))
	}
	d := &draw{301}
	for range 200000 {
		check(fromBits(d.bits()<<1 | d.bits()&1))
	}
	for _, c := range []struct {
		a    float32
		want int16
	}{
		{0.5, 0}, {1.5, 2}, {2.5, 2}, {-0.5, 0}, {-1.5, -2}, {-2.5, -2}, {2.6, 3}, {minusZero, 0}, {smallest, 0},
		{32766.5, 32766}, {32767, 32767}, {32767.5, 32767}, {32768, 32767}, {65536, 32767}, {1e20, 32767}, {math.MaxFloat32, 32767}, {inf, 32767},
		{-32768, -32768}, {-32768.5, -32768}, {-32769, -32768}, {-1e20, -32768}, {-math.MaxFloat32, -32768}, {minusInf, -32768}, {nan, 0}, {otherNaN, 0},
	} {
		if got := impl.ToCount(c.a); got != c.want {
			t.Errorf("ToCount(%v) = %d, want %d", c.a, got, c.want)
		}
	}
}

func TestValidDetector(t *testing.T) {
	for name, w := range badDetectors() {
		if impl.ValidDetector(w) {
			t.Errorf("%s: a detector that is not valid is told to be", name)
		}
	}
	d := &draw{302}
	for range 3000 {
		if w := d.detector(); !impl.ValidDetector(w) {
			t.Fatalf("%v is not told to be valid", w)
		}
	}
	for _, w := range []impl.Detector{{}, {Cell: 14}, {Carry: belowOne}, {Carry: smallest}, {Count: 32767}, {Full: math.MaxFloat32}, {Full: smallest}, {Ticks: 1000000}} {
		if !impl.ValidDetector(w) {
			t.Errorf("%v is not told to be valid", w)
		}
	}
}

func TestSameDetector(t *testing.T) {
	d := &draw{303}
	list := []impl.Detector{{}, {Carry: minusZero}, {Full: minusZero}, {Carry: nan}, {Carry: otherNaN}, {Full: nan}, {Full: otherNaN}, {Carry: nan, Full: nan}, {Carry: inf}, {Full: inf}, {Full: minusInf}}
	for _, w := range badDetectors() {
		list = append(list, w)
	}
	for range 30 {
		w := d.detector()
		list = append(list, w, w)
		v := w
		v.Cell++
		list = append(list, v)
		v = w
		v.Count++
		list = append(list, v)
		v = w
		v.Ticks++
		list = append(list, v)
		v = w
		v.Carry = math.Nextafter32(v.Carry, 2)
		list = append(list, v)
		v = w
		v.Full = math.Nextafter32(v.Full, inf)
		list = append(list, v)
	}
	for _, w := range list {
		for _, v := range list {
			if got := impl.SameDetector(w, v); got != sameDetector(w, v) {
				t.Fatalf("SameDetector(%v, %v) = %v", w, v, got)
			}
		}
	}
}

func TestPlaceDetector(t *testing.T) {
	for cell := range int64(15) {
		got, code := impl.PlaceDetector(cell)
		wantDetector(t, "PlaceDetector", got, code, impl.Detector{Cell: cell}, impl.OK)
	}
	for _, cell := range append([]int64{15}, badCells...) {
		got, code := impl.PlaceDetector(cell)
		wantDetector(t, "PlaceDetector where there is no cell", got, code, impl.Detector{}, impl.ErrRange)
	}
}

func TestWatchRoadIsThatOfTheModel(t *testing.T) {
	d := &draw{304}
	var met [6]int
	for range 30000 {
		w, r := d.detector(), d.road()
		if d.below(3) == 0 {
			r = d.paced()
		}
		got, code := impl.WatchRoad(w, r)
		if w.Ticks == 1000000 {
			wantDetector(t, "too many ticks", got, code, impl.Detector{}, impl.ErrState)
			continue
		}
		want := modelWatch(w, r)
		wantDetector(t, "WatchRoad", got, code, want, impl.OK)
		met[min(want.Count-w.Count, 5)]++
		if t.Failed() {
			t.Fatalf("%v %v", w, r)
		}
	}
	if met[0] == 0 || met[1] == 0 || met[2] == 0 || met[3] == 0 {
		t.Errorf("cars in a tick: %v", met)
	}
}

// TestModelTellsHowAPassingIsRounded keeps the test above from passing because its roads happen
// to give the same numbers where the product is not rounded before it is added.
func TestModelTellsHowAPassingIsRounded(t *testing.T) {
	d, others := &draw{305}, 0
	for range 3000 {
		w, r := d.detector(), d.road()
		flow, _ := impl.FlowBetween(r, w.Cell)
		once := float32(float64(w.Carry) + float64(flow)*float64(r.Lanes))
		if once != add(w.Carry, mul(flow, r.Lanes)) {
			others++
		}
	}
	if others == 0 {
		t.Error("no draw tells a product that is rounded first from one that is not")
	}
}

func TestPlainDetectors(t *testing.T) {
	r := mustMake(t, 0.5, 0.5, 4)
	r, _ = impl.FillRoad(r, 0.5)
	w, _ := impl.PlaceDetector(0)
	for i := range 3 {
		next, code := impl.WatchRoad(w, r)
		wantDetector(t, "example", next, code, impl.Detector{Count: int16(i + 1), Full: 0.5 * float32(i+1), Ticks: int64(i + 1)}, impl.OK)
		w = next
	}
	tally, anew, code := impl.ReadOff(w, 7)
	wantReading(t, "example", tally, anew, code, impl.Tally{Turn: 7, Count: 3, Full: 500}, impl.Detector{}, impl.OK)

	most := mustMake(t, 1, 1, 8)
	most, _ = impl.FillRoad(most, 0.5)
	for _, c := range []struct {
		name    string
		w, want impl.Detector
	}{
		{"the most that can pass", impl.Detector{Cell: 5}, impl.Detector{Cell: 5, Count: 4, Full: 0.5, Ticks: 1}},
		{"at the last cell that has a next one", impl.Detector{Cell: 14}, impl.Detector{Cell: 14, Count: 4, Full: 0.5, Ticks: 1}},
		{"a part of a car stays", impl.Detector{Carry: 0.75}, impl.Detector{Carry: 0.75, Count: 4, Full: 0.5, Ticks: 1}},
		{"a carry that is rounded up to a car", impl.Detector{Carry: belowOne}, impl.Detector{Count: 5, Full: 0.5, Ticks: 1}},
		{"just the greatest count", impl.Detector{Count: 32763}, impl.Detector{Count: 32767, Full: 0.5, Ticks: 1}},
		{"more than the greatest count", impl.Detector{Count: 32764, Carry: 0.25}, impl.Detector{Count: 32767, Carry: 0.25, Full: 0.5, Ticks: 1}},
		{"the greatest count already", impl.Detector{Count: 32767, Carry: 0.5}, impl.Detector{Count: 32767, Carry: 0.5, Full: 0.5, Ticks: 1}},
		{"very full", impl.Detector{Full: math.MaxFloat32}, impl.Detector{Count: 4, Full: math.MaxFloat32, Ticks: 1}},
		{"the last tick", impl.Detector{Ticks: 999999}, impl.Detector{Count: 4, Full: 0.5, Ticks: 1000000}},
	} {
		got, code := impl.WatchRoad(c.w, most)
		wantDetector(t, c.name, got, code, c.want, impl.OK)
	}
	least := impl.Road{Pace: 0.5, Back: 0.5, Lanes: 1}
	least.Cars[3], least.Cars[4] = 1, 1
	got, code := impl.WatchRoad(impl.Detector{Cell: 3, Carry: 0.5}, least)
	wantDetector(t, "nothing passes into a full cell", got, code, impl.Detector{Cell: 3, Carry: 0.5, Full: 1, Ticks: 1}, impl.OK)
	got, code = impl.WatchRoad(impl.Detector{Cell: 4}, least)
	wantDetector(t, "the share is that of the cell ahead of the detector", got, code, impl.Detector{Cell: 4, Carry: 0.25, Full: 1, Ticks: 1}, impl.OK)
}

// TestWhatIsCountedIsWhatFlows runs roads, and sums up what flows in wide numbers.
func TestWhatIsCountedIsWhatFlows(t *testing.T) {
	d := &draw{306}
	for range 300 {
		r, cell := d.paced(), int64(d.below(15))
		w, _ := impl.PlaceDetector(cell)
		flowed, counted, ticks := 0.0, int64(0), 1+d.below(300)
		for tick := range ticks {
			flow, _ := impl.FlowBetween(r, cell)
			flowed += float64(flow) * float64(r.Lanes)
			var code int64
			if w, code = impl.WatchRoad(w, r); code != impl.OK {
				t.Fatalf("tick %d: %d", tick, code)
			}
			if d.below(20) == 0 { // what is carried is not lost between turns
				var tally impl.Tally
				tally, w, code = impl.ReadOff(w, int64(tick))
				if code != impl.OK {
					t.Fatalf("turn %d: %d", tick, code)
				}
				counted += int64(tally.Count)
			}
			if far := flowed - float64(counted+int64(w.Count)); far < -0.001 || far > 1.001 {
				t.Fatalf("%v cars have flowed, and %d are counted", flowed, counted+int64(w.Count))
			}
			r, _, _, _ = impl.StepRoad(r, d.share(), d.share())
		}
		if far := flowed - float64(counted+int64(w.Count)) - float64(w.Carry); !nearly(far, 0, 0.001) {
			t.Fatalf("what is carried is %v, and %v lacks", w.Carry, far)
		}
	}
}

func TestWatchRoadRefuses(t *testing.T) {
	r, w := mustMake(t, 0.5, 0.5, 1), impl.Detector{Cell: 3}
	for name, bad := range badDetectors() {
		got, code := impl.WatchRoad(bad, r)
		wantDetector(t, name, got, code, impl.Detector{}, impl.ErrInvalid)
	}
	for name, bad := range badRoads() {
		got, code := impl.WatchRoad(w, bad)
		wantDetector(t, name, got, code, impl.Detector{}, impl.ErrInvalid)
		got, code = impl.WatchRoad(impl.Detector{Ticks: 1000000}, bad)
		wantDetector(t, name+", too many ticks", got, code, impl.Detector{}, impl.ErrInvalid)
	}
	got, code := impl.WatchRoad(impl.Detector{Ticks: 1000000}, r)
	wantDetector(t, "too many ticks", got, code, impl.Detector{}, impl.ErrState)
}

func wantReading(t *testing.T, name string, tally impl.Tally, anew impl.Detector, code int64, wantTally impl.Tally, wantAnew impl.Detector, wantCode int64) {
	t.Helper()
	if tally != wantTally || !sameDetector(anew, wantAnew) || code != wantCode {
		t.Errorf("%s: got %v, %v, %d, want %v, %v, %d", name, tally, anew, code, wantTally, wantAnew, wantCode)
	}
}

func TestReadOffIsThatOfTheModel(t *testing.T) {
	d, narrow := &draw{307}, 0
	for range 30000 {
		w, turn := d.detector(), int64(d.below(65536))
		if d.below(2) == 0 { // as full as at a tie, or between two of them
			each := 1 + d.below(500)
			w.Ticks, w.Full = int64(each*2000), float32(each*d.below(2001))
		}
		want := impl.Tally{Turn: turn, Count: w.Count}
		if w.Ticks > 0 {
			want.Full = modelCount(mul(1000, div(w.Full, float32(w.Ticks))))
			if want.Full != modelCount(float32(1000*float64(w.Full)/float64(w.Ticks))) {
				narrow++
			}
		}
		tally, anew, code := impl.ReadOff(w, turn)
		wantReading(t, "ReadOff", tally, anew, code, want, impl.Detector{Cell: w.Cell, Carry: w.Carry}, impl.OK)
		if t.Failed() {
			t.Fatalf("%v", w)
		}
	}
	if narrow == 0 {
		t.Error("no draw tells the quotient that is rounded first from one that is not")
	}
}

func TestPlainReadings(t *testing.T) {
	for _, c := range []struct {
		name string
		w    impl.Detector
		full int16
	}{
		{"no ticks", impl.Detector{Full: 5}, 0}, {"nothing", impl.Detector{}, 0}, {"empty", impl.Detector{Ticks: 10}, 0}, {"full", impl.Detector{Full: 10, Ticks: 10}, 1000},
		{"a tie to the even one below", impl.Detector{Full: 0.125, Ticks: 2}, 62}, {"a tie to the even one above", impl.Detector{Full: 0.375, Ticks: 2}, 188},
		{"fuller than full", impl.Detector{Full: 20, Ticks: 10}, 2000}, {"held", impl.Detector{Full: 1e6, Ticks: 1}, 32767}, {"an infinite product", impl.Detector{Full: math.MaxFloat32, Ticks: 1}, 32767},
		{"next to nothing", impl.Detector{Full: smallest, Ticks: 1000000}, 0}, {"most ticks", impl.Detector{Full: 500000, Ticks: 1000000}, 500},
	} {
		c.w.Cell, c.w.Carry, c.w.Count = 4, 0.75, 32767
		for _, turn := range []int64{0, 65535} {
			tally, anew, code := impl.ReadOff(c.w, turn)
			wantReading(t, c.name, tally, anew, code, impl.Tally{Turn: turn, Count: 32767, Full: c.full}, impl.Detector{Cell: 4, Carry: 0.75}, impl.OK)
		}
	}
}

func TestReadOffRefuses(t *testing.T) {
	badTurns := []int64{-1, 65536, 1 << 32, math.MinInt64, math.MaxInt64}
	for _, turn := range badTurns {
		tally, anew, code := impl.ReadOff(impl.Detector{Cell: 3, Carry: 0.5, Count: 1}, turn)
		wantReading(t, "turn", tally, anew, code, impl.Tally{}, impl.Detector{}, impl.ErrRange)
	}
	for name, bad := range badDetectors() {
		for _, turn := range append([]int64{0, 7}, badTurns...) {
			tally, anew, code := impl.ReadOff(bad, turn)
			wantReading(t, name, tally, anew, code, impl.Tally{}, impl.Detector{}, impl.ErrInvalid)
		}
	}
}
