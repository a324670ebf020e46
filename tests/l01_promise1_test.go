package tests

import (
	"math"
	"strings"
	"testing"

	"loop.example/g01227/impl"
)

// answers calls every function of chapter 1, and writes down all that they return.
func answers(r, s impl.Road, a, b float32, cell int64, text string) string {
	var out []string
	number := func(x float32, code int64) {
		out = append(out, impl.NumberText(x)+" "+impl.CodeName(code))
	}
	road := func(x impl.Road, code int64) {
		for _, share := range x.Cars {
			number(share, 0)
		}
		number(x.Pace, code)
		number(x.Back, code)
		number(x.Lanes, code)
	}
	truth := func(x bool, code int64) {
		if x {
			out = append(out, "true")
		}
		out = append(out, impl.CodeName(code))
	}
	whole := func(x, code int64) { out = append(out, string(rune('A'+x))+impl.CodeName(code)) }
	out = append(out, impl.CodeName(cell), impl.NumberText(a), impl.RoadText(r))
	truth(impl.SameNumber(a, b), 0)
	truth(impl.IsAmount(a), 0)
	truth(impl.IsShare(a), 0)
	truth(impl.ValidRoad(r), 0)
	truth(impl.SameRoad(r, s), 0)
	truth(impl.IsFree(r))
	road(impl.MakeRoad(a, b, a))
	road(impl.FillRoad(r, a))
	road(impl.SetCell(r, cell, a))
	road(impl.MixRoads(r, s, a))
	road(impl.ReadRoad(text))
	number(impl.ReadNumber(text))
	number(impl.BestShare(r))
	number(impl.MostFlow(r))
	number(impl.CarsOn(r))
	for _, f := range []func(impl.Road, int64) (float32, int64){impl.SendsAt, impl.TakesAt, impl.FlowBetween, impl.SpeedAt} {
		number(f(r, cell))
	}
	whole(impl.QueueOf(r))
	at, share, code := impl.DensestCell(r)
	whole(at, code)
	number(share, code)
	return strings.Join(out, "\n")
}

func TestPromise1OfRoads(t *testing.T) {
	d := &draw{15}
	odd := []float32{0, minusZero, 1, -1, 0.5, 1.0 / 64, 8, 9, smallest, -smallest, math.MaxFloat32, -math.MaxFloat32, inf, minusInf, nan, otherNaN}
	cells := append([]int64{0, 3, 14, 15}, badCells...)
	texts := []string{"", "road", "3f800000", "7fc00000", "\xff\x00", strings.Repeat("road ", 20), impl.RoadText(d.road())}
	roads := []impl.Road{d.road(), d.road()}
	for _, r := range badRoads() {
		roads = append(roads, r)
	}
	for range 200 {
		r := d.road()
		for range 3 {
			r.Cars[d.below(16)] = odd[d.below(len(odd))]
		}
		r.Lanes = odd[d.below(len(odd))]
		roads = append(roads, r, d.road())
	}
	for i, r := range roads {
		s := roads[d.below(len(roads))]
		for _, a := range odd {
			b, cell, text := odd[d.below(len(odd))], cells[d.below(len(cells))], texts[d.below(len(texts))]
			oldR, oldS := r, s
			one := answers(r, s, a, b, cell, text)
			two := answers(r, s, a, b, cell, text)
			if one != two {
				t.Fatalf("road %d: other answers for the same arguments:\n%s\n%s", i, one, two)
			}
			if !sameRoad(oldR, r) || !sameRoad(oldS, s) {
				t.Fatalf("road %d is changed", i)
			}
		}
	}
	for range 3 {
		long := strings.Repeat("0", 1000000)
		answers(roads[0], roads[1], 0.5, 0.5, 3, long)
		answers(roads[0], roads[1], 0.5, 0.5, 3, "road"+strings.Repeat(" ", 999996))
	}
}
