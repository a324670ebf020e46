package tests

import (
	"math"
	"slices"
	"strconv"
	"strings"
	"testing"

	"loop.example/g01227/impl"
)

// noter writes down what functions return, bit for bit.
type noter struct{ out []string }

func (n *noter) numbers(list ...float32) {
	for _, a := range list {
		n.out = append(n.out, strconv.FormatUint(uint64(math.Float32bits(a)), 16))
	}
}

func (n *noter) whole(list ...int64) {
	for _, a := range list {
		n.out = append(n.out, strconv.FormatInt(a, 10))
	}
}

func (n *noter) road(r impl.Road) {
	n.numbers(r.Cars[:]...)
	n.numbers(r.Pace, r.Back, r.Lanes)
}

// waveAnswers calls every function of chapter 2, and writes down all that they return.
func waveAnswers(r impl.Road, a, b, c float32, cell, steps int64, one, two []float32) string {
	n := &noter{}
	flows, code := impl.FluxesOf(r, a, b)
	n.numbers(flows[:]...)
	n.whole(code)
	step := func(r impl.Road, in, out float32, code int64) {
		n.road(r)
		n.numbers(in, out)
		n.whole(code)
	}
	step(impl.StepRoad(r, a, b))
	step(impl.StepRoads(r, a, b, steps))
	step(impl.StepList(r, one, two))
	number := func(a float32, code int64) {
		n.numbers(a)
		n.whole(code)
	}
	number(impl.StillShare(r, a))
	number(impl.JamShare(r, a))
	number(impl.WaveSpeed(r, a, b))
	number(impl.DelayOf(r, a, b, steps))
	count := func(a, code int64) { n.whole(a, code) }
	count(impl.StepsToEmpty(r, steps))
	count(impl.StepsToFull(r, a, steps))
	s, in, out, joins, code := impl.RampStep(r, cell, a, b, c)
	step(s, in, out, code)
	n.numbers(joins)
	jams, code := impl.JamsOf(r)
	for _, jam := range jams {
		n.whole(jam[:]...)
	}
	n.whole(code)
	s, code = impl.SmoothRoad(r)
	step(s, 0, 0, code)
	return strings.Join(n.out, " ")
}

func TestPromise1OfWaves(t *testing.T) {
	d := &draw{60}
	odd := []float32{0, minusZero, 1, -1, 0.5, 0.125, smallest, -smallest, math.MaxFloat32, inf, minusInf, nan, otherNaN}
	cells := append([]int64{0, 3, 15}, badCells...)
	counts := append([]int64{0, 1, 40, 400}, badSteps...)
	lists := [][]float32{nil, {}, {0.5}, {minusZero}, {0.25, nan}, filledList(0.1, 2), filledList(0.1, 400), filledList(0, 401), filledList(inf, 1000000)}
	var roads []impl.Road
	for _, r := range badRoads() {
		roads = append(roads, r)
	}
	for range 100 {
		roads = append(roads, d.road(), d.paced())
	}
	for i, r := range roads {
		for _, a := range odd {
			b, c := odd[d.below(len(odd))], odd[d.below(len(odd))]
			cell, steps := cells[d.below(len(cells))], counts[d.below(len(counts))]
			one, two := lists[d.below(len(lists))], lists[d.below(len(lists))]
			old := r
			first := waveAnswers(r, a, b, c, cell, steps, one, two)
			if again := waveAnswers(r, a, b, c, cell, steps, one, two); again != first {
				t.Fatalf("road %d: other answers for the same arguments:\n%s\n%s", i, first, again)
			}
			if !sameRoad(old, r) {
				t.Fatalf("road %d is changed", i)
			}
		}
	}
}

func TestStepListKeepsItsLists(t *testing.T) {
	d := &draw{61}
	for range 200 {
		r := d.paced()
		offered, room := make([]float32, 20), make([]float32, 20)
		for i := range offered {
			offered[i], room[i] = d.amount(), d.amount()
		}
		oldOffered, oldRoom := slices.Clone(offered), slices.Clone(room)
		got, in, out, code := impl.StepList(r, offered[:12], room[:12])
		if !slices.Equal(offered, oldOffered) || !slices.Equal(room, oldRoom) {
			t.Fatal("a list is changed, or what lies behind it")
		}
		want, wantIn, wantOut, wantCode := impl.StepList(r, slices.Clip(oldOffered[:12]), slices.Clip(oldRoom[:12]))
		wantStep(t, "unused capacity", got, in, out, code, want, wantIn, wantOut, wantCode)
	}
}

func TestJamsAreNewLists(t *testing.T) {
	r := mustMake(t, 0.5, 0.5, 1)
	r.Cars[2], r.Cars[5] = 1, 1
	one, _ := impl.JamsOf(r)
	one[0] = [2]int64{9, 9}
	two, _ := impl.JamsOf(r)
	if !slices.Equal(two, [][2]int64{{2, 2}, {5, 5}}) {
		t.Errorf("a list that was returned is shared: %v", two)
	}
}
