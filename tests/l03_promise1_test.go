package tests

import (
	"math"
	"strings"
	"testing"

	"loop.example/g01227/impl"
)

func (n *noter) truth(a bool) {
	if a {
		n.whole(1)
	} else {
		n.whole(0)
	}
}

func (n *noter) flows(f impl.Flows) {
	for _, row := range f {
		n.numbers(row[:]...)
	}
}

func (n *noter) junction(j impl.Junction, code int64) {
	n.whole(j.Ins, j.Outs, code)
	n.flows(j.Turns)
	n.numbers(j.Prior[:]...)
}

// arms is what the functions of chapter 3 are called with.
type arms struct {
	j, k         impl.Junction
	sends, takes impl.Four
	in, out      int64
	a, b, c      float32
	ins, outs    []impl.Road
	text         string
}

// junctionAnswers calls every function of chapter 3, and writes down all that they return.
func junctionAnswers(x arms) string {
	n := &noter{}
	flows := func(f impl.Flows, code int64) {
		n.flows(f)
		n.whole(code)
	}
	four := func(f impl.Four, code int64) {
		n.numbers(f[:]...)
		n.whole(code)
	}
	n.truth(impl.ValidJunction(x.j))
	n.truth(impl.SameJunction(x.j, x.k))
	n.junction(impl.EvenJunction(x.in, x.out))
	n.junction(impl.SetTurn(x.j, x.in, x.out, x.a))
	n.junction(impl.SetPrior(x.j, x.in, x.a))
	flows(impl.WantsOf(x.j, x.sends))
	four(impl.DemandsOf(x.j, x.sends))
	flows(impl.FlowsOf(x.j, x.sends, x.takes))
	stops, code := impl.StoppedBy(x.j, x.sends, x.takes)
	n.whole(stops[:]...)
	n.whole(code)
	four(impl.InFlows(x.j.Turns), 0)
	four(impl.OutFlows(x.j.Turns), 0)
	n.numbers(impl.SumOfFour(x.sends))
	four(impl.LeftBehind(x.j, x.sends, x.takes))
	one, two, code := impl.MergeTwo(x.a, x.b, x.c, x.b)
	four(impl.Four{one, two}, code)
	least, code := impl.SplitOne(x.a, x.takes, x.sends)
	four(impl.Four{least}, code)
	ins, outs, f, code := impl.MeetRoads(x.j, x.ins, x.outs)
	for _, r := range append(ins, outs...) {
		n.road(r)
	}
	flows(f, code)
	n.out = append(n.out, impl.JunctionText(x.j))
	n.junction(impl.ReadJunction(x.text))
	return strings.Join(n.out, " ")
}

func TestPromise1OfJunctions(t *testing.T) {
	d := &draw{110}
	odd := []float32{0, minusZero, 1, -1, 0.5, 0.999, 1.001, 64, 1.0 / 64, smallest, -smallest, math.MaxFloat32, -math.MaxFloat32, inf, minusInf, nan, otherNaN}
	counts := append([]int64{0, 1, 2, 3, 4}, badArms...)
	texts := append(badJunctionTexts(), impl.JunctionText(d.junction()))
	var list []impl.Junction
	for _, j := range badJunctions() {
		list = append(list, j)
	}
	for range 400 {
		j := d.junction()
		list = append(list, j)
		j.Turns[d.below(4)][d.below(4)] = odd[d.below(len(odd))]
		j.Prior[d.below(4)] = odd[d.below(len(odd))]
		j.Ins = counts[d.below(len(counts))]
		list = append(list, j)
	}
	for _, j := range list {
		for range 8 {
			x := arms{j: j, k: list[d.below(len(list))], sends: d.numbers(j.Ins & 3), takes: d.numbers(j.Outs & 3)}
			x.in, x.out = counts[d.below(len(counts))], counts[d.below(len(counts))]
			x.a, x.b, x.c = odd[d.below(len(odd))], odd[d.below(len(odd))], odd[d.below(len(odd))]
			if d.below(3) == 0 {
				x.sends[d.below(4)], x.takes[d.below(4)] = x.a, x.b
			}
			x.ins, x.outs = d.roads(int64(d.below(6))), d.roads(int64(d.below(6)))
			x.text = texts[d.below(len(texts))]
			if len(x.text) > 1000 && d.below(30) > 0 {
				x.text = ""
			}
			before := append(append([]impl.Road{}, x.ins...), x.outs...)
			first := junctionAnswers(x)
			if again := junctionAnswers(x); again != first {
				t.Fatalf("other answers for the same arguments:\n%s\n%s", first, again)
			}
			if !sameRoads(append(append([]impl.Road{}, x.ins...), x.outs...), before) {
				t.Fatal("a road is changed")
			}
		}
	}
}

func TestManyRoadsMeet(t *testing.T) {
	r := mustMake(t, 0.5, 0.5, 1)
	many := make([]impl.Road, 50000)
	for i := range many {
		many[i] = r
	}
	j := mustEven(t, 4, 4)
	_, _, _, code := impl.MeetRoads(j, many, many)
	if code != impl.ErrRange {
		t.Errorf("many roads: %d", code)
	}
	many[len(many)-1].Pace = 0
	_, _, _, code = impl.MeetRoads(j, many[:4], many)
	if code != impl.ErrInvalid {
		t.Errorf("many roads, the last one not valid: %d", code)
	}
}
