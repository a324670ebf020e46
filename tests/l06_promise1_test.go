package tests

import (
	"math"
	"strings"
	"testing"

	"loop.example/g01227/impl"
)

func (n *noter) text() string { return strings.Join(n.out, " ") }

// town writes down all that a town has, and how long its lists are.
func (n *noter) town(t impl.Town) {
	n.whole(int64(len(t.Roads)), int64(len(t.Offered)), int64(len(t.Joints)), int64(len(t.Plans)), t.Tick)
	n.numbers(t.Came, t.Went)
	for _, r := range t.Roads {
		n.road(r)
	}
	n.numbers(t.Offered...)
	for _, j := range t.Joints {
		n.junction(j.Junction, j.Plan)
		n.whole(int64(len(j.Ins)))
		n.whole(j.Ins...)
		n.whole(int64(len(j.Outs)))
		n.whole(j.Outs...)
	}
	for _, p := range t.Plans {
		n.whole(int64(len(p.Slots)))
		n.plan(p)
	}
}

func (n *noter) acts(list []impl.Act) {
	n.whole(int64(len(list)))
	for _, a := range list {
		n.whole(a.Kind, a.A, a.B, a.C)
		n.numbers(a.F)
	}
}

// day is what the functions of chapter 6 are called with.
type day struct {
	t, u  impl.Town
	joint int64
	count int64
	pace  float32
	acts  []impl.Act
	text  string
	lines string
}

// townAnswers calls every function of chapter 6, and writes down all that they return.
func townAnswers(x day) string {
	n := &noter{}
	town := func(t impl.Town, code int64) {
		n.town(t)
		n.whole(code)
	}
	n.truth(impl.ValidTown(x.t))
	n.truth(impl.SameTown(x.t, x.u))
	town(impl.LineTown(x.count, x.pace))
	green, code := impl.GreenIns(x.t, x.joint)
	for _, may := range green {
		n.truth(may)
	}
	n.whole(code)
	flows, code := impl.JointFlows(x.t, x.joint)
	n.flows(flows)
	n.whole(code)
	town(impl.TickTown(x.t))
	town(impl.TickTowns(x.t, x.count))
	cars, code := impl.CarsIn(x.t)
	n.numbers(cars)
	n.whole(code)
	at, queue, code := impl.LongestQueue(x.t)
	n.whole(at, queue, code)
	for _, a := range x.acts[:min(len(x.acts), 5)] {
		n.truth(impl.ValidAct(a))
		n.out = append(n.out, impl.ActText(a))
		town(impl.DoAct(x.t, a))
	}
	list, line, code := impl.CompileActs(x.lines)
	n.acts(list)
	n.whole(line, code)
	later, done, code := impl.RunActs(x.t, x.acts)
	town(later, code)
	n.whole(done)
	n.out = append(n.out, impl.TownText(x.t))
	town(impl.ReadTown(x.text))
	return n.text()
}

// kept copies what lies behind slices, their unused capacity as well.
func (x day) kept() string {
	n := &noter{}
	for _, t := range []impl.Town{x.t, x.u} {
		t.Roads, t.Offered = t.Roads[:cap(t.Roads)], t.Offered[:cap(t.Offered)]
		t.Joints, t.Plans = append([]impl.Joint{}, t.Joints[:cap(t.Joints)]...), append([]impl.Plan{}, t.Plans[:cap(t.Plans)]...)
		for i, j := range t.Joints {
			t.Joints[i].Ins, t.Joints[i].Outs = j.Ins[:cap(j.Ins)], j.Outs[:cap(j.Outs)]
		}
		for i, p := range t.Plans {
			t.Plans[i].Slots = p.Slots[:cap(p.Slots)]
		}
		n.town(t)
	}
	n.acts(x.acts[:cap(x.acts)])
	return n.text()
}

// wider returns a list with unused capacity, in which there is something as well.
func wider[E any](list []E, more ...E) []E {
	return append(append([]E{}, list...), more...)[:len(list)]
}

// wide returns a town all of whose lists have unused capacity.
func (d *draw) wide(t impl.Town) impl.Town {
	t = deep(t)
	for i, j := range t.Joints {
		t.Joints[i].Ins, t.Joints[i].Outs = wider(j.Ins, 77), wider(j.Outs, 78)
	}
	for i, p := range t.Plans {
		t.Plans[i] = d.roomy(p)
	}
	t.Roads, t.Offered = wider(t.Roads, d.road()), wider(t.Offered, 79)
	t.Joints, t.Plans = wider(t.Joints, impl.Joint{Plan: 80}), wider(t.Plans, d.plan())
	return t
}

func (d *draw) day(towns []impl.Town, texts []string) day {
	odd := []int64{0, 1, 2, 3, 5, 120, 121, -1, 1 << 32, math.MinInt64, math.MaxInt64}
	paces := []float32{0.5, 1, 0, nan, inf, minusZero, 2}
	x := day{t: towns[d.below(len(towns))], u: towns[d.below(len(towns))], joint: d.oneOf(odd...), count: d.oneOf(odd...)}
	x.pace = paces[d.below(len(paces))]
	x.text, x.lines = texts[d.below(len(texts))], texts[d.below(len(texts))]
	for range d.below(6) {
		x.acts = append(x.acts, d.act())
	}
	if d.below(8) == 0 {
		x.acts = append(x.acts, impl.Act{Kind: d.oneOf(odd...), A: d.oneOf(odd...), B: d.oneOf(odd...), F: paces[d.below(len(paces))]})
	}
	x.acts = wider(x.acts, impl.Act{Kind: 6, A: 3})
	return x
}

func TestPromise1OfTowns(t *testing.T) {
	d := &draw{410}
	var towns []impl.Town
	for _, bad := range badTowns(t) {
		towns = append(towns, d.wide(bad))
	}
	texts := append(badTownTexts(t), "", "wait 5\noffer 0 1/8\n", "times 2\nfree 0\nend", "end")
	for range 300 {
		x := d.wide(d.town())
		towns = append(towns, x, d.wide(d.town()))
		texts = append(texts, impl.TownText(x), d.script())
	}
	for range 2000 {
		x := d.day(towns, texts)
		before := x.kept()
		first := townAnswers(x)
		if again := townAnswers(x); again != first {
			t.Fatalf("other answers for the same arguments:\n%s\n%s", first, again)
		}
		if x.kept() != before {
			t.Fatal("an argument is changed, or what lies behind it")
		}
	}
}

// scrawl writes into all that a town has, and into what lies behind it.
func scrawl(t impl.Town) {
	for _, j := range t.Joints[:cap(t.Joints)] {
		for _, list := range [][]int64{j.Ins[:cap(j.Ins)], j.Outs[:cap(j.Outs)]} {
			for i := range list {
				list[i] = 99
			}
		}
	}
	for _, p := range t.Plans[:cap(t.Plans)] {
		clear(p.Slots[:cap(p.Slots)])
	}
	clear(t.Roads[:cap(t.Roads)])
	clear(t.Offered[:cap(t.Offered)])
	clear(t.Joints[:cap(t.Joints)])
	clear(t.Plans[:cap(t.Plans)])
}

func TestTownsThatAreReturnedAreNew(t *testing.T) {
	d := &draw{411}
	x := crossTown(t)
	wait, offer := impl.Act{Kind: impl.AcWait, A: 3}, impl.Act{Kind: impl.AcOffer, A: 1, F: 1}
	for name, f := range map[string]func(x impl.Town) impl.Town{
		"TickTown":       func(x impl.Town) impl.Town { y, _ := impl.TickTown(x); return y },
		"TickTowns":      func(x impl.Town) impl.Town { y, _ := impl.TickTowns(x, 3); return y },
		"no ticks":       func(x impl.Town) impl.Town { y, _ := impl.TickTowns(x, 0); return y },
		"DoAct, waiting": func(x impl.Town) impl.Town { y, _ := impl.DoAct(x, wait); return y },
		"DoAct":          func(x impl.Town) impl.Town { y, _ := impl.DoAct(x, offer); return y },
		"RunActs":        func(x impl.Town) impl.Town { y, _, _ := impl.RunActs(x, []impl.Act{offer, wait, offer}); return y },
		"no acts":        func(x impl.Town) impl.Town { y, _, _ := impl.RunActs(x, nil); return y },
		"ReadTown":       func(x impl.Town) impl.Town { y, _ := impl.ReadTown(impl.TownText(x)); return y },
		"LineTown":       func(x impl.Town) impl.Town { y, _ := impl.LineTown(4, 0.5); return y },
	} {
		for _, given := range []impl.Town{deep(x), d.wide(x)} {
			one, two := f(given), f(given)
			want := townNotes(two)
			if len(one.Roads) == 0 {
				t.Fatalf("%s: no roads", name)
			}
			scrawl(one)
			if townNotes(two) != want {
				t.Errorf("%s: two towns share memory", name)
			}
			if !sameTown(given, x) {
				t.Errorf("%s: a town shares memory with the one that is given", name)
			}
		}
	}
}

// TestListsOfATownAreNotShared looks for one list of a town that changes with another one.
func TestListsOfATownAreNotShared(t *testing.T) {
	line, _ := impl.LineTown(5, 0.5)
	for i := range line.Joints {
		line.Joints[i].Ins[0], line.Joints[i].Outs[0] = int64(i), int64(i)+10
	}
	for i, j := range line.Joints {
		if j.Ins[0] != int64(i) || j.Outs[0] != int64(i)+10 {
			t.Fatalf("the joint %d is %v", i, j)
		}
	}
	one, _, _ := impl.CompileActs("times 3\nwait 1\nend")
	one[0].A = 9
	two, _, _ := impl.CompileActs("times 3\nwait 1\nend")
	if one[1].A != 1 || two[0].A != 1 {
		t.Errorf("acts share memory: %v, %v", one, two)
	}
}

func TestManyInATown(t *testing.T) {
	x := crossTown(t)
	for name, change := range map[string]func(*impl.Town){
		"roads":   func(y *impl.Town) { y.Roads = make([]impl.Road, 50000) },
		"offered": func(y *impl.Town) { y.Offered = make([]float32, 1000000) },
		"joints":  func(y *impl.Town) { y.Joints = make([]impl.Joint, 40000) },
		"ins":     func(y *impl.Town) { y.Joints[0].Ins = make([]int64, 1000000) },
		"plans":   func(y *impl.Town) { y.Plans = make([]impl.Plan, 300000) },
		"slots":   func(y *impl.Town) { y.Plans[0].Slots = make([]impl.Slot, 100000) },
	} {
		y := deep(x)
		change(&y)
		if !impl.SameTown(y, deep(y)) || impl.SameTown(x, y) || impl.ValidTown(y) {
			t.Errorf("many %s", name)
		}
	}
	acts := make([]impl.Act, 200000)
	for i := range acts {
		acts[i] = impl.Act{Kind: impl.AcWait, A: 120}
	}
	_, done, code := impl.RunActs(x, acts)
	wantWhole(t, "many acts", whole(done, code), whole(0, impl.ErrLimit))
	acts[len(acts)-1].Kind = 7
	_, done, code = impl.RunActs(x, acts)
	wantWhole(t, "many acts, the last one not valid", whole(done, code), whole(0, impl.ErrInvalid))
	for _, text := range []string{"\n", " ", "0", "wait 1\n", "town 0 00000000 00000000\n", "joint - 0 - 1 junction 1 1 3f800000 3f800000\n", "joint 0 "} {
		long := strings.Repeat(text, 1000000/len(text))
		if _, line, code := impl.CompileActs(long); line != 0 || code != impl.ErrRange {
			t.Errorf("a long text: %d, %d", line, code)
		}
		if _, code := impl.ReadTown(long); code != impl.ErrSyntax {
			t.Errorf("a long text: %d", code)
		}
		if _, code := impl.ReadTown("town 0 00000000 00000000\n" + long); code != impl.ErrSyntax {
			t.Errorf("a long text behind the first line: %d", code)
		}
	}
}
