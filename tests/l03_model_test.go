package tests

import (
	"math"
	"testing"

	"loop.example/g01227/impl"
)

// prior draws how strongly an in presses, the ends among it.
func (d *draw) prior() float32 {
	switch d.below(8) {
	case 0:
		return 1.0 / 64
	case 1:
		return 64
	case 2, 3, 4:
		return 1
	}
	return 1.0/64 + float32(d.bits()%(1<<20))/(1<<20)*8
}

// turns draws a row, some of whose turns are 0, with a sum that is 1, nearly.
func (d *draw) turns(outs int) impl.Four {
	var row impl.Four
	even := d.below(2) == 0
	for {
		sum := float32(0)
		for k := range outs {
			row[k] = float32(d.below(3))
			if !even && row[k] > 0 {
				row[k] = d.share()
			}
			sum = add(sum, row[k])
		}
		if sum < 1.0/1024 {
			continue
		}
		for k := range outs {
			row[k] = lesser(div(row[k], sum), 1)
		}
		return row
	}
}

func (d *draw) junction() impl.Junction {
	return d.junctionOf(1+d.below(4), 1+d.below(4))
}

func (d *draw) junctionOf(ins, outs int) impl.Junction {
	j := impl.Junction{Ins: int64(ins), Outs: int64(outs)}
	for i := range ins {
		j.Turns[i] = d.turns(outs)
		j.Prior[i] = d.prior()
		if d.below(4) == 0 {
			bend(&j.Turns[i], []float32{0.9991, 0.9995, 1.0005, 1.0009}[d.below(4)])
		}
	}
	return j
}

// bend lets the sum of a row be just about so much, as long as its turns are shares.
func bend(row *[4]float32, sum float32) {
	for k, turn := range row {
		row[k] = lesser(mul(turn, sum), 1)
	}
}

// numbers draws what arms send or take: some of it the same, nothing, very little or very much.
func (d *draw) numbers(count int64) impl.Four {
	var out impl.Four
	plain := d.below(2) == 0
	for i := range count {
		switch {
		case plain:
			out[i] = float32(d.below(9)) / 8
		case d.below(20) == 0:
			out[i] = math.MaxFloat32
		default:
			out[i] = mul(d.share(), 2)
		}
	}
	return out
}

func modelProducts(j impl.Junction, numbers impl.Four) impl.Flows {
	var out impl.Flows
	for i := range j.Ins {
		for k := range j.Outs {
			out[i][k] = mul(numbers[i], j.Turns[i][k])
		}
	}
	return out
}

// modelFilling is a filling that is made as the document tells it, with sets of those that go.
type modelFilling struct {
	j            impl.Junction
	sends, takes impl.Four
	flow, come   impl.Four
	goes         map[int64]bool
	by           [4]int64
	rounds       int
	// What the draws have met: an in that is done when an out is full, and outs that are full at once.
	tie, both bool
}

func modelFill(j impl.Junction, sends, takes impl.Four) *modelFilling {
	f := &modelFilling{j: j, sends: sends, takes: takes, goes: map[int64]bool{}, by: [4]int64{-1, -1, -1, -1}}
	for i := range j.Ins {
		if sends[i] > 0 {
			f.goes[i] = true
		}
		for k := range j.Outs {
			if f.goes[i] && j.Turns[i][k] > 0 && !(takes[k] > 0) {
				f.halt(i, k)
			}
		}
	}
	for len(f.goes) > 0 && f.rounds < 8 {
		f.rounds++
		f.round()
	}
	return f
}

func (f *modelFilling) halt(in, out int64) {
	f.by[in] = out
	delete(f.goes, in)
}

func (f *modelFilling) rate(out int64) float32 {
	var list []float32
	for i := range f.j.Ins {
		if f.goes[i] {
			list = append(list, mul(f.j.Prior[i], f.j.Turns[i][out]))
		}
	}
	sum := list[0]
	for _, a := range list[1:] {
		sum = add(sum, a)
	}
	return sum
}

func (f *modelFilling) round() {
	ins, outs, rates := map[int64]float32{}, map[int64]float32{}, map[int64]float32{}
	least := inf
	for i := range f.j.Ins {
		if f.goes[i] {
			ins[i] = div(sub(f.sends[i], f.flow[i]), f.j.Prior[i])
			least = lesser(least, ins[i])
		}
	}
	for k := range f.j.Outs {
		rates[k] = f.rate(k)
		if rates[k] > 0 {
			outs[k] = div(sub(f.takes[k], f.come[k]), rates[k])
			if outs[k] < 0 {
				outs[k] = 0
			}
			least = lesser(least, outs[k])
		}
	}
	for i := range ins {
		f.flow[i] = add(f.flow[i], mul(f.j.Prior[i], least))
	}
	for k, rate := range rates {
		f.come[k] = add(f.come[k], mul(rate, least))
	}
	f.end(ins, outs, least)
}

func (f *modelFilling) end(ins, outs map[int64]float32, least float32) {
	done, full := 0, 0
	for i, time := range ins {
		if time == least {
			f.flow[i] = f.sends[i]
			delete(f.goes, i)
			done++
		}
	}
	for k := range f.j.Outs {
		time, has := outs[k]
		if !has || time != least {
			continue
		}
		full++
		for i := range f.j.Ins {
			if f.goes[i] && f.j.Turns[i][k] > 0 {
				f.halt(i, k)
			}
		}
	}
	f.tie = f.tie || done > 0 && full > 0
	f.both = f.both || full > 1
}

func (f *modelFilling) flows() impl.Flows { return modelProducts(f.j, f.flow) }

func modelRow(f impl.Flows, in int64) float32 {
	return add(add(add(f[in][0], f[in][1]), f[in][2]), f[in][3])
}

func modelColumn(f impl.Flows, out int64) float32 {
	return add(add(add(f[0][out], f[1][out]), f[2][out]), f[3][out])
}

func sameFour(f, g impl.Four) bool {
	for i := range f {
		if !same(f[i], g[i]) {
			return false
		}
	}
	return true
}

func sameFlows(f, g impl.Flows) bool {
	for i := range f {
		if !sameFour(f[i], g[i]) {
			return false
		}
	}
	return true
}

func sameJunction(j, k impl.Junction) bool {
	return j.Ins == k.Ins && j.Outs == k.Outs && sameFlows(j.Turns, k.Turns) && sameFour(j.Prior, k.Prior)
}

func wantJunction(t *testing.T, name string, got impl.Junction, code int64, want impl.Junction, wantCode int64) {
	t.Helper()
	if !sameJunction(got, want) || code != wantCode {
		t.Errorf("%s: got %v, %d, want %v, %d", name, got, code, want, wantCode)
	}
}

func wantFour(t *testing.T, name string, got impl.Four, code int64, want impl.Four, wantCode int64) {
	t.Helper()
	if !sameFour(got, want) || code != wantCode {
		t.Errorf("%s: got %v, %d, want %v, %d", name, got, code, want, wantCode)
	}
}

func wantFlows(t *testing.T, name string, got impl.Flows, code int64, want impl.Flows, wantCode int64) {
	t.Helper()
	if !sameFlows(got, want) || code != wantCode {
		t.Errorf("%s: got %v, %d, want %v, %d", name, got, code, want, wantCode)
	}
}

func wantStops(t *testing.T, name string, got [4]int64, code int64, want [4]int64, wantCode int64) {
	t.Helper()
	if got != want || code != wantCode {
		t.Errorf("%s: got %v, %d, want %v, %d", name, got, code, want, wantCode)
	}
}

func mustEven(t *testing.T, ins, outs int64) impl.Junction {
	t.Helper()
	j, code := impl.EvenJunction(ins, outs)
	if code != impl.OK {
		t.Fatalf("EvenJunction(%d, %d): code %d", ins, outs, code)
	}
	return j
}

// badJunctions returns junctions each of which is just not valid in one thing.
func badJunctions() map[string]impl.Junction {
	out := map[string]impl.Junction{"zero": {}}
	put := func(name string, change func(*impl.Junction)) {
		j := impl.Junction{Ins: 2, Outs: 3, Turns: impl.Flows{{0.5, 0.25, 0.25}, {0, 0.5, 0.5}}, Prior: impl.Four{1, 2}}
		change(&j)
		out[name] = j
	}
	for name, a := range map[string]float32{"-0": minusZero, "-1": -1, "below 0": -smallest, "inf": inf, "-inf": minusInf, "NaN": nan, "other NaN": otherNaN} {
		put("turn "+name, func(j *impl.Junction) { j.Turns[1][0] = a })
		put("turn behind the outs "+name, func(j *impl.Junction) { j.Turns[0][3] = a })
		put("turn behind the ins "+name, func(j *impl.Junction) { j.Turns[2][0] = a })
		put("last turn of all "+name, func(j *impl.Junction) { j.Turns[3][3] = a })
		put("prior "+name, func(j *impl.Junction) { j.Prior[1] = a })
		put("prior behind the ins "+name, func(j *impl.Junction) { j.Prior[2] = a })
		put("last prior "+name, func(j *impl.Junction) { j.Prior[3] = a })
	}
	put("little behind the outs", func(j *impl.Junction) { j.Turns[1][3] = smallest })
	put("a turn behind the outs that makes the sum 1", func(j *impl.Junction) { j.Turns[0] = impl.Four{0.5, 0.25, 0, 0.25} })
	put("little behind the ins", func(j *impl.Junction) { j.Turns[2][1] = smallest })
	put("a whole row behind the ins", func(j *impl.Junction) { j.Turns[3][0] = 1 })
	put("a turn above 1", func(j *impl.Junction) { j.Turns[0] = impl.Four{aboveOne} })
	put("a turn below 0 that makes the sum 1", func(j *impl.Junction) { j.Turns[0] = impl.Four{1, -0.25, 0.25} })
	put("a row with little", func(j *impl.Junction) { j.Turns[0] = impl.Four{0.499, 0.25, 0.2499} })
	put("a row with just less", func(j *impl.Junction) { j.Turns[1] = impl.Four{math.Nextafter32(0.999, 0)} })
	put("a row with much", func(j *impl.Junction) { j.Turns[0] = impl.Four{0.501, 0.25, 0.2501} })
	put("a row with just more", func(j *impl.Junction) { j.Turns[1] = impl.Four{0, 1, sub(math.Nextafter32(1.001, 2), 1)} })
	put("a row with nothing", func(j *impl.Junction) { j.Turns[1] = impl.Four{} })
	put("a prior of nothing", func(j *impl.Junction) { j.Prior[0] = 0 })
	put("a prior just less", func(j *impl.Junction) { j.Prior[1] = math.Nextafter32(1.0/64, 0) })
	put("a prior just more", func(j *impl.Junction) { j.Prior[1] = math.Nextafter32(64, 65) })
	put("little prior behind the ins", func(j *impl.Junction) { j.Prior[2] = smallest })
	put("a prior behind the ins", func(j *impl.Junction) { j.Prior[3] = 1 })
	for name, count := range map[string]int64{"0": 0, "-1": -1, "5": 5, "least": math.MinInt64, "greatest": math.MaxInt64, "2 in the low bits": 1<<32 + 2} {
		put("ins "+name, func(j *impl.Junction) { j.Ins = count })
		put("outs "+name, func(j *impl.Junction) { j.Outs = count })
	}
	put("fewer ins than rows", func(j *impl.Junction) { j.Ins = 1 })
	put("more ins than rows", func(j *impl.Junction) { j.Ins = 3 })
	put("fewer outs than columns", func(j *impl.Junction) { j.Outs = 2 })
	return out
}
