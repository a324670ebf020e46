package tests

import (
	"testing"

	"loop.example/g01227/impl"
)

// wave is what a step of the model gives.
type wave struct {
	road  impl.Road
	flows [17]float32
	joins float32
}

func held(a float32) float32 {
	if a < 0 {
		return 0
	}
	return lesser(a, 1)
}

func (m rules) flows(r impl.Road, offered, room float32) [17]float32 {
	var out [17]float32
	out[0] = lesser(offered, m.takes(r, 0))
	for i := int64(1); i < 16; i++ {
		out[i] = lesser(m.sends(r, i-1), m.takes(r, i))
	}
	out[16] = lesser(m.sends(r, 15), room)
	return out
}

func modelStep(r impl.Road, offered, room float32) wave {
	return modelRamp(r, 0, offered, room, 0)
}

func modelRamp(r impl.Road, cell int64, offered, room, joining float32) wave {
	m := rulesOf(r)
	w := wave{road: r, flows: m.flows(r, offered, room)}
	w.joins = lesser(joining, sub(m.takes(r, cell), w.flows[cell]))
	if w.joins < 0 {
		w.joins = 0
	}
	for i := range 16 {
		into := w.flows[i]
		if int64(i) == cell {
			into = add(into, w.joins)
		}
		w.road.Cars[i] = held(sub(add(r.Cars[i], into), w.flows[i+1]))
	}
	return w
}

func modelCars(r impl.Road) float32 {
	sum := r.Cars[0]
	for _, share := range r.Cars[1:] {
		sum = add(sum, share)
	}
	return mul(sum, r.Lanes)
}

// cellsSum is made in wide numbers, to hold what is kept against it.
func cellsSum(r impl.Road) float64 {
	sum := 0.0
	for _, share := range r.Cars {
		sum += float64(share)
	}
	return sum
}

func nearly(a, b, within float64) bool {
	return a-b <= within && b-a <= within
}

// amount mixes amounts that are less than what flows with ones that are more.
func (d *draw) amount() float32 {
	switch d.below(8) {
	case 0:
		return fromBits(0x7f7fffff)
	case 1:
		return d.share() * 1000
	case 2, 3, 4:
		return d.share() / 8
	}
	return d.share()
}

// paced is a road all of whose cells have plain shares, as traffic would leave them.
func (d *draw) paced() impl.Road {
	r := d.road()
	for i := range r.Cars {
		r.Cars[i] = float32(d.bits()%(1<<16)) / (1 << 16)
	}
	return r
}

var badAmounts = []float32{-1, minusZero, -smallest, inf, minusInf, nan, otherNaN}
var badSteps = []int64{-1, 401, 402, -1 << 63, 1<<63 - 1, 1 << 32, -(1 << 32)}

func wantStep(t *testing.T, name string, r impl.Road, in, out float32, code int64, want impl.Road, wantIn, wantOut float32, wantCode int64) {
	t.Helper()
	if !sameRoad(r, want) || !same(in, wantIn) || !same(out, wantOut) || code != wantCode {
		t.Errorf("%s: got %v, %v, %v, %d, want %v, %v, %v, %d", name, r, in, out, code, want, wantIn, wantOut, wantCode)
	}
}

func wantCount(t *testing.T, name string, got, code, want, wantCode int64) {
	t.Helper()
	if got != want || code != wantCode {
		t.Errorf("%s: got %d, %d, want %d, %d", name, got, code, want, wantCode)
	}
}
