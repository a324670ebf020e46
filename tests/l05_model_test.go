package tests

import (
	"math"
	"strconv"
	"testing"

	"loop.example/g01227/impl"
)

// modelCount looks for the nearest integer from the one below.
func modelCount(a float32) int16 {
	if a != a {
		return 0
	}
	wide := math.Min(math.Max(float64(a), -32768), 32767)
	below := math.Floor(wide)
	odd := math.Mod(below, 2) != 0
	if over := wide - below; over > 0.5 || over == 0.5 && odd {
		below++
	}
	return int16(below)
}

// modelWatch counts one car after the other.
func modelWatch(w impl.Detector, r impl.Road) impl.Detector {
	m := rulesOf(r)
	flow := lesser(m.sends(r, w.Cell), m.takes(r, w.Cell+1))
	w.Carry = add(w.Carry, mul(flow, r.Lanes))
	for w.Carry >= 1 {
		w.Carry = sub(w.Carry, 1)
		if w.Count < 32767 {
			w.Count++
		}
	}
	w.Full = add(w.Full, r.Cars[w.Cell])
	w.Ticks++
	return w
}

// modelCheck adds up both sums whole, and takes them modulo 251 only at the end.
func modelCheck(data []byte) byte {
	a, b := int64(1), int64(1)
	for _, x := range data {
		a += int64(x)
		b += a
	}
	return byte(b % 251)
}

// modelPacket writes any tallies, valid or not, as long as each number fits two bytes.
func modelPacket(list []impl.Tally) []byte {
	data := []byte{'D', 'T', byte(len(list))}
	for i, t := range list {
		six := []byte{byte(t.Turn % 256), byte(t.Turn / 256), byte(uint16(t.Count) % 256), byte(uint16(t.Count) / 256), byte(uint16(t.Full) % 256), byte(uint16(t.Full) / 256)}
		data = append(append(data, six...), modelCheck(append([]byte{byte(i)}, six...)))
	}
	return append(data, modelCheck(data))
}

// tallies draws a valid list, with gaps of at most so many turns; little counts are often equal.
func (d *draw) tallies(count, gap int) []impl.Tally {
	var list []impl.Tally
	turn, counts, fulls := int64(d.below(5)), []int{2, 4, 10, 32768}[d.below(4)], []int{2, 3, 1001}[d.below(3)]
	for range count {
		list = append(list, impl.Tally{Turn: turn, Count: int16(d.below(counts)), Full: int16(d.below(fulls))})
		turn += int64(1 + d.below(gap+1))
	}
	return list
}

// some draws a list that is empty, short, or as long as one may be.
func (d *draw) some() []impl.Tally {
	return d.tallies([]int{0, 1, 2, 5, 10, 40, 96}[d.below(7)], d.below(5))
}

func (d *draw) detector() impl.Detector {
	w := impl.Detector{Cell: int64(d.below(15)), Carry: lesser(d.share(), belowOne), Full: d.amount()}
	w.Count = []int16{0, 1, 32766, 32767, int16(d.below(32768))}[d.below(5)]
	w.Ticks = []int64{0, 1, 1000000, 999999, int64(d.below(1000000))}[d.below(5)]
	return w
}

func sameDetector(w, v impl.Detector) bool {
	return w.Cell == v.Cell && same(w.Carry, v.Carry) && w.Count == v.Count && same(w.Full, v.Full) && w.Ticks == v.Ticks
}

func sameTallies(a, b []impl.Tally) bool {
	if len(a) != len(b) {
		return false
	}
	for i := range a {
		if a[i] != b[i] {
			return false
		}
	}
	return true
}

func wantDetector(t *testing.T, name string, got impl.Detector, code int64, want impl.Detector, wantCode int64) {
	t.Helper()
	if !sameDetector(got, want) || code != wantCode {
		t.Errorf("%s: got %v, %d, want %v, %d", name, got, code, want, wantCode)
	}
}

func wantTallies(t *testing.T, name string, got []impl.Tally, code int64, want []impl.Tally, wantCode int64) {
	t.Helper()
	if !sameTallies(got, want) || code != wantCode {
		t.Errorf("%s: got %v, %d, want %v, %d", name, got, code, want, wantCode)
	}
}

func wantNumbers(t *testing.T, name string, got []float32, code int64, want []float32, wantCode int64) {
	t.Helper()
	equal := len(got) == len(want)
	for i := range got {
		equal = equal && same(got[i], want[i])
	}
	if !equal || code != wantCode {
		t.Errorf("%s: got %v, %d, want %v, %d", name, got, code, want, wantCode)
	}
}

// counted makes tallies of the turns 0, 1, 2 .. with counts, each of them half full.
func counted(counts ...int16) []impl.Tally {
	var list []impl.Tally
	for i, count := range counts {
		list = append(list, impl.Tally{Turn: int64(i), Count: count, Full: 500})
	}
	return list
}

// badDetectors returns detectors each of which is just not valid in one thing.
func badDetectors() map[string]impl.Detector {
	out := map[string]impl.Detector{}
	put := func(name string, change func(*impl.Detector)) {
		w := impl.Detector{Cell: 3, Carry: 0.5, Count: 7, Full: 2.5, Ticks: 9}
		change(&w)
		out[name] = w
	}
	put("the last cell", func(w *impl.Detector) { w.Cell = 15 })
	for _, cell := range badCells {
		put("cell "+digits(cell), func(w *impl.Detector) { w.Cell = cell })
	}
	for _, bad := range badAmounts {
		name := impl.NumberText(bad) + digits(int64(math.Float32bits(bad)))
		put("carry "+name, func(w *impl.Detector) { w.Carry = bad })
		put("full "+name, func(w *impl.Detector) { w.Full = bad })
	}
	put("carry 1", func(w *impl.Detector) { w.Carry = 1 })
	put("carry more", func(w *impl.Detector) { w.Carry = 2 })
	put("count -1", func(w *impl.Detector) { w.Count = -1 })
	put("count least", func(w *impl.Detector) { w.Count = -32768 })
	for _, ticks := range []int64{-1, 1000001, 1 << 32, math.MinInt64, math.MaxInt64} {
		put("ticks "+digits(ticks), func(w *impl.Detector) { w.Ticks = ticks })
	}
	return out
}

// badTallies returns lists each of which is just not valid in one thing.
func badTallies() map[string][]impl.Tally {
	out := map[string][]impl.Tally{}
	put := func(name string, change func([]impl.Tally)) {
		list := []impl.Tally{{Turn: 4, Count: 5, Full: 400}, {Turn: 5, Count: 6, Full: 500}, {Turn: 9, Count: 7, Full: 600}}
		change(list)
		out[name] = list
	}
	put("turn twice", func(l []impl.Tally) { l[1].Turn = 4 })
	put("the last turn twice", func(l []impl.Tally) { l[2].Turn = 5 })
	put("turns in another order", func(l []impl.Tally) { l[0].Turn, l[1].Turn = 5, 4 })
	put("the last turn is less", func(l []impl.Tally) { l[2].Turn = 3 })
	for name, turn := range map[string]int64{"-1": -1, "least": math.MinInt64, "least 32": -(1 << 32)} {
		put("first turn "+name, func(l []impl.Tally) { l[0].Turn = turn })
	}
	for name, turn := range map[string]int64{"65536": 65536, "greatest": math.MaxInt64, "10 in the low bits": 1<<16 + 10} {
		put("last turn "+name, func(l []impl.Tally) { l[2].Turn = turn })
	}
	for i, place := range []string{"first ", "mid ", "last "} {
		for name, bad := range map[string]int16{"-1": -1, "least": -32768} {
			put(place+"count "+name, func(l []impl.Tally) { l[i].Count = bad })
			put(place+"full "+name, func(l []impl.Tally) { l[i].Full = bad })
		}
		for name, bad := range map[string]int16{"1001": 1001, "greatest": 32767} {
			put(place+"full "+name, func(l []impl.Tally) { l[i].Full = bad })
		}
	}
	out["many"] = (&draw{300}).tallies(97, 0)
	out["very many"] = make([]impl.Tally, 300000)
	return out
}

func digits(n int64) string { return strconv.FormatInt(n, 10) }
