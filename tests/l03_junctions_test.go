package tests

import (
	"math"
	"strconv"
	"strings"
	"testing"

	"loop.example/g01227/impl"
)

var badArms = []int64{-1, 5, 1 << 32, math.MinInt64, math.MaxInt64}

func TestLimitsOfJunctions(t *testing.T) {
	if impl.MaxArms != 4 || impl.MaxFill != 8 {
		t.Errorf("limits %d %d", impl.MaxArms, impl.MaxFill)
	}
}

func TestValidJunction(t *testing.T) {
	for name, j := range badJunctions() {
		if impl.ValidJunction(j) {
			t.Errorf("%s: a junction that is not valid is told to be", name)
		}
	}
	d := &draw{70}
	for range 3000 {
		if j := d.junction(); !impl.ValidJunction(j) {
			t.Fatalf("%v is not told to be valid", j)
		}
	}
	for _, row := range []impl.Four{
		{0.999}, {0, 0.999}, {1, sub(1.001, 1)}, {0.5, sub(1.001, 0.5)}, {1}, {0, 0, 0, 1}, {1, smallest}, {0.25, 0.25, 0.25, 0.25},
	} {
		for _, prior := range []float32{1.0 / 64, 1, 64} {
			j := impl.Junction{Ins: 1, Outs: 4, Turns: impl.Flows{row}, Prior: impl.Four{prior}}
			if !impl.ValidJunction(j) {
				t.Errorf("%v is not told to be valid", j)
			}
		}
	}
}

// TestSumsOfRowsAreMadeFromLeftToRight has rows whose sum is at the bound in one order only.
func TestSumsOfRowsAreMadeFromLeftToRight(t *testing.T) {
	d, order := &draw{71}, 0
	for range 20000 {
		row := impl.Four{d.share() / 4, d.share() / 4, d.share() / 4}
		row[3] = sub(0.999, add(add(row[0], row[1]), row[2]))
		if !impl.IsShare(row[3]) {
			continue
		}
		left := add(add(add(row[0], row[1]), row[2]), row[3]) >= 0.999
		right := add(add(add(row[3], row[2]), row[1]), row[0]) >= 0.999
		if left != right {
			order++
		}
		j := impl.Junction{Ins: 1, Outs: 4, Turns: impl.Flows{row}, Prior: impl.Four{1}}
		if got := impl.ValidJunction(j); got != left {
			t.Fatalf("ValidJunction(%v) = %v", j, got)
		}
	}
	if order == 0 {
		t.Error("no row tells the order of its sum")
	}
}

func TestSameJunction(t *testing.T) {
	d := &draw{72}
	odd := []float32{0, minusZero, 1, nan, otherNaN, inf, smallest}
	kinds := []int{0, 1, 2, 3, 3, 5, 6}
	base := d.junctionOf(3, 3)
	for place := range 20 {
		put := func(a float32) impl.Junction {
			j := base
			if place < 16 {
				j.Turns[place/4][place%4] = a
			} else {
				j.Prior[place-16] = a
			}
			return j
		}
		for i, a := range odd {
			for k, b := range odd {
				if got := impl.SameJunction(put(a), put(b)); got != (kinds[i] == kinds[k]) {
					t.Errorf("place %d, %v and %v: %v", place, a, b, got)
				}
			}
		}
	}
	for _, counts := range [][2]int64{{0, 0}, {3, 3}, {-1, 5}, {math.MinInt64, math.MaxInt64}} {
		one, two := base, base
		one.Ins, one.Outs = counts[0], counts[1]
		two.Ins, two.Outs = counts[0], counts[1]
		if !impl.SameJunction(one, two) {
			t.Errorf("%v is not the same as itself", one)
		}
		two.Ins++
		if impl.SameJunction(one, two) {
			t.Error("other ins are the same")
		}
		two.Ins--
		two.Outs--
		if impl.SameJunction(one, two) {
			t.Error("other outs are the same")
		}
	}
	for name, j := range badJunctions() {
		if !impl.SameJunction(j, j) {
			t.Errorf("%s: not the same as itself", name)
		}
	}
}

func TestEvenJunction(t *testing.T) {
	for ins := int64(1); ins <= 4; ins++ {
		for outs := int64(1); outs <= 4; outs++ {
			want := impl.Junction{Ins: ins, Outs: outs}
			for i := range ins {
				want.Prior[i] = 1
				for k := range outs {
					want.Turns[i][k] = []float32{1, 0.5, fromBits(0x3eaaaaab), 0.25}[outs-1]
				}
			}
			got, code := impl.EvenJunction(ins, outs)
			wantJunction(t, "even", got, code, want, impl.OK)
			if !impl.ValidJunction(got) {
				t.Errorf("%v is not valid", got)
			}
		}
	}
	for _, bad := range append([]int64{0}, badArms...) {
		for _, pair := range [][2]int64{{bad, 1}, {1, bad}, {bad, bad}, {4, bad}, {bad, 4}} {
			got, code := impl.EvenJunction(pair[0], pair[1])
			wantJunction(t, "bad", got, code, impl.Junction{}, impl.ErrRange)
		}
	}
}

func modelSetTurn(j impl.Junction, in, out int64, share float32) impl.Junction {
	var others []float32
	for k := range j.Outs {
		if k != out {
			others = append(others, j.Turns[in][k])
		}
	}
	sum := others[0]
	for _, a := range others[1:] {
		sum = add(sum, a)
	}
	for k := range j.Outs {
		if k == out {
			j.Turns[in][k] = share
		} else if sum == 0 {
			j.Turns[in][k] = div(sub(1, share), float32(j.Outs-1))
		} else {
			j.Turns[in][k] = mul(j.Turns[in][k], div(sub(1, share), sum))
		}
	}
	return j
}

func TestSetTurnIsThatOfTheModel(t *testing.T) {
	d, quotient, nothing := &draw{73}, 0, 0
	for range 20000 {
		j := d.junctionOf(1+d.below(4), 2+d.below(3))
		in, out, share := int64(d.below(int(j.Ins))), int64(d.below(int(j.Outs))), d.share()
		want := modelSetTurn(j, in, out, share)
		if !impl.ValidJunction(want) {
			continue
		}
		got, code := impl.SetTurn(j, in, out, share)
		wantJunction(t, "SetTurn", got, code, want, impl.OK)
		if !same(got.Turns[in][out], share) {
			t.Fatalf("the turn is %v, not %v", got.Turns[in][out], share)
		}
		other := (out + 1) % j.Outs
		rest := sub(1, j.Turns[in][out])
		if j.Turns[in][out] == 1 {
			nothing++
		} else if mul(j.Turns[in][other], div(sub(1, share), rest)) != got.Turns[in][other] {
			quotient++
		}
	}
	if quotient == 0 || nothing == 0 {
		t.Errorf("rows whose sum is not 1, and with one turn: %d %d", quotient, nothing)
	}
}

func TestSetTurnOfPlainJunctions(t *testing.T) {
	for _, c := range []struct {
		name      string
		row, want impl.Four
		out       int64
		share     float32
	}{
		{"even", impl.Four{0.5, 0.25, 0.25}, impl.Four{0.25, 0.375, 0.375}, 0, 0.25},
		{"all", impl.Four{0.5, 0.25, 0.25}, impl.Four{0, 1, 0}, 1, 1},
		{"nothing", impl.Four{0.5, 0.25, 0.25}, impl.Four{0, 0.5, 0.5}, 0, 0},
		{"others are nothing", impl.Four{0, 1, 0}, impl.Four{0.25, 0.5, 0.25}, 1, 0.5},
		{"others stay nothing", impl.Four{0, 1, 0}, impl.Four{0, 1, 0}, 1, 1},
		{"one of others is nothing", impl.Four{0.5, 0.5, 0}, impl.Four{0.75, 0.25, 0}, 1, 0.25},
		{"one that was nothing", impl.Four{0.5, 0.5, 0}, impl.Four{0.25, 0.25, 0.5}, 2, 0.5},
		{"last one is all", impl.Four{0, 0, 1}, impl.Four{0.5, 0.5, 0}, 2, 0},
	} {
		j := impl.Junction{Ins: 2, Outs: 3, Turns: impl.Flows{{0, 0, 1}, c.row}, Prior: impl.Four{1, 3}}
		want := j
		want.Turns[1] = c.want
		got, code := impl.SetTurn(j, 1, c.out, c.share)
		wantJunction(t, c.name, got, code, want, impl.OK)
	}
	two := mustEven(t, 1, 2)
	two.Turns[0] = impl.Four{1, 0}
	want := two
	want.Turns[0] = impl.Four{0.25, 0.75}
	got, code := impl.SetTurn(two, 0, 0, 0.25)
	wantJunction(t, "two outs", got, code, want, impl.OK)
}

// TestSetTurnWithOneOut has shares that would make a valid junction, and others that would not: both are out of range.
func TestSetTurnWithOneOut(t *testing.T) {
	for ins := int64(1); ins <= 4; ins++ {
		for _, before := range []float32{1, 0.9995} {
			j, in := mustEven(t, ins, 1), ins-1
			want := j
			j.Turns[in][0] = before
			got, code := impl.SetTurn(j, in, 0, 1)
			wantJunction(t, "one", got, code, want, impl.OK)
			for _, share := range []float32{0, smallest, 0.25, 0.5, 0.999, 0.9995, belowOne} {
				got, code := impl.SetTurn(j, in, 0, share)
				wantJunction(t, "not one", got, code, impl.Junction{}, impl.ErrRange)
			}
			j.Prior[in] = 0
			got, code = impl.SetTurn(j, in, 0, 0.5)
			wantJunction(t, "not one, not valid", got, code, impl.Junction{}, impl.ErrInvalid)
		}
	}
}

// TestSetTurnOfNextToNothing multiplies others whose sum is so little that the quotient is infinite.
func TestSetTurnOfNextToNothing(t *testing.T) {
	j := mustEven(t, 1, 3)
	for _, row := range []impl.Four{{1, smallest}, {1, smallest, smallest}, {1, 0, fromBits(0x00100000)}} {
		j.Turns[0] = row
		got, code := impl.SetTurn(j, 0, 0, 0.25)
		wantJunction(t, "next to nothing", got, code, impl.Junction{}, impl.ErrState)
		got, code = impl.SetTurn(j, 0, 0, 1)
		want := j
		want.Turns[0] = impl.Four{1}
		wantJunction(t, "nothing is left", got, code, want, impl.OK)
	}
	j.Turns[0] = impl.Four{1, fromBits(0x00800000), fromBits(0x00800000)}
	got, code := impl.SetTurn(j, 0, 0, 0.5)
	want := j
	want.Turns[0] = impl.Four{0.5, 0.25, 0.25}
	wantJunction(t, "little", got, code, want, impl.OK)
}

func TestSetTurnAndPriorRefuse(t *testing.T) {
	j := impl.Junction{Ins: 2, Outs: 3, Turns: impl.Flows{{0.5, 0.25, 0.25}, {0, 0.5, 0.5}}, Prior: impl.Four{1, 2}}
	for _, bad := range append([]int64{2, 3, 4}, badArms...) {
		got, code := impl.SetTurn(j, bad, 0, 0.5)
		wantJunction(t, "turn of an in", got, code, impl.Junction{}, impl.ErrRange)
		got, code = impl.SetPrior(j, bad, 1)
		wantJunction(t, "prior of an in", got, code, impl.Junction{}, impl.ErrRange)
	}
	for _, bad := range append([]int64{3, 4}, badArms...) {
		got, code := impl.SetTurn(j, 0, bad, 0.5)
		wantJunction(t, "turn to an out", got, code, impl.Junction{}, impl.ErrRange)
	}
	for _, bad := range badShares {
		got, code := impl.SetTurn(j, 0, 0, bad)
		wantJunction(t, "no share", got, code, impl.Junction{}, impl.ErrRange)
		got, code = impl.SetTurn(mustEven(t, 1, 1), 0, 0, bad)
		wantJunction(t, "no share, one out", got, code, impl.Junction{}, impl.ErrRange)
	}
	for _, bad := range append([]float32{0, math.Nextafter32(1.0/64, 0), math.Nextafter32(64, 65), math.MaxFloat32}, badAmounts...) {
		got, code := impl.SetPrior(j, 0, bad)
		wantJunction(t, "no prior", got, code, impl.Junction{}, impl.ErrRange)
	}
	for name, bad := range badJunctions() {
		for _, arm := range []int64{0, -1, 4} {
			for _, share := range []float32{0.5, -1} {
				got, code := impl.SetTurn(bad, arm, arm, share)
				wantJunction(t, name, got, code, impl.Junction{}, impl.ErrInvalid)
				got, code = impl.SetPrior(bad, arm, share)
				wantJunction(t, name, got, code, impl.Junction{}, impl.ErrInvalid)
			}
		}
	}
}

func TestSetPrior(t *testing.T) {
	d := &draw{74}
	for _, prior := range []float32{1.0 / 64, 0.3, 1, 63.9, 64} {
		for range 100 {
			j := d.junction()
			in := int64(d.below(int(j.Ins)))
			want := j
			want.Prior[in] = prior
			got, code := impl.SetPrior(j, in, prior)
			wantJunction(t, "prior", got, code, want, impl.OK)
		}
	}
}

func TestJunctionText(t *testing.T) {
	j := impl.Junction{Ins: 2, Outs: 3, Turns: impl.Flows{{0.5, 0.25, 0.25}, {0, 1, smallest}}, Prior: impl.Four{64, 1.0 / 64}}
	want := "junction 2 3 3f000000 3e800000 3e800000 00000000 3f800000 00000001 42800000 3c800000"
	if got := impl.JunctionText(j); got != want {
		t.Errorf("got %q, want %q", got, want)
	}
	back, code := impl.ReadJunction(want)
	wantJunction(t, "read", back, code, j, impl.OK)
	if got := impl.JunctionText(mustEven(t, 1, 1)); got != "junction 1 1 3f800000 3f800000" {
		t.Errorf("got %q", got)
	}
	for name, bad := range badJunctions() {
		if got := impl.JunctionText(bad); got != "" {
			t.Errorf("%s: %q", name, got)
		}
	}
}

func TestJunctionsAreReadFromTheirTexts(t *testing.T) {
	d := &draw{75}
	for range 3000 {
		j := d.junction()
		back, code := impl.ReadJunction(impl.JunctionText(j))
		wantJunction(t, "read back", back, code, j, impl.OK)
		if j.Outs > 1 {
			in, out := int64(d.below(int(j.Ins))), int64(d.below(int(j.Outs)))
			turned, code := impl.SetTurn(j, in, out, 0.375)
			if !impl.ValidJunction(modelSetTurn(j, in, out, 0.375)) {
				continue
			}
			if code != impl.OK || turned.Turns[in][out] != 0.375 {
				t.Fatalf("%d: %v", code, turned)
			}
			back, code = impl.ReadJunction(impl.JunctionText(turned))
			wantJunction(t, "turned", back, code, turned, impl.OK)
		}
	}
}

// looseText writes a junction that need not be valid as JunctionText would.
func looseText(j impl.Junction, ins, outs int) string {
	words := []string{"junction", strconv.FormatInt(j.Ins, 10), strconv.FormatInt(j.Outs, 10)}
	for i := range ins {
		for k := range outs {
			words = append(words, impl.NumberText(j.Turns[i][k]))
		}
	}
	for i := range ins {
		words = append(words, impl.NumberText(j.Prior[i]))
	}
	return strings.Join(words, " ")
}

func badJunctionTexts() []string {
	text := "junction 2 3 3f000000 3e800000 3e800000 00000000 3f000000 3f000000 3f800000 40000000"
	words := strings.Split(text, " ")
	list := []string{
		"", "junction", "junction ", "junction 1", "junction 1 1", "junction 1 1 3f800000", "junction 0 0", "junction 0 1", "junction 0 4", "junction 1 0", "junction 1 0 3f800000", "junction -1 2", "junction 2 -1", "junction 2 -2",
		"junction 1 1 3f800000 3f800000 3f800000", " " + text, text + " ", text + "\n", text + " 00000000", "Junction" + text[8:], "junctions" + text[8:],
		text[9:], strings.ToUpper(text), strings.Replace(text, " ", "  ", 1), strings.ReplaceAll(text, " ", "\t"), strings.Join(words, ","), text[:len(text)-1], text + "0", text + " " + text,
		"road" + text[8:], strings.Repeat(" ", 10), strings.Repeat(" ", 1000000), strings.Repeat("1 ", 500000), strings.Repeat("x", 1000000),
	}
	for at := range words {
		bads := []string{"", "0", "3F000000", "7fc00000", "7f800000", "80000000", "bf000000", "42800001", "zzzzzzzz"}
		if at == 1 || at == 2 {
			bads = []string{"", "0", "-1", "5", "+2", "02", "03", "+3", "2.0", "3 ", "x", "9223372036854775807", "-9223372036854775808", "9223372036854775808", "4611686018427387904", "00000002"}
		}
		for _, bad := range bads {
			other := append([]string{}, words...)
			other[at] = bad
			list = append(list, strings.Join(other, " "))
		}
	}
	for _, bad := range badJunctions() {
		if bad.Ins == 2 && bad.Outs == 3 && !isValidInText(bad) {
			list = append(list, looseText(bad, 2, 3))
		}
		list = append(list, looseText(bad, 4, 4))
	}
	return list
}

// isValidInText reports whether what makes a junction with 2 ins and 3 outs not valid is not in its text.
func isValidInText(j impl.Junction) bool {
	for i := range j.Turns {
		for k := range j.Turns[i] {
			if i > 1 || k > 2 {
				j.Turns[i][k] = 0
			}
		}
	}
	j.Prior[2], j.Prior[3] = 0, 0
	return impl.ValidJunction(j)
}

func TestReadJunctionRefuses(t *testing.T) {
	for _, bad := range badJunctionTexts() {
		got, code := impl.ReadJunction(bad)
		if len(bad) > 200 {
			bad = bad[:200]
		}
		wantJunction(t, "ReadJunction "+bad, got, code, impl.Junction{}, impl.ErrSyntax)
	}
}
