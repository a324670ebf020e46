package tests

import (
	"math"
	"regexp"
	"strconv"
	"strings"
	"testing"

	"loop.example/g01227/impl"
)

func TestExampleOfCentres(t *testing.T) {
	c := impl.Centre{Plans: 3, First: []int64{0, 0}}
	deeds := mustDeeds(t, "order 0 2, send 0, deliver 0")
	p, code := impl.PostAfter(c, deeds, 0)
	if p != (impl.Post{Plan: 2, Version: 1}) || code != impl.OK {
		t.Errorf("the post is %v, %d", p, code)
	}
	late, code := impl.LatePosts(c, deeds)
	wantWhole(t, "late", append(late, code), whole(0, impl.OK))
	last, code := impl.FinishDeeds(c, deeds)
	want := mustDeeds(t, "drop 0, send 0, deliver 0, deliver 0, save 0, send 1, deliver 0, deliver 0, save 1")
	wantDeeds(t, "finish", last, code, want, impl.OK)
}

func TestValidCentre(t *testing.T) {
	for plans := int64(-2); plans < 13; plans++ {
		for count := range 9 {
			c := impl.Centre{Plans: plans, First: make([]int64, count)}
			if got, want := impl.ValidCentre(c), plans >= 1 && plans <= 9 && count >= 1 && count <= 6; got != want {
				t.Errorf("%v: %v", c, got)
			}
			for at := range count {
				for first := int64(-1); first < 11; first++ {
					c.First[at] = first
					want := plans >= 1 && plans <= 9 && count <= 6 && first >= 0 && first < plans
					if got := impl.ValidCentre(c); got != want {
						t.Errorf("%v: %v", c, got)
					}
				}
				c.First[at] = 0
			}
		}
	}
	for name, bad := range badCentres() {
		if impl.ValidCentre(bad) {
			t.Errorf("%s: valid", name)
		}
	}
	for _, plans := range []int64{math.MinInt64, math.MaxInt64, 1 << 32, 1<<32 + 3} {
		if impl.ValidCentre(impl.Centre{Plans: plans, First: []int64{0}}) {
			t.Errorf("%d plans", plans)
		}
	}
	for _, first := range []int64{math.MinInt64, math.MaxInt64, 1 << 32, 1<<32 + 1} {
		if impl.ValidCentre(impl.Centre{Plans: 9, First: []int64{first}}) {
			t.Errorf("first %d", first)
		}
	}
}

// deedTexts has how the text of each kind begins.
var deedTexts = map[int64]string{1: "order", 2: "send", 3: "deliver", 4: "copy", 5: "drop", 6: "save", 7: "crash"}

func TestValidDeed(t *testing.T) {
	numbers := []int64{math.MinInt64, -1, 0, 1, 9, 998, 999, 1000, 1 << 32, math.MaxInt64}
	for kind := int64(-2); kind < 11; kind++ {
		for _, a := range numbers {
			for _, b := range numbers {
				d := impl.Deed{Kind: kind, A: a, B: b}
				want := kind >= 1 && kind <= 7 && a >= 0 && a <= 999 && (b == 0 || kind == 1 && b > 0 && b <= 999)
				if got := impl.ValidDeed(d); got != want {
					t.Errorf("%v: %v", d, got)
				}
				if text := impl.DeedText(d); (text != "") != want {
					t.Errorf("%v: %q", d, text)
				}
			}
		}
	}
	for _, kind := range []int64{1 << 32, 1<<32 + 1, math.MinInt64, math.MinInt64 + 1, math.MaxInt64} {
		if impl.ValidDeed(impl.Deed{Kind: kind}) || impl.DeedText(impl.Deed{Kind: kind}) != "" {
			t.Errorf("kind %d", kind)
		}
	}
	for name, bad := range badDeeds() {
		if impl.ValidDeed(bad) || impl.DeedText(bad) != "" {
			t.Errorf("%s: valid", name)
		}
	}
}

func TestDeedsAreReadFromTheirTexts(t *testing.T) {
	for kind, word := range deedTexts {
		for a := range int64(1000) {
			d, want := impl.Deed{Kind: kind, A: a}, word+" "+strconv.FormatInt(a, 10)
			if kind == impl.DdOrder {
				d.B = 999 - a
				want += " " + strconv.FormatInt(999-a, 10)
			}
			if got := impl.DeedText(d); got != want {
				t.Fatalf("%v: %q", d, got)
			}
			back, code := impl.ReadDeed(want)
			if back != d || code != impl.OK {
				t.Fatalf("%q: %v, %d", want, back, code)
			}
		}
	}
}

var deedPattern = regexp.MustCompile(`\A(?:order (?:0|[1-9][0-9]{0,2}) (?:0|[1-9][0-9]{0,2})|(?:send|deliver|copy|drop|save|crash) (?:0|[1-9][0-9]{0,2}))\z`)

func TestReadDeedRefuses(t *testing.T) {
	texts := []string{"", " ", "0", "order", "order ", "order  ", "order 0", "order 0 ", "order 0  0", "order 0 0 ", "order 0 0 0", " order 0 0",
		"order  0 0", "order 00 0", "order 0 00", "order +1 0", "order 1 -0", "order -1 0", "order 1000 0", "order 0 1000", "order 1\t0", "order 0 0\n", "\norder 0 0",
		"order 1.0 0", "order 0x1 0", "order 1_0 0", "order a b", "order A B", "Order 0 0", "ORDER 0 0", "orders 0 0", "orde 0 0", "order, 0 0",
		"order 18446744073709551616 0", "order 0 18446744073709551616", "order 9223372036854775808 0", "order ٣ 0",
		"post 0", "agreed", "hello", "ok", "0 0", "0 0 0", " 0", " 0 0"}
	for kind, word := range deedTexts {
		if kind != impl.DdOrder {
			for _, rest := range []string{"", " ", " 0 ", " 0 0", " 00", " 01", " +0", " -0", " -1", " 1000", " 0\n", " a", "0", "  0", " 0 x", "\x00 0", " 99999999999999999999"} {
				texts = append(texts, word+rest)
			}
		}
	}
	for _, text := range texts {
		if d, code := impl.ReadDeed(text); d != (impl.Deed{}) || code != impl.ErrSyntax {
			t.Errorf("%q: %v, %d", text, d, code)
		}
	}
}

// TestChangedDeedTexts reads texts in which one byte is another one, is not there, or is there twice.
func TestChangedDeedTexts(t *testing.T) {
	d, some := &draw{500}, 0
	for range 20000 {
		x := impl.Deed{Kind: int64(1 + d.below(7)), A: int64(d.below(1000))}
		if x.Kind == impl.DdOrder {
			x.B = int64(d.below(1000))
		}
		text := impl.DeedText(x)
		at := d.below(len(text))
		text = text[:at] + strings.Repeat(text[at:at+1], d.below(3)) + text[at+1:]
		if d.below(2) == 0 && len(text) > 0 {
			at = d.below(len(text))
			text = text[:at] + string(" 0123456789-+seopdr\n"[d.below(20)]) + text[at+1:]
		}
		back, code := impl.ReadDeed(text)
		if is := deedPattern.MatchString(text); is != (code == impl.OK) || is && impl.DeedText(back) != text {
			t.Fatalf("%q: %v, %d", text, back, code)
		} else if is {
			some++
		}
	}
	if some < 2000 {
		t.Errorf("only %d texts are those of deeds", some)
	}
}
