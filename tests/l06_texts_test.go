package tests

import (
	"strings"
	"testing"

	"loop.example/g01227/impl"
)

const plainTownText = "town 5 41000000 40000000\n" +
	"3e000000 road 3f000000 3f000000 40000000 00000000 00000000 00000000 00000000 00000000 00000000 00000000 00000000 00000000 00000000 00000000 00000000 00000000 00000000 00000000 00000000\n" +
	"3e800000 road 3f000000 3f000000 40000000 00000000 00000000 00000000 00000000 00000000 00000000 00000000 00000000 00000000 00000000 00000000 00000000 00000000 00000000 00000000 3f000000\n" +
	"00000000 road 3f000000 3f000000 40000000 3f800000 00000000 00000000 00000000 00000000 00000000 00000000 00000000 00000000 00000000 00000000 00000000 00000000 00000000 00000000 00000000\n" +
	"00000000 road 3f000000 3f000000 40000000 00000000 00000000 00000000 00000000 00000000 00000000 00000000 00000000 00000000 00000000 00000000 00000000 00000000 00000000 00000000 00000000\n" +
	"00000000 road 3f000000 3f000000 40000000 00000000 00000000 00000000 00000000 00000000 00000000 00000000 00000000 00000000 00000000 00000000 00000000 00000000 00000000 00000000 00000000\n" +
	"plan 1 6 1 3 130 2\n" +
	"plan 0 0 2 5\n" +
	"joint 1 10 - 2 junction 2 1 3f800000 3f800000 3f800000 3f800000\n" +
	"joint - 2 - 34 junction 1 2 3f000000 3f000000 3f800000\n"

func TestTownText(t *testing.T) {
	x := crossTown(t)
	x.Roads[1].Cars[15], x.Roads[2].Cars[0] = 0.5, 1
	if got := impl.TownText(x); got != plainTownText {
		t.Errorf("got\n%s\nwant\n%s", got, plainTownText)
	}
	back, code := impl.ReadTown(plainTownText)
	wantTown(t, "read", back, code, x, impl.OK)
	one, _ := impl.LineTown(1, 1)
	want := "town 0 00000000 00000000\n00000000 road 3f800000 3f000000 3f800000" + strings.Repeat(" 00000000", 16) + "\n"
	if got := impl.TownText(one); got != want {
		t.Errorf("got\n%s\nwant\n%s", got, want)
	}
	back, code = impl.ReadTown(want)
	wantTown(t, "one road", back, code, one, impl.OK)
	for name, bad := range badTowns(t) {
		if got := impl.TownText(bad); got != "" {
			t.Errorf("%s: %q", name, got)
		}
	}
}

func TestTownsAreReadFromTheirTexts(t *testing.T) {
	d, joints, plans := &draw{450}, 0, 0
	for range 2000 {
		x := d.town()
		text := impl.TownText(x)
		back, code := impl.ReadTown(text)
		wantTown(t, "read", back, code, x, impl.OK)
		if again := impl.TownText(back); again != text {
			t.Fatalf("got\n%s\nwant\n%s", again, text)
		}
		if lines := 1 + len(x.Roads) + len(x.Plans) + len(x.Joints); strings.Count(text, "\n") != lines {
			t.Fatalf("%d lines, not %d", strings.Count(text, "\n"), lines)
		}
		joints, plans = joints+len(x.Joints), plans+len(x.Plans)
	}
	if joints == 0 || plans == 0 {
		t.Error("no joints, or no plans")
	}
}

// townTextOf writes the text of a town that need not be valid, with the lines that others write.
func townTextOf(x impl.Town) string {
	n := func(a float32) string { return impl.NumberText(a) }
	text := "town " + digits(x.Tick) + " " + n(x.Came) + " " + n(x.Went) + "\n"
	for i, r := range x.Roads {
		offered := float32(0)
		if i < len(x.Offered) {
			offered = x.Offered[i]
		}
		text += n(offered) + " road " + n(r.Pace) + " " + n(r.Back) + " " + n(r.Lanes)
		for _, share := range r.Cars {
			text += " " + n(share)
		}
		text += "\n"
	}
	for _, p := range x.Plans {
		text += loosePlanText(p) + "\n"
	}
	for _, j := range x.Joints {
		text += "joint "
		if j.Plan == -1 {
			text += "-"
		} else {
			text += digits(j.Plan)
		}
		text += " " + roadDigits(j.Ins) + " - " + roadDigits(j.Outs) + " " + looseText(j.Junction, min(len(j.Ins), 4), min(len(j.Outs), 4)) + "\n"
	}
	return text
}

func roadDigits(roads []int64) string {
	text := ""
	for _, road := range roads {
		text += digits(road)
	}
	return text
}

// badTownTexts returns texts that no town has.
func badTownTexts(t *testing.T) []string {
	var out []string
	for _, bad := range badTowns(t) {
		if !impl.ValidTown(seen(bad)) {
			out = append(out, townTextOf(bad))
		}
	}
	lines := strings.SplitAfter(plainTownText, "\n")
	lines = lines[:len(lines)-1]
	for i := range lines {
		if i < 8 { // a town may do without a joint, but not without a road or a plan that a joint has
			out = append(out, strings.Join(lines[:i], "")+strings.Join(lines[i+1:], ""))
		}
		if i == 1 || i == 6 || i == 8 { // here the lines of one kind end, and those of the next one begin
			swapped := append([]string{}, lines...)
			swapped[i-1], swapped[i] = lines[i], lines[i-1]
			out = append(out, strings.Join(swapped, ""))
		}
	}
	for _, change := range [][2]string{
		{"town", "Town"}, {"town 5", "town"}, {"town 5", "town 05"}, {"town 5", "town +5"}, {"town 5", "town -5"}, {"town 5", "town 5 5"}, {"town 5", "town 1000000001"}, {"town 5", "town 5x"}, {"town 5", "town  5"},
		{"town", "joint"}, {"town", "plan"}, {"town", ""}, {"town 5 ", ""}, {"41000000", "4100000"}, {"41000000", "c1000000"}, {"41000000", "7f800000"}, {"41000000", "80000000"}, {"40000000\n3e", "ffc00000\n3e"},
		{"40000000\n3e", "40000000 \n3e"}, {"40000000\n3e", "40000000\n\n3e"}, {"40000000\n3e", "4000000g\n3e"}, {"3e000000 road", "3E000000 road"}, {"3e000000 road", "road"}, {"3e000000 road", "3e000000  road"},
		{"3e000000 road", " 3e000000 road"}, {"3e000000 road", "3e000000 roads"}, {"3e000000 road", "3e00000 road"}, {"3e000000 road", "be000000 road"}, {"3e000000 road", "3e000000"}, {"3e000000 road", "road 3e000000"},
		{"plan 1 6", "plan 1 06"}, {"plan 1 6", "plan 1 7"}, {"plan 1 6", "plan 1"}, {"plan 1 6", " plan 1 6"}, {"plan 1 6", "plane 1 6"}, {"plan 0 0", "3e000000 plan 0 0"},
		{"joint 1", "joint 01"}, {"joint 1", "joint +1"}, {"joint 1", "joint 2"}, {"joint 1", "joint"}, {"joint 1", "joint 1 "}, {"joint 1", "joint -1"}, {"joint -", "joint -1"}, {"joint -", "joint --"}, {"joint -", "joint"}, {"joint -", "joint x"}, {"joint -", "Joint -"},
		{"10 - 2", "10 2"}, {"10 - 2", "10-2"}, {"10 - 2", "1 0 - 2"}, {"10 - 2", "10 + 2"}, {"10 - 2", "10 - 2 "}, {"10 - 2", "11 - 2"}, {"10 - 2", "15 - 2"}, {"10 - 2", "1 - 2"}, {"10 - 2", "103 - 2"}, {"10 - 2", " - 2"}, {"10 - 2", "1x - 2"}, {"10 - 2", "10 -  2"}, {"10 - 2", "10 - "}, {"10 - 2", "10 - 23"}, {"10 - 2", "10 - 3"}, {"10 - 2", "10 - :"}, {"10 - 2", "1/ - 2"},
		{"junction 2", "junction  2"}, {"junction 2", "junction 1"}, {"junction 2 1", "junction"}, {"junction 2 1 3f800000", "junction 2 1 3f000000"}, {"junction 1 2", "Junction 1 2"},
		{"3f800000\njoint", "3f800000\n joint"}, {"3f800000\njoint", "3f800000\r\njoint"}, {"3f800000\njoint", "3f800000 joint"}, {"3f800000\njoint", "3f800000\n\njoint"},
	} {
		out = append(out, strings.Replace(plainTownText, change[0], change[1], 1))
	}
	return append(out, "", "\n", " ", "town", "town 0 00000000 00000000", "town 0 00000000 00000000\n", plainTownText+"\n", plainTownText+" ", "\n"+plainTownText, " "+plainTownText,
		strings.TrimSuffix(plainTownText, "\n"), plainTownText+plainTownText, strings.ReplaceAll(plainTownText, "\n", "\r\n"), strings.ToUpper(plainTownText), plainTownText+"\x00", strings.Repeat("town 5\n", 50))
}

// seen returns the part of a town that townTextOf tells: no numbers behind the arms, and as many Offered as roads.
func seen(x impl.Town) impl.Town {
	x = deep(x)
	x.Offered = append(x.Offered, make([]float32, 9)...)[:len(x.Roads)]
	for i, j := range x.Joints {
		whole := j.Junction
		whole.Turns, whole.Prior = impl.Flows{}, impl.Four{}
		for in := range min(len(j.Ins), 4) {
			copy(whole.Turns[in][:min(len(j.Outs), 4)], j.Junction.Turns[in][:])
			whole.Prior[in] = j.Junction.Prior[in]
		}
		x.Joints[i].Junction = whole
	}
	return x
}

func TestReadTownRefuses(t *testing.T) {
	for _, text := range badTownTexts(t) {
		got, code := impl.ReadTown(text)
		if !sameTown(got, impl.Town{}) || code != impl.ErrSyntax {
			t.Errorf("%q: got %v, %d", text, got, code)
		}
	}
}

// TestChangedTownTexts changes one byte of a text: what is read then has just this text.
func TestChangedTownTexts(t *testing.T) {
	d, read := &draw{451}, 0
	for range 20000 {
		text := []byte(plainTownText)
		text[d.below(len(text))] = " \n-0123789abfjoprtx"[d.below(19)]
		got, code := impl.ReadTown(string(text))
		if code == impl.OK {
			read++
			if !impl.ValidTown(got) || townTextOf(got) != string(text) {
				t.Fatalf("%q is read as %v", text, got)
			}
		} else if code != impl.ErrSyntax || !sameTown(got, impl.Town{}) {
			t.Fatalf("%q: %v, %d", text, got, code)
		}
	}
	if read == 0 {
		t.Error("no text is read")
	}
}
