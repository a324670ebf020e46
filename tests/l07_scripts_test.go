package tests

import (
	"strconv"
	"strings"
	"testing"

	"loop.example/g01227/impl"
)

func wantScript(t *testing.T, c impl.Centre, text, want string) {
	t.Helper()
	if got, code := impl.RunScript(c, text); got != want || code != impl.OK {
		t.Errorf("%q: got %q, %d, want %q", text, got, code, want)
	}
}

func TestPlainScripts(t *testing.T) {
	c := impl.Centre{Plans: 3, First: []int64{2, 0}}
	for text, want := range map[string]string{
		"":                   "",
		"\n":                 "what\n",
		"\n\n":               "what\nwhat\n",
		"agreed":             "yes\n",
		"agreed\n":           "yes\n",
		"agreed\n\n":         "yes\nwhat\n",
		"\nagreed":           "what\nyes\n",
		"post 0":             "2 0\n",
		"post 1\npost 0\n":   "0 0\n2 0\n",
		"post 2":             "what\n",
		"post 6":             "what\n",
		"post 999":           "what\n",
		"post":               "what\n",
		"post ":              "what\n",
		"post  0":            "what\n",
		"post 0 ":            "what\n",
		" post 0":            "what\n",
		"post 00":            "what\n",
		"post +0":            "what\n",
		"post -0":            "what\n",
		"post -1":            "what\n",
		"post 0 0":           "what\n",
		"post0":              "what\n",
		"Post 0":             "what\n",
		"post\t0":            "what\n",
		"post 0\r":           "what\n",
		"post 4294967296":    "what\n",
		"agreed ":            "what\n",
		" agreed":            "what\n",
		"agreed 0":           "what\n",
		"Agreed":             "what\n",
		"yes":                "what\n",
		"what":               "what\n",
		"hello":              "what\n",
		"order 0":            "what\n",
		"order 0 1":          "ok\n",
		"order 00 1":         "what\n",
		"order 0 1 ":         "what\n",
		"order 0 3":          "error range\n",
		"order 2 0":          "error range\n",
		"order 999 999":      "error range\n",
		"order 1000 0":       "what\n",
		"order 0 1000":       "what\n",
		"send 2":             "error range\n",
		"send 1000":          "what\n",
		"deliver 0":          "error range\n",
		"copy 0":             "error range\n",
		"drop 0":             "error range\n",
		"save 2":             "error range\n",
		"crash 2":            "error range\n",
		"save 0 0":           "what\n",
		"save 0\ncrash 1":    "ok\nok\n",
		"order 0 0\nagreed":  "ok\nno\n",
		"order 0 3\nagreed":  "error range\nyes\n",
		"\xff\x00":           "what\n",
		"send 0\ndrop 0\r\n": "ok\nwhat\n",
		"order 0 1\nsend 0\ndeliver 0\npost 0\nagreed\npost 1":                       "ok\nok\nok\n1 1\nyes\n0 0\n",
		"order 0 1\nsend 0\ndeliver 0\npost 0\ncrash 0\npost 0\nagreed":              "ok\nok\nok\n1 1\nok\n2 0\nno\n",
		"order 0 1\nsend 0\ndeliver 0\nsave 0\norder 0 0\ncrash 0\npost 0\n":         "ok\nok\nok\nok\nok\nok\n1 1\n",
		strings.Repeat("send 0\n", 12):                                               strings.Repeat("ok\n", 10) + "error limit\nerror limit\n",
		strings.Repeat("send 1\n", 10) + "copy 0\ndeliver 0\ncopy 0\ncopy 9\npost 1": strings.Repeat("ok\n", 10) + "error limit\nok\nerror limit\nok\n0 0\n",
	} {
		wantScript(t, c, text, want)
	}
}

// centreLine draws a line of a script, and mostly one that does something.
func (d *draw) centreLine(c impl.Centre, crowd int) string {
	switch d.below(10) {
	case 0:
		return "agreed"
	case 1, 2:
		return "post " + strconv.Itoa(d.below(len(c.First)+1))
	case 3:
		return []string{"", "hello", "order 0", "save 0 0", "post", "post 01", "agreed ", "send 1000"}[d.below(8)]
	}
	return impl.DeedText(d.deed(c, crowd))
}

// answerOf returns what the model answers to a line.
func (m *modelBoard) answerOf(line string) string {
	names := map[int64]string{impl.OK: "ok", impl.ErrRange: "error range", impl.ErrLimit: "error limit"}
	words := strings.Split(line, " ")
	switch {
	case deedPattern.MatchString(line):
		d := impl.Deed{}
		for kind, word := range deedTexts {
			if word == words[0] {
				d.Kind = kind
			}
		}
		d.A, _ = strconv.ParseInt(words[1], 10, 64)
		if len(words) > 2 {
			d.B, _ = strconv.ParseInt(words[2], 10, 64)
		}
		return names[m.do(d)]
	case line == "agreed" && m.agreed():
		return "yes"
	case line == "agreed":
		return "no"
	case len(words) == 2 && words[0] == "post" && len(words[1]) == 1:
		post := int64(words[1][0]) - '0'
		if m.has(post) {
			p := m.at(post, follows(m.met[post]))
			return strconv.FormatInt(p.Plan, 10) + " " + strconv.FormatInt(p.Version, 10)
		}
	}
	return "what"
}

func TestScriptsAreThoseOfTheModel(t *testing.T) {
	d, answered := &draw{520}, map[string]int{}
	for range 2000 {
		c := d.centre()
		m, crowd := newModelBoard(c), d.below(6)
		var lines []string
		var want strings.Builder
		for range d.below(121) {
			line := d.centreLine(c, crowd)
			lines = append(lines, line)
			answer := m.answerOf(line)
			want.WriteString(answer + "\n")
			answered[answer]++
		}
		text := strings.Join(lines, "\n")
		// Without a newline behind it an empty line at the end would be none.
		if len(lines) > 0 && (lines[len(lines)-1] == "" || d.below(2) == 0) {
			text += "\n"
		}
		wantScript(t, c, text, want.String())
		if t.Failed() {
			t.Fatalf("%v", c)
		}
	}
	for _, answer := range []string{"ok", "error range", "error limit", "yes", "no", "what", "0 0", "1 2"} {
		if answered[answer] < 50 {
			t.Errorf("%q was answered only %d times", answer, answered[answer])
		}
	}
}

// TestScriptsAreDeeds does the deeds of a script at once as well.
func TestScriptsAreDeeds(t *testing.T) {
	d := &draw{521}
	for range 500 {
		c := d.centre()
		deeds := d.deeds(c, d.below(100))
		var text, want strings.Builder
		for _, x := range deeds {
			text.WriteString(impl.DeedText(x) + "\n")
		}
		for post := range c.First {
			p, _ := impl.PostAfter(c, deeds, int64(post))
			text.WriteString("post " + strconv.Itoa(post) + "\n")
			want.WriteString(strconv.FormatInt(p.Plan, 10) + " " + strconv.FormatInt(p.Version, 10) + "\n")
		}
		_, done, _ := impl.BoardAfter(c, deeds)
		out, code := impl.RunScript(c, text.String())
		if !strings.HasSuffix(out, want.String()) || strings.Count(out, "ok\n") != int(done) || code != impl.OK {
			t.Fatalf("%v: %q answers %q, %d, want %q behind %d deeds that are done", c, text.String(), out, code, want.String(), done)
		}
	}
}

func TestLongScripts(t *testing.T) {
	c := impl.Centre{Plans: 2, First: []int64{1}}
	for _, last := range []string{"", "\n"} {
		text := strings.Repeat("agreed\n", 119) + "post 0" + last
		wantScript(t, c, text, strings.Repeat("yes\n", 119)+"1 0\n")
		text = strings.Repeat("agreed\n", 120) + "post 0" + last
		if out, code := impl.RunScript(c, text); out != "" || code != impl.ErrRange {
			t.Errorf("121 lines: %q, %d", out, code)
		}
	}
	wantScript(t, c, strings.Repeat("\n", 120), strings.Repeat("what\n", 120))
	wantScript(t, c, strings.Repeat("x", 8000), "what\n")
	wantScript(t, c, strings.Repeat("x", 7999)+"\n", "what\n")
	for _, text := range []string{strings.Repeat("\n", 121), strings.Repeat("x", 8001), strings.Repeat("x", 8000) + "\n",
		strings.Repeat("agreed\n", 1200), strings.Repeat("\n", 1000000), strings.Repeat("order 0 1\n", 100000), strings.Repeat(" ", 1000000)} {
		if out, code := impl.RunScript(c, text); out != "" || code != impl.ErrRange {
			t.Errorf("%d bytes: %q, %d", len(text), out, code)
		}
		if out, code := impl.RunScript(impl.Centre{}, text); out != "" || code != impl.ErrInvalid {
			t.Errorf("%d bytes without a centre: %q, %d", len(text), out, code)
		}
	}
}
