package tests

import (
	"math"
	"regexp"
	"strconv"
	"strings"
	"testing"

	"loop.example/g01227/impl"
)

const (
	wholePattern    = `(0|[1-9][0-9]{0,2})`
	fractionPattern = `(-?(?:0|[1-9][0-9]{0,5})(?:/(?:2|4|8|16|32|64|128|256|512|1024))?)`
)

// linePatterns has what each kind of line looks like.
var linePatterns = map[int64]*regexp.Regexp{
	0: regexp.MustCompile(`\Atimes ` + wholePattern + `\z`),
	1: regexp.MustCompile(`\Aoffer ` + wholePattern + ` ` + fractionPattern + `\z`),
	2: regexp.MustCompile(`\Ablock ` + wholePattern + ` ` + wholePattern + ` ` + fractionPattern + `\z`),
	3: regexp.MustCompile(`\Aplan ` + wholePattern + ` ` + wholePattern + `\z`),
	4: regexp.MustCompile(`\Afree ` + wholePattern + `\z`),
	5: regexp.MustCompile(`\Aturn ` + wholePattern + ` ` + wholePattern + ` ` + wholePattern + ` ` + fractionPattern + `\z`),
	6: regexp.MustCompile(`\Await ` + wholePattern + `\z`),
	7: regexp.MustCompile(`\Aend\z`),
}

func modelFraction(word string) float32 {
	over, under, cut := strings.Cut(word, "/")
	n, _ := strconv.ParseFloat(over, 64)
	if cut {
		parts, _ := strconv.ParseFloat(under, 64)
		n /= parts
	}
	if n == 0 {
		return 0
	}
	return float32(n)
}

// modelCompiler compiles a block by calling itself for the blocks in it.
type modelCompiler struct {
	lines []string
	acts  []impl.Act
	// The line and the code of the error, if there is one.
	line, code int64
}

func (m *modelCompiler) fail(line int, code int64) int {
	m.line, m.code = int64(line), code
	return -1
}

// block compiles the lines from one on, and returns the number of the end behind them, or -1 on an error.
func (m *modelCompiler) block(from, depth int) int {
	for at := from; ; at++ {
		if at == len(m.lines) {
			if depth > 0 {
				return m.fail(at, impl.ErrState)
			}
			return at
		}
		kind, words := m.match(m.lines[at])
		switch {
		case kind < 0:
			return m.fail(at, impl.ErrSyntax)
		case kind == 7 && depth == 0:
			return m.fail(at, impl.ErrState)
		case kind == 7:
			return at
		case kind == 0:
			if at = m.times(at, depth, words[1]); at < 0 {
				return -1
			}
		case len(m.acts) == 120:
			return m.fail(at, impl.ErrLimit)
		default:
			m.acts = append(m.acts, modelParse(kind, words[1:]))
		}
	}
}

func (m *modelCompiler) match(line string) (int64, []string) {
	for kind, pattern := range linePatterns {
		if words := pattern.FindStringSubmatch(line); words != nil {
			return kind, words
		}
	}
	return -1, nil
}

func (m *modelCompiler) times(at, depth int, word string) int {
	count, _ := strconv.Atoi(word)
	if count == 0 || count > 16 {
		return m.fail(at, impl.ErrRange)
	}
	if depth == 2 {
		return m.fail(at, impl.ErrLimit)
	}
	end := -1
	for range count {
		if end = m.block(at+1, depth+1); end < 0 {
			return -1
		}
	}
	return end
}

func modelParse(kind int64, words []string) impl.Act {
	a := impl.Act{Kind: kind}
	numbers := []*int64{&a.A, &a.B, &a.C}
	names := mentions[kind]
	for i, word := range words {
		if names[i] == 'F' {
			a.F = modelFraction(word)
		} else {
			*numbers[i], _ = strconv.ParseInt(word, 10, 64)
		}
	}
	return a
}

func modelCompile(text string) ([]impl.Act, int64, int64) {
	m := &modelCompiler{}
	if text != "" {
		m.lines = strings.Split(text, "\n")
		if strings.HasSuffix(text, "\n") {
			m.lines = m.lines[:len(m.lines)-1]
		}
	}
	if len(text) > 3000 || len(m.lines) > 120 {
		return nil, 0, impl.ErrRange
	}
	if m.block(0, 0) < 0 {
		return nil, m.line, m.code
	}
	return m.acts, 0, impl.OK
}

func sameActs(a, b []impl.Act) bool {
	n, m := &noter{}, &noter{}
	n.acts(a)
	m.acts(b)
	return n.text() == m.text()
}

func wantActs(t *testing.T, name string, got []impl.Act, line, code int64, want []impl.Act, wantLine, wantCode int64) {
	t.Helper()
	if !sameActs(got, want) || line != wantLine || code != wantCode {
		t.Errorf("%q: got %v, %d, %d, want %v, %d, %d", name, got, line, code, want, wantLine, wantCode)
	}
}

func wantCompiled(t *testing.T, text string) int64 {
	t.Helper()
	want, wantLine, wantCode := modelCompile(text)
	got, line, code := impl.CompileActs(text)
	wantActs(t, text, got, line, code, want, wantLine, wantCode)
	return code
}

// badLines are next to lines of the language, but none.
var badLines = []string{"", " ", "offer", "offer 0", "offer 0 ", "offer  0 1", " offer 0 1", "offer 0 1 ", "offer 0 1 1", "offer 00 1", "offer 01 1",
	"offer 1000 1", "offer -1 1", "offer +1 1", "offer -0 1", "offer 0 01", "offer 0 00", "offer 0 +1", "offer 0 --1", "offer 0 -", "offer 0 -01", "offer 0 1000000",
	"offer 0 -1000000", "offer 0 1/1", "offer 0 1/3", "offer 0 1/0", "offer 0 1/2048", "offer 0 1/02", "offer 0 1/-2", "offer 0 1/+2", "offer 0 1/", "offer 0 /2", "offer 0 1/2/2",
	"offer 0 1 /2", "offer 0 0.5", "offer 0 1e3", "offer 0 0x1", "offer 0 1_0", "offer 1_0 1", "offer 0\t1", "Offer 0 1", "offers 0 1", "block 0 1", "block 0 1 1 1", "block 0 1 x",
	"plan 0", "plan 0 1 2", "plan 0 x", "free", "free 0 0", "free x", "turn 0 0 0", "turn 0 0 1/2 1", "turn 0 0 0 1 1", "wait", "wait 1 1", "wait 1/2", "wait 1000",
	"times", "times ", "times 1 1", "times 00", "times 01", "times x", "times -1", "times 1000", "times 1/2", "end ", " end", "end 1", "ends", "END", "wait 1\r", "wait \xff",
	"offer 0 18446744073709551617", "wait 18446744073709551617", "wait ١", "joint", "-", "offer 0 1/18446744073709551618"}

func (d *draw) line() string {
	n := func() string { return strconv.Itoa(d.below(4)) }
	switch d.below(14) {
	case 0:
		return "block " + n() + " " + n() + " " + d.fractionWord()
	case 1:
		return "plan " + n() + " " + n()
	case 2:
		return "free " + n()
	case 3:
		return "turn " + n() + " " + n() + " " + n() + " " + d.fractionWord()
	case 4, 5:
		return "wait " + strconv.Itoa(d.below(1000))
	case 6, 7, 8:
		return "times " + strconv.Itoa(1+d.below(5))
	case 9, 10, 11:
		return "end"
	}
	return "offer " + n() + " " + d.fractionWord()
}

func (d *draw) fractionWord() string {
	word := strconv.Itoa(d.below([]int{2, 10, 1000, 1000000}[d.below(4)]))
	if d.below(3) == 0 {
		word = "-" + word
	}
	if d.below(2) == 0 {
		word += "/" + strconv.Itoa(2<<d.below(10))
	}
	return word
}

// script draws a text, most of whose times have an end.
func (d *draw) script() string {
	var lines []string
	open := 0
	for range d.below(20) {
		line := d.line()
		switch {
		case d.below(60) == 0:
			line = badLines[d.below(len(badLines))]
		case d.below(60) == 0:
			line = "times " + []string{"0", "16", "17", "999"}[d.below(4)]
		case line == "end" && open == 0 && d.below(10) > 0:
			line = "wait 1"
		case strings.HasPrefix(line, "times") && open == 2 && d.below(10) > 0:
			line = "wait 2"
		}
		if line == "end" {
			open--
		} else if strings.HasPrefix(line, "times") {
			open++
		}
		lines = append(lines, line)
	}
	for ; open > 0 && d.below(12) > 0; open-- {
		lines = append(lines, "end")
	}
	return strings.Join(lines, "\n") + []string{"", "\n"}[d.below(2)]
}

func TestCompiledActsAreThoseOfTheModel(t *testing.T) {
	d := &draw{440}
	var codes [9]int
	for range 20000 {
		codes[wantCompiled(t, d.script())]++
		if t.Failed() {
			t.FailNow()
		}
	}
	for _, code := range []int64{impl.OK, impl.ErrSyntax, impl.ErrRange, impl.ErrLimit, impl.ErrState} {
		if codes[code] < 50 {
			t.Errorf("the code %d comes %d times", code, codes[code])
		}
	}
}

func TestLinesThatAreNone(t *testing.T) {
	for _, bad := range badLines {
		for text, line := range map[string]int64{bad + "\n": 0, "wait 1\n" + bad + "\n": 1, "times 2\n" + bad + "\nend": 1, bad + "\nend": 0} {
			got, at, code := impl.CompileActs(text)
			wantActs(t, text, got, at, code, nil, line, impl.ErrSyntax)
		}
		wantCompiled(t, bad)
	}
}

func TestPlainTexts(t *testing.T) {
	one, two := impl.Act{Kind: impl.AcWait, A: 1}, impl.Act{Kind: impl.AcWait, A: 2}
	for text, want := range map[string][]impl.Act{
		"":                               nil,
		"wait 1":                         {one},
		"wait 1\n":                       {one},
		"wait 1\nwait 2":                 {one, two},
		"offer 3 1/8":                    {{Kind: impl.AcOffer, A: 3, F: 0.125}},
		"offer 999 -999999/1024":         {{Kind: impl.AcOffer, A: 999, F: -999999.0 / 1024}},
		"offer 0 -0":                     {{Kind: impl.AcOffer}},
		"offer 0 -0/1024":                {{Kind: impl.AcOffer}},
		"offer 0 8/2":                    {{Kind: impl.AcOffer, F: 4}},
		"block 1 15 1":                   {{Kind: impl.AcBlock, A: 1, B: 15, F: 1}},
		"plan 1 2":                       {{Kind: impl.AcPlan, A: 1, B: 2}},
		"free 3":                         {{Kind: impl.AcFree, A: 3}},
		"turn 1 2 3 3/4":                 {{Kind: impl.AcTurn, A: 1, B: 2, C: 3, F: 0.75}},
		"wait 999":                       {{Kind: impl.AcWait, A: 999}},
		"times 1\nwait 1\nend":           {one},
		"times 3\nwait 1\nend\nwait 2":   {one, one, one, two},
		"times 2\nend\nwait 1":           {one},
		"times 16\ntimes 16\nend\nend\n": nil,
		"times 2\nwait 1\nwait 2\nend\n": {one, two, one, two},
		"times 2\ntimes 1\nwait 2\nend\nend\ntimes 1\ntimes 2\nwait 1\nend\nend": {two, two, one, one},
		"times 2\nwait 1\ntimes 2\nwait 2\nend\nwait 1\nend":                     {one, two, two, one, one, two, two, one},
		"times 2\ntimes 2\nwait 1\nend\ntimes 2\nwait 2\nend\nend":               {one, one, two, two, one, one, two, two},
	} {
		got, line, code := impl.CompileActs(text)
		wantActs(t, text, got, line, code, want, 0, impl.OK)
		wantCompiled(t, text)
	}
}

func TestCompileActsRefuses(t *testing.T) {
	many := func(line string, count int) string { return strings.Repeat(line+"\n", count) }
	for name, c := range map[string]struct {
		text       string
		line, code int64
	}{
		"an empty line":                      {"\n", 0, impl.ErrSyntax},
		"an empty line at the end":           {"wait 1\n\n", 1, impl.ErrSyntax},
		"times 0":                            {"wait 1\ntimes 0\nend", 1, impl.ErrRange},
		"times 17":                           {"times 17\nwait 1\nend", 0, impl.ErrRange},
		"times 999":                          {"times 999", 0, impl.ErrRange},
		"a third times":                      {"times 1\ntimes 1\ntimes 1\nend\nend\nend", 2, impl.ErrLimit},
		"a third times with a wrong count":   {"times 1\ntimes 1\ntimes 0", 2, impl.ErrRange},
		"a third times that is none":         {"times 1\ntimes 1\ntimes x", 2, impl.ErrSyntax},
		"a third times behind another one":   {"times 1\ntimes 1\nend\ntimes 1\ntimes 1", 4, impl.ErrLimit},
		"an end":                             {"end", 0, impl.ErrState},
		"an end too many":                    {"times 2\nwait 1\nend\nend", 3, impl.ErrState},
		"an end is missing":                  {"times 2\nwait 1\n", 2, impl.ErrState},
		"an end of two is missing":           {"times 2\ntimes 2\nend", 3, impl.ErrState},
		"both ends are missing":              {"times 2\ntimes 2", 2, impl.ErrState},
		"many acts":                          {many("wait 1", 60) + "times 2\n" + many("wait 2", 31) + "end", 61 + 29, impl.ErrLimit},
		"many acts in a times":               {"times 16\n" + many("wait 1", 8) + "end\nwhat", 1, impl.ErrLimit},
		"an act of many, which is none":      {"times 16\n" + many("wait 1", 7) + "end\n" + many("wait 1", 8) + "wait", 17, impl.ErrSyntax},
		"one act more than may be":           {"times 15\n" + many("wait 1", 8) + "end\ntimes 2\nend\nwait 3\nwhat", 12, impl.ErrLimit},
		"a line that is none behind many":    {"times 15\n" + many("wait 1", 8) + "end\nwhat", 10, impl.ErrSyntax},
		"a later error in the first round":   {"times 2\nwait 1\ntimes 99\nend\nend", 2, impl.ErrRange},
		"the first error of two":             {"wait\nend", 0, impl.ErrSyntax},
		"an error ahead of one that is less": {"end\nwait", 0, impl.ErrState},
		"many lines":                         {many("free 0", 121), 0, impl.ErrRange},
		"many lines, none of the language":   {many("", 121), 0, impl.ErrRange},
		"many lines without the last end":    {strings.TrimSuffix(many("end", 121), "\n"), 0, impl.ErrRange},
		"many bytes":                         {strings.Repeat("x", 3001), 0, impl.ErrRange},
		"as many bytes as may be":            {strings.Repeat("x", 3000), 0, impl.ErrSyntax},
		"as many lines as may be":            {many("free 0", 119) + "free", 119, impl.ErrSyntax},
	} {
		got, line, code := impl.CompileActs(c.text)
		wantActs(t, name, got, line, code, nil, c.line, c.code)
		wantCompiled(t, c.text)
	}
	for _, text := range []string{many("free 0", 120), "times 15\n" + many("wait 1", 8) + "end\ntimes 1\nend"} {
		if code := wantCompiled(t, text); code != impl.OK {
			t.Errorf("%q: %d", text, code)
		}
	}
	full := many("turn 100 100 100 99999/1024", 106) + many("wait 10", 4)
	if len(full) != 3000 || wantCompiled(t, full) != impl.OK || wantCompiled(t, full+"\n") != impl.ErrRange {
		t.Errorf("a text of %d bytes", len(full))
	}
}

// modelActText looks for the least denominator in wide numbers.
func modelActText(a impl.Act) string {
	word := map[int64]string{1: "offer", 2: "block", 3: "plan", 4: "free", 5: "turn", 6: "wait"}[a.Kind]
	for i, name := range mentions[a.Kind] {
		if name != 'F' {
			word += " " + strconv.FormatInt([]int64{a.A, a.B, a.C}[i], 10)
			continue
		}
		under := 1.0
		for under < 2048 && float64(a.F)*under != math.Round(float64(a.F)*under) {
			under *= 2
		}
		over := float64(a.F) * under
		if under == 2048 || math.Abs(over) > 999999 {
			return ""
		}
		word += " " + strconv.FormatFloat(over, 'f', 0, 64)
		if under > 1 {
			word += "/" + strconv.FormatFloat(under, 'f', 0, 64)
		}
	}
	return word
}

func TestActTextIsThatOfTheModel(t *testing.T) {
	d, none, read := &draw{441}, 0, 0
	for range 20000 {
		a := impl.Act{Kind: 1 + int64(d.below(6)), A: int64(d.below(1000))}
		for _, name := range mentions[a.Kind] {
			set(&a, string(name), int64(d.below(1000)))
			if name == 'F' {
				a.F = []float32{d.fraction(), d.share(), modelFraction(d.fractionWord()), float32(d.below(3000000)) / 4, d.share() * -1e6}[d.below(5)] + 0
			}
		}
		if !impl.ValidAct(a) {
			t.Fatalf("%v is not valid", a)
		}
		got := impl.ActText(a)
		if want := modelActText(a); got != want {
			t.Fatalf("%v: got %q, want %q", a, got, want)
		}
		if got == "" {
			none++
			continue
		}
		read++
		back, line, code := impl.CompileActs(got)
		wantActs(t, got, back, line, code, []impl.Act{a}, 0, impl.OK)
	}
	if none < 500 || read < 5000 {
		t.Errorf("acts without a text %d, with one %d", none, read)
	}
}

func TestPlainActTexts(t *testing.T) {
	for want, a := range map[string]impl.Act{
		"offer 0 1/8":            {Kind: impl.AcOffer, F: 0.125},
		"offer 999 0":            {Kind: impl.AcOffer, A: 999},
		"offer 1 -3/2":           {Kind: impl.AcOffer, A: 1, F: -1.5},
		"offer 1 4":              {Kind: impl.AcOffer, A: 1, F: 4},
		"offer 1 999999":         {Kind: impl.AcOffer, A: 1, F: 999999},
		"offer 1 -999999":        {Kind: impl.AcOffer, A: 1, F: -999999},
		"offer 1 999999/2":       {Kind: impl.AcOffer, A: 1, F: 499999.5},
		"offer 1 1/1024":         {Kind: impl.AcOffer, A: 1, F: 1.0 / 1024},
		"offer 1 -999999/1024":   {Kind: impl.AcOffer, A: 1, F: -999999.0 / 1024},
		"block 7 15 1/2":         {Kind: impl.AcBlock, A: 7, B: 15, F: 0.5},
		"plan 1 2":               {Kind: impl.AcPlan, A: 1, B: 2},
		"free 0":                 {Kind: impl.AcFree},
		"turn 1 2 3 1023/1024":   {Kind: impl.AcTurn, A: 1, B: 2, C: 3, F: 1023.0 / 1024},
		"turn 999 999 999 1/512": {Kind: impl.AcTurn, A: 999, B: 999, C: 999, F: 1.0 / 512},
		"wait 120":               {Kind: impl.AcWait, A: 120},
	} {
		if got := impl.ActText(a); got != want {
			t.Errorf("got %q, want %q", got, want)
		}
	}
	for _, f := range []float32{1000000, -1000000, 500000.5, -500000.5, 1.0 / 2048, 0.1, smallest, -smallest, math.MaxFloat32, -math.MaxFloat32, 16777216, 976.5625 + 1.0/2048} {
		for _, kind := range []int64{impl.AcOffer, impl.AcBlock, impl.AcTurn} {
			if got := impl.ActText(impl.Act{Kind: kind, F: f}); got != "" {
				t.Errorf("%v has the text %q", f, got)
			}
		}
	}
	for _, bad := range badActs() {
		if got := impl.ActText(bad); got != "" {
			t.Errorf("%v has the text %q", bad, got)
		}
	}
}
