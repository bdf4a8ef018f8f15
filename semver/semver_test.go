package semver_test

import (
	"math"
	"math/big"
	"regexp"
	"slices"
	"strings"
	"testing"

	"pandect/api"
	"pandect/semver"
)

// form is the text of a version that may be, but for the length of Pre: numbers without a 0 ahead, parts of digits or with another byte.
var form = regexp.MustCompile(`^(0|[1-9][0-9]{0,5})\.(0|[1-9][0-9]{0,5})\.(0|[1-9][0-9]{0,5})(?:-((?:0|[1-9][0-9]*|[0-9]*[A-Za-z-][0-9A-Za-z-]*)(?:\.(?:0|[1-9][0-9]*|[0-9]*[A-Za-z-][0-9A-Za-z-]*))*))?$`)

// rising are texts of versions that may be, each below the next one.
var rising = []string{
	"0.0.0-0", "0.0.0-1", "0.0.0--", "0.0.0-a", "0.0.0",
	"0.0.1-0", "0.0.1", "0.0.2", "0.0.9", "0.0.10-z", "0.0.10", "0.0.99", "0.0.100", "0.0.999999",
	"0.1.0-0.0", "0.1.0", "0.1.1", "0.2.0", "0.9.999999", "0.10.0", "0.999999.999999",
	"1.0.0-0", "1.0.0-0.0", "1.0.0-0.0.0", "1.0.0-0.1", "1.0.0-0.-", "1.0.0-0.a",
	"1.0.0-1", "1.0.0-2", "1.0.0-2.999", "1.0.0-2.a", "1.0.0-3", "1.0.0-9", "1.0.0-10", "1.0.0-10.0", "1.0.0-99", "1.0.0-100",
	"1.0.0-9223372036854775807", "1.0.0-9223372036854775808", "1.0.0-18446744073709551615", "1.0.0-18446744073709551616",
	"1.0.0-99999999999999999999999", "1.0.0-100000000000000000000000", "1.0.0-999999999999999999999999",
	"1.0.0--", "1.0.0--.0", "1.0.0--.-", "1.0.0---", "1.0.0--0", "1.0.0--1", "1.0.0--a", "1.0.0-0-", "1.0.0-00-", "1.0.0-01a", "1.0.0-0a", "1.0.0-10a", "1.0.0-1a", "1.0.0-2a", "1.0.0-9a",
	"1.0.0-A", "1.0.0-A.9", "1.0.0-A.10", "1.0.0-A-", "1.0.0-A0", "1.0.0-AA", "1.0.0-Aa", "1.0.0-B", "1.0.0-Z",
	"1.0.0-a", "1.0.0-a.0", "1.0.0-a.1", "1.0.0-a.1.0", "1.0.0-a.2", "1.0.0-a.10", "1.0.0-a.a", "1.0.0-a.a.a", "1.0.0-a.b", "1.0.0-a-", "1.0.0-a-b", "1.0.0-a0", "1.0.0-a10", "1.0.0-a2", "1.0.0-aA", "1.0.0-aa",
	"1.0.0-alpha", "1.0.0-alpha.1", "1.0.0-alpha.beta", "1.0.0-beta", "1.0.0-beta.2", "1.0.0-beta.11", "1.0.0-rc.1", "1.0.0-z", "1.0.0-zzzzzzzzzzzzzzzzzzzzzzzz", "1.0.0",
	"1.0.1-a", "1.0.1", "1.2.0-rc.1", "1.2.0", "1.2.3", "1.2.10", "1.10.0", "1.999999.0",
	"2.0.0-0", "2.0.0", "9.9.9", "10.0.0-a.b.c", "10.0.0", "10.9.0", "10.10.0", "99999.0.0", "100000.0.0", "999999.0.0", "999999.999999.999999-z", "999999.999999.999999",
}

// strange are Pres of which some may not be, in groups that rise; those of one group are the same by Cmp.
var strange = [][]string{
	{"0", "00", "000", strings.Repeat("0", 100)},
	{"0.0", "00.00"},
	{"1", "01", "0000000001"},
	{"1.0", "01.0", "1.00", "0001.00"},
	{"1.0."},
	{"1."},
	{"1..0", "01..00"},
	{"2", "02"},
	{"10", "0010"},
	{"99999999999999999999999999"},
	{"100000000000000000000000000", "00100000000000000000000000000"},
	{strings.Repeat("9", 1000), "0" + strings.Repeat("9", 1000)},
	{"1" + strings.Repeat("0", 1000), "01" + strings.Repeat("0", 1000)},
	{".0", ".00"},
	{"."},
	{".."},
	{".a"},
	{"\x00"},
	{" 1"},
	{"+1"},
	{"-"},
	{"-1"},
	{"-1.5", "-1.05"},
	{"00a"},
	{"0_0"},
	{"0a"},
	{"1 "},
	{"1e1"},
	{"a"},
	{"a.0", "a.00"},
	{"a.12345678901234567890123456789012345678901234567890", "a.012345678901234567890123456789012345678901234567890"},
	{"a."},
	{"a..a"},
	{"a._"},
	{"a\n"},
	{strings.Repeat("a", 25)},
	{strings.Repeat("a", 1000)},
	{"é"},
	{"٣"},
	{"\xff"},
	{""},
}

// strangeCores are cores of which some may not be, rising.
func strangeCores() []api.Version {
	var l []api.Version
	numbers := []int{math.MinInt, math.MinInt32 - 1, -1, 0, 1, 10, 999999, 1000000, math.MaxInt32 + 1, math.MaxInt}
	for _, major := range numbers {
		for _, minor := range numbers {
			for _, patch := range numbers {
				l = append(l, api.Version{Major: major, Minor: minor, Patch: patch})
			}
		}
	}
	return l
}

// mustParse reads a version that may be.
func mustParse(t *testing.T, s string) api.Version {
	t.Helper()
	v, err := semver.Parse(s)
	if err != api.OK {
		t.Fatalf("Parse(%q): error %d", s, int(err))
	}
	return v
}

// parsed reads versions that may be.
func parsed(t *testing.T, texts []string) []api.Version {
	t.Helper()
	var l []api.Version
	for _, s := range texts {
		l = append(l, mustParse(t, s))
	}
	return l
}

// pre is a version with that Pre.
func pre(s string) api.Version { return api.Version{Major: 1, Pre: s} }

// sign is -1, 0 or 1.
func sign(n int) int {
	switch {
	case n < 0:
		return -1
	case n > 0:
		return 1
	}
	return 0
}

// modelParts compares parts as P4.2 words it, by whole lists of parts and by numbers of any length.
func modelParts(a, b string) int {
	if a == "" || b == "" {
		return sign(len(b) - len(a))
	}
	l, m := strings.Split(a, "."), strings.Split(b, ".")
	digits := regexp.MustCompile(`^[0-9]+$`)
	for i := range min(len(l), len(m)) {
		x, y := digits.MatchString(l[i]), digits.MatchString(m[i])
		order := strings.Compare(l[i], m[i])
		if x && y {
			p, _ := new(big.Int).SetString(l[i], 10)
			q, _ := new(big.Int).SetString(m[i], 10)
			order = p.Cmp(q)
		} else if x {
			order = -1
		} else if y {
			order = 1
		}
		if order != 0 {
			return order
		}
	}
	return sign(len(l) - len(m))
}

// everyText calls visit with each text of up to most of these bytes.
func everyText(alphabet string, most int, visit func(string)) {
	visit("")
	if most == 0 {
		return
	}
	for i := range len(alphabet) {
		everyText(alphabet, most-1, func(rest string) { visit(alphabet[i:i+1] + rest) })
	}
}

// wantParsed asks whether Parse tells what the form of texts says.
func wantParsed(t *testing.T, s string) {
	t.Helper()
	v, err := semver.Parse(s)
	m := form.FindStringSubmatch(s)
	if m == nil || len(m[4]) > 24 {
		if err != api.ErrVersion || v != (api.Version{}) {
			t.Errorf("Parse(%q) = %v, error %d, want ErrVersion", s, v, int(err))
		}
		return
	}
	want := api.Version{Major: whole(m[1]), Minor: whole(m[2]), Patch: whole(m[3]), Pre: m[4]}
	if err != api.OK || v != want {
		t.Errorf("Parse(%q) = %v, error %d, want %v", s, v, int(err), want)
	}
}

// whole is the number of digits.
func whole(digits string) int {
	n := 0
	for i := range len(digits) {
		n = 10*n + int(digits[i]-'0')
	}
	return n
}

func wantCmp(t *testing.T, a, b api.Version, want int) {
	t.Helper()
	if got := semver.Cmp(a, b); got != want {
		t.Errorf("Cmp(%v, %v) = %d, want %d", a, b, got, want)
	}
	if got := semver.Cmp(b, a); got != -want {
		t.Errorf("Cmp(%v, %v) = %d, want %d", b, a, got, -want)
	}
}

// wantMayBe asks whether Check and Show say the same of a version, and Show the text.
func wantMayBe(t *testing.T, v api.Version, text string) {
	t.Helper()
	if err := semver.Check(v); err != api.OK {
		t.Errorf("Check(%v): error %d", v, int(err))
	}
	if s, err := semver.Show(v); err != api.OK || s != text {
		t.Errorf("Show(%v) = %q, error %d, want %q", v, s, int(err), text)
	}
}

func wantMayNotBe(t *testing.T, v api.Version) {
	t.Helper()
	if err := semver.Check(v); err != api.ErrVersion {
		t.Errorf("Check(%v): error %d", v, int(err))
	}
	if s, err := semver.Show(v); err != api.ErrVersion || s != "" {
		t.Errorf("Show(%v) = %q, error %d", v, s, int(err))
	}
}

// TestExamples: the examples of the chapter.
func TestExamples(t *testing.T) {
	if v := mustParse(t, "1.2.3-rc.1"); v != (api.Version{Major: 1, Minor: 2, Patch: 3, Pre: "rc.1"}) {
		t.Error(v)
	}
	for _, s := range []string{"1.2", "01.2.3", "1.2.3-", "1.2.3-01"} {
		if v, err := semver.Parse(s); err != api.ErrVersion || v != (api.Version{}) {
			t.Errorf("Parse(%q) = %v, error %d", s, v, int(err))
		}
	}
	l := parsed(t, []string{"1.0.0-2", "1.0.0-10", "1.0.0-a", "1.0.0-a.1", "1.0.0"})
	for i := range len(l) - 1 {
		wantCmp(t, l[i], l[i+1], -1)
	}
}

// TestCheckNumbers: P4.1, the edges of each number.
func TestCheckNumbers(t *testing.T) {
	wantMayBe(t, api.Version{}, "0.0.0")
	wantMayBe(t, api.Version{Major: 999999, Minor: 999999, Patch: 999999}, "999999.999999.999999")
	wantMayBe(t, api.Version{Major: 1, Minor: 20, Patch: 300}, "1.20.300")
	wantMayBe(t, api.Version{Major: 100000, Minor: 7, Pre: "x"}, "100000.7.0-x")
	for _, n := range []int{-1, -2, -999999, 1000000, 1000001, 9999999, math.MinInt, math.MinInt32, math.MaxInt32, math.MaxInt, 1 << 32, 1<<32 + 1, -1 << 32} {
		for _, p := range []string{"", "a"} {
			wantMayNotBe(t, api.Version{Major: n, Pre: p})
			wantMayNotBe(t, api.Version{Minor: n, Pre: p})
			wantMayNotBe(t, api.Version{Patch: n, Pre: p})
			wantMayNotBe(t, api.Version{Major: n, Minor: n, Patch: n, Pre: p})
		}
	}
}

// TestCheckBytes: P4.1, each byte alone, as a part, and at each place in one.
func TestCheckBytes(t *testing.T) {
	for b := range 256 {
		one := string([]byte{byte(b)})
		if strings.Contains("0123456789ABCDEFGHIJKLMNOPQRSTUVWXYZabcdefghijklmnopqrstuvwxyz-", one) {
			for _, p := range []string{one, one + "a", "a" + one, "-" + one + "-", "a." + one, one + ".a", "a." + one + ".a"} {
				wantMayBe(t, pre(p), "1.0.0-"+p)
			}
			continue
		}
		for _, p := range []string{one, one + "1", "1" + one, "a." + one, one + ".a", "a" + one + ".b", "a." + one + "b"} {
			wantMayNotBe(t, pre(p))
		}
		if one != "." {
			wantMayNotBe(t, pre("a"+one+"b"))
			wantMayNotBe(t, pre("1"+one+"0"))
		}
	}
}

// TestCheckParts: P4.1, parts that are empty, that begin with 0, and the length of them all.
func TestCheckParts(t *testing.T) {
	for _, p := range []string{"0", "0.0.0", "10", "1.20.300", "0a", "00a", "01-", "0-1", "a01", "-01", "-", "---", "-.-", "a-b.c-d", "1.0a.2", "9999999999999999999999", strings.Repeat("9", 24), strings.Repeat("a", 24), strings.Repeat("0", 23) + "a", strings.Repeat("a.", 11) + "ab", "1" + strings.Repeat("0", 23)} {
		wantMayBe(t, pre(p), "1.0.0-"+p)
	}
	for _, p := range []string{".", "..", ".a", "a.", "a..b", ".1", "1.", "00", "01", "0.00", "00.0", "a.01", "01.a", "a.00.b", "000000000", "09", "a.b.c.", "-.", ".-", "1.2.03", strings.Repeat("0", 24), strings.Repeat("9", 25), strings.Repeat("a", 25), strings.Repeat("a.", 12) + "a", strings.Repeat("a.", 12), strings.Repeat("a", 1000), "é", "٣", "a b", " a", "a ", "a+b", "a_b", "a\n", "a\x00", "\xff"} {
		wantMayNotBe(t, pre(p))
	}
}

// TestParseRight: P4.1, texts of versions that may be.
func TestParseRight(t *testing.T) {
	for s, want := range map[string]api.Version{
		"0.0.0":                {},
		"1.2.3":                {Major: 1, Minor: 2, Patch: 3},
		"10.20.30":             {Major: 10, Minor: 20, Patch: 30},
		"999999.999999.999999": {Major: 999999, Minor: 999999, Patch: 999999},
		"0.0.0-0":              {Pre: "0"},
		"1.2.3-a.b.c":          {Major: 1, Minor: 2, Patch: 3, Pre: "a.b.c"},
		"1.2.3-1.2.3":          {Major: 1, Minor: 2, Patch: 3, Pre: "1.2.3"},
		"1.2.3--":              {Major: 1, Minor: 2, Patch: 3, Pre: "-"},
		"1.2.3-a-b-c":          {Major: 1, Minor: 2, Patch: 3, Pre: "a-b-c"},
		"1.2.3-0a.-01.Z9":      {Major: 1, Minor: 2, Patch: 3, Pre: "0a.-01.Z9"},
		"999999.999999.999999-zzzzzzzzzzzzzzzzzzzzzzzz": {Major: 999999, Minor: 999999, Patch: 999999, Pre: "zzzzzzzzzzzzzzzzzzzzzzzz"},
	} {
		if v, err := semver.Parse(s); v != want || err != api.OK {
			t.Errorf("Parse(%q) = %v, error %d, want %v", s, v, int(err), want)
		}
	}
}

// TestParseWrong: P4.1, texts of no version that may be.
func TestParseWrong(t *testing.T) {
	for _, s := range []string{
		"", ".", "..", "...", "-", "--", "a", "1", "1.", "1.2", "1.2.", ".1.2", "1..2", "1.2.3.", ".1.2.3", "1.2.3.4", "1.2.3.4-a", "1.2-a", "1-a", "-a", "1.2.-a", "..-a", "1.2-3", "1.2-3.4", "1-2.3.4",
		"01.2.3", "1.02.3", "1.2.03", "00.0.0", "0.0.00", "000001.0.0", "-1.2.3", "1.-2.3", "1.2.-3", "-0.0.0", "+1.2.3", "1.+2.3", "1.2.+3", "0x1.2.3", "1e1.0.0", "1_0.0.0", "0b1.0.0", "0o7.0.0",
		"1000000.0.0", "0.1000000.0", "0.0.1000000", "9999999.0.0", "4294967296.0.0", "0.4294967297.0", "9223372036854775808.0.0", "0.18446744073709551616.0", "0.0.18446744073709551617", strings.Repeat("9", 1000) + ".0.0", strings.Repeat("0", 1000) + "1.0.0",
		" 1.2.3", "1.2.3 ", "1. 2.3", "1 .2.3", "1.2.3\n", "\n1.2.3", "1.2.3\x00", "\x001.2.3", "1,2,3", "v1.2.3", "V1.2.3", "=1.2.3", "1.2.x", "a.b.c", "1.2.3a", "1.2.3+a", "1.2.3-a+b", "1.2.3+", "*", "^1.2.3", "１.2.3", "1.2.٣", "\xff.2.3",
		"1.2.3-", "1.2.3-.", "1.2.3-a.", "1.2.3-.a", "1.2.3-a..b", "1.2.3-01", "1.2.3-00", "1.2.3-a.01", "1.2.3-01.a", "1.2.3-a_b", "1.2.3-a b", "1.2.3- a", "1.2.3 -a", "1.2.3-a ", "1.2.3-é", "1.2.3-\xff", "1.2.3-a\n", "1.2.3-a\x00", "1.2.3-~",
		"1.2.3-" + strings.Repeat("a", 25), "1.2.3-" + strings.Repeat("1", 25), "1.2.3-" + strings.Repeat("a.", 12) + "a", "1.2.3-" + strings.Repeat("a", 100000), strings.Repeat("1.", 100000) + "1", strings.Repeat("-", 100000),
	} {
		if v, err := semver.Parse(s); err != api.ErrVersion || v != (api.Version{}) {
			t.Errorf("Parse(%.40q) = %v, error %d", s, semver.Core(v), int(err))
		}
	}
}

// TestParseAll: P4.1, all short texts of some bytes, alone, as what stands behind a core, and around one, against the form of texts.
func TestParseAll(t *testing.T) {
	everyText("019.-aZ+", 6, func(s string) { wantParsed(t, s) })
	everyText("019.-aZ_\n", 4, func(s string) {
		wantParsed(t, "1.2.3"+s)
		wantParsed(t, "1.2.3-"+s)
		wantParsed(t, s+"1.2.3")
		wantParsed(t, s+"2.3-a.0")
		wantParsed(t, "1."+s+"3")
		wantParsed(t, "1.2.3-a"+s+".0")
	})
}

// TestParseLengths: P4.1, the lengths of numbers and of Pre.
func TestParseLengths(t *testing.T) {
	for n := range 40 {
		for _, digit := range []string{"0", "1", "9"} {
			number := strings.Repeat(digit, n)
			wantParsed(t, number+".0.0")
			wantParsed(t, "0."+number+".0")
			wantParsed(t, "0.0."+number)
			wantParsed(t, "0.0.0-"+number)
			wantParsed(t, "0.0.0-a."+number)
		}
		wantParsed(t, "0.0.0-"+strings.Repeat("a", n))
		wantParsed(t, "0.0.0-"+strings.Repeat("a.", n)+"a")
		wantParsed(t, "0.0.0-0"+strings.Repeat("-", n))
	}
}

// TestCmpRising: P4.2, each of versions that rise against each.
func TestCmpRising(t *testing.T) {
	l := parsed(t, rising)
	for i := range l {
		for k := range l {
			if got := semver.Cmp(l[i], l[k]); got != sign(i-k) {
				t.Errorf("Cmp(%s, %s) = %d, want %d", rising[i], rising[k], got, sign(i-k))
			}
		}
	}
}

// TestCmpStrange: P4.2 is of any versions: of such Pres, and of such numbers.
func TestCmpStrange(t *testing.T) {
	for i, l := range strange {
		for k, m := range strange {
			for _, a := range l {
				for _, b := range m {
					wantCmp(t, pre(a), pre(b), sign(i-k))
					wantCmp(t, api.Version{Major: math.MinInt, Pre: a}, api.Version{Major: math.MinInt, Pre: b}, sign(i-k))
					wantCmp(t, api.Version{Pre: a}, api.Version{Patch: 1, Pre: b}, -1)
				}
			}
		}
	}
	cores := strangeCores()
	for i, a := range cores {
		for k, b := range cores {
			if got := semver.Cmp(a, b); got != sign(i-k) {
				t.Fatalf("Cmp(%v, %v) = %d, want %d", a, b, got, sign(i-k))
			}
		}
	}
	// The numbers come ahead of Pre, however Pre is.
	for i := range len(cores) - 1 {
		low, high := cores[i], cores[i+1]
		high.Pre = "0"
		wantCmp(t, low, high, -1)
		low.Pre = "z"
		wantCmp(t, low, high, -1)
	}
}

// TestCmpAll: P4.2, all pairs of short Pres of some bytes, against the words of the chapter.
func TestCmpAll(t *testing.T) {
	var pres []string
	everyText("019.-a", 3, func(s string) { pres = append(pres, s) })
	for _, a := range pres {
		for _, b := range pres {
			if got, want := semver.Cmp(pre(a), pre(b)), modelParts(a, b); got != want {
				t.Fatalf("Cmp of %q and %q: %d, want %d", a, b, got, want)
			}
		}
	}
}

// TestCmpLong: P4.2 and rule 1, parts and numbers as long as may come in.
func TestCmpLong(t *testing.T) {
	const n = 1 << 20
	nines, zeros, parts := strings.Repeat("9", n), strings.Repeat("0", n), strings.Repeat("a.", n)
	for i, c := range []struct {
		a, b string
		want int
	}{
		{nines, "1" + zeros, -1},
		{zeros + "2", "1", 1},
		{zeros + "1", "1", 0},
		{zeros, "0", 0},
		{zeros + "a", nines, 1},
		{parts + "1", parts + "2", -1},
		{parts + "a", parts + "a.a", -1},
		{parts + "01", parts + "1", 0},
	} {
		// The texts are too long to be told.
		if got, back := semver.Cmp(pre(c.a), pre(c.b)), semver.Cmp(pre(c.b), pre(c.a)); got != c.want || back != -c.want {
			t.Errorf("pair %d: %d, turned round %d, want %d", i, got, back, c.want)
		}
	}
}

// TestCore: P4.3, of any version.
func TestCore(t *testing.T) {
	for _, core := range strangeCores() {
		for _, l := range strange {
			v := core
			v.Pre = l[0]
			if got := semver.Core(v); got != core {
				t.Fatalf("Core(%v) = %v", v, got)
			}
		}
	}
}

// TestHighestOfNone: P4.3, no versions.
func TestHighestOfNone(t *testing.T) {
	if v, ok := semver.Highest(); v != (api.Version{}) || ok {
		t.Error(v, ok)
	}
	if v, ok := semver.Highest([]api.Version{}...); v != (api.Version{}) || ok {
		t.Error(v, ok)
	}
}

func wantHighest(t *testing.T, want api.Version, l ...api.Version) {
	t.Helper()
	if v, ok := semver.Highest(l...); v != want || !ok {
		t.Errorf("Highest(%v) = %v, %t, want %v", l, v, ok, want)
	}
}

// TestHighest: P4.3, the highest one wherever it stands, also of versions that may not be.
func TestHighest(t *testing.T) {
	l := parsed(t, rising)
	for i, v := range l {
		wantHighest(t, v, v)
		wantHighest(t, v, l[:i+1]...)
		turned := slices.Clone(l[:i+1])
		slices.Reverse(turned)
		wantHighest(t, v, turned...)
		wantHighest(t, v, slices.Concat(l[i/2:i+1], l[:i/2])...)
		wantHighest(t, v, v, v, l[i/2], v)
	}
	wantHighest(t, api.Version{}, api.Version{})
	wantHighest(t, api.Version{Major: -1}, api.Version{Major: -2}, api.Version{Major: math.MinInt}, api.Version{Major: -1}, api.Version{Major: -1, Minor: -1})
	wantHighest(t, api.Version{Major: math.MaxInt}, api.Version{Major: math.MinInt}, api.Version{Major: math.MaxInt}, api.Version{})
	wantHighest(t, pre("."), pre("0"), pre("."), pre("99"))
}

// TestHighestFirst: P4.3, of several that none is above the first one.
func TestHighestFirst(t *testing.T) {
	wantHighest(t, pre("01"), pre("01"), pre("1"), pre("001"))
	wantHighest(t, pre("1"), pre("0"), pre("1"), pre("01"))
	wantHighest(t, pre("001"), pre("00"), pre("001"), pre("01"), pre("0"), pre("1"))
	wantHighest(t, pre("a.00"), pre("a"), pre("99"), pre("a.00"), pre("a.0"))
}

// TestBack: P4.4, Parse and Show undo each other.
func TestBack(t *testing.T) {
	for _, s := range rising {
		if back, err := semver.Show(mustParse(t, s)); back != s || err != api.OK {
			t.Errorf("%s comes back as %q, error %d", s, back, int(err))
		}
	}
	numbers := []int{0, 1, 9, 10, 99, 100, 12345, 99999, 100000, 999999}
	pres := []string{"", "0", "10", "a", "-", "0-", "a.0.b", "1.2.3", "rc-1", strings.Repeat("9", 24), strings.Repeat("-", 24)}
	for i, major := range numbers {
		for k, minor := range numbers {
			for m, patch := range numbers {
				v := api.Version{Major: major, Minor: minor, Patch: patch, Pre: pres[(i+3*k+7*m)%len(pres)]}
				s, err := semver.Show(v)
				if err != api.OK {
					t.Fatalf("Show(%v): error %d", v, int(err))
				}
				if back := mustParse(t, s); back != v {
					t.Fatalf("%v comes back as %v", v, back)
				}
			}
		}
	}
}

// TestOrder: P4.5, of versions that may be: turned round, through a third one, and the same just by itself.
func TestOrder(t *testing.T) {
	var l []api.Version
	everyText("01.-a", 3, func(s string) {
		if v := pre(s); semver.Check(v) == api.OK {
			l = append(l, v)
		}
	})
	l = append(l, api.Version{}, api.Version{Patch: 1, Pre: "a"}, api.Version{Minor: 1}, api.Version{Major: 999999}, api.Version{Major: 1, Patch: 1, Pre: "0"})
	for _, a := range l {
		for _, b := range l {
			order := semver.Cmp(a, b)
			if order != -semver.Cmp(b, a) || (order == 0) != (a == b) {
				t.Fatalf("Cmp(%v, %v) = %d, turned round %d", a, b, order, semver.Cmp(b, a))
			}
			for _, c := range l {
				if order < 0 && semver.Cmp(b, c) < 0 && semver.Cmp(a, c) >= 0 {
					t.Fatalf("%v, %v, %v do not rise", a, b, c)
				}
			}
		}
	}
}

// TestPre: P4.6, a version with Pre stands between its Core and all below that.
func TestPre(t *testing.T) {
	l := parsed(t, rising)
	for _, v := range l {
		if v.Pre == "" {
			continue
		}
		wantCmp(t, v, semver.Core(v), -1)
		for _, w := range l {
			if semver.Cmp(semver.Core(w), semver.Core(v)) < 0 {
				wantCmp(t, v, w, 1)
			}
		}
	}
}

// TestNothingIsChanged: rule 4, what is handed in is neither changed nor kept, its spare room neither.
func TestNothingIsChanged(t *testing.T) {
	in := append(make([]api.Version, 0, 4), pre("a"), pre("b"), pre("z"))
	before := slices.Clone(in)
	v, _ := semver.Highest(in[:2]...)
	if !slices.Equal(in, before) || v != pre("b") {
		t.Error(in, v)
	}
	in[1] = api.Version{}
	if v != pre("b") {
		t.Error(v)
	}
}
