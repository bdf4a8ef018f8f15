package ranges_test

import (
	"math"
	"regexp"
	"slices"
	"strings"
	"testing"

	"pandect/api"
	"pandect/ranges"
	"pandect/semver"
)

// form is the text of one bound that may be, but for the length of Pre.
var form = regexp.MustCompile(`^(<=|>=|<|=|>)((0|[1-9][0-9]{0,5})\.(0|[1-9][0-9]{0,5})\.(0|[1-9][0-9]{0,5})(-(0|[1-9][0-9]*|[0-9]*[A-Za-z-][0-9A-Za-z-]*)(\.(0|[1-9][0-9]*|[0-9]*[A-Za-z-][0-9A-Za-z-]*))*)?)$`)

// ops are the signs with what they stand for.
var ops = map[string]int{"<": api.Below, "<=": api.Most, "=": api.Just, ">=": api.Least, ">": api.Above}

// rising are texts of versions that may be, each below the next one.
var rising = []string{"0.0.0-0", "0.0.0-a", "0.0.0", "0.0.1", "0.2.0-0", "0.2.0", "0.2.3", "0.3.0-rc.1", "0.3.0", "0.999999.0", "0.999999.999999", "1.0.0-0", "1.0.0-2", "1.0.0-10", "1.0.0-a", "1.0.0", "1.0.1", "1.2.3-a", "1.2.3", "1.3.0", "1.10.0", "1.999999.999999", "2.0.0-0", "2.0.0-a", "2.0.0", "2.0.1", "9.0.0", "10.0.0", "999998.0.0", "999998.999999.999999", "999999.0.0-a", "999999.0.0", "999999.0.1", "999999.999999.999999"}

// strangeOps are Ops of no bound.
var strangeOps = []int{0, 6, 7, -1, -2, -5, 9, 255, 256, 257, 261, math.MinInt, math.MaxInt, math.MinInt32, math.MaxInt32, 1<<32 + 1, 1<<32 + 5, -1 << 32}

// strangeVersions may not be.
var strangeVersions = []api.Version{
	{Major: -1}, {Minor: -1}, {Patch: -1}, {Major: 1000000}, {Minor: 1000000}, {Patch: 1000000},
	{Major: math.MinInt}, {Major: math.MaxInt}, {Minor: math.MaxInt}, {Patch: math.MaxInt}, {Major: 1, Minor: math.MaxInt}, {Major: -1, Minor: 1, Patch: 1}, {Major: 1, Minor: -1}, {Minor: 1000000, Pre: "a"},
	{Major: 1, Pre: "01"}, {Major: 1, Pre: "."}, {Major: 1, Pre: "a."}, {Major: 1, Pre: "a b"}, {Major: 1, Pre: "a_"}, {Major: 1, Pre: "é"}, {Major: 1, Pre: "\xff"}, {Major: 1, Pre: strings.Repeat("a", 25)}, {Pre: "00"},
}

func version(t *testing.T, s string) api.Version {
	t.Helper()
	v, err := semver.Parse(s)
	if err != api.OK {
		t.Fatalf("version %q: error %d", s, int(err))
	}
	return v
}

// bounds are the bounds of some texts, read by this test's own means.
func bounds(t *testing.T, texts ...string) []api.Bound {
	t.Helper()
	var l []api.Bound
	for _, s := range texts {
		m := form.FindStringSubmatch(s)
		if m == nil {
			t.Fatalf("%q is no bound", s)
		}
		l = append(l, api.Bound{Op: ops[m[1]], V: version(t, m[2])})
	}
	return l
}

// of are the bounds of a text with blanks between.
func of(t *testing.T, s string) []api.Bound {
	t.Helper()
	if s == "*" {
		return nil
	}
	return bounds(t, strings.Split(s, " ")...)
}

func wantParsed(t *testing.T, s string, want []api.Bound) {
	t.Helper()
	if l, err := ranges.Parse(s); err != api.OK || !slices.Equal(l, want) {
		t.Errorf("Parse(%.80q) = %v, error %d, want %v", s, l, int(err), want)
	}
}

func wantNoRange(t *testing.T, s string) {
	t.Helper()
	if l, err := ranges.Parse(s); err != api.ErrRange || len(l) != 0 {
		t.Errorf("Parse(%.80q) = %d bounds, error %d, want ErrRange", s, len(l), int(err))
	}
}

func wantMayNotBe(t *testing.T, l []api.Bound) {
	t.Helper()
	if err := ranges.Check(l); err != api.ErrRange {
		t.Errorf("Check(%v): error %d", l, int(err))
	}
	if s, err := ranges.Show(l); err != api.ErrRange || s != "" {
		t.Errorf("Show(%v) = %q, error %d", l, s, int(err))
	}
}

// wantMayBe asks all that P5.1 and P5.4 say of a range that may be.
func wantMayBe(t *testing.T, l []api.Bound, text string) {
	t.Helper()
	if err := ranges.Check(l); err != api.OK {
		t.Errorf("Check(%v): error %d", l, int(err))
	}
	if s, err := ranges.Show(l); err != api.OK || s != text {
		t.Errorf("Show(%v) = %q, error %d, want %q", l, s, int(err), text)
	}
	wantParsed(t, text, l)
}

// modelMeets tells it by the words of the chapter, of an order.
func modelMeets(order, op int) bool {
	orders := map[int][]int{api.Below: {-1}, api.Most: {-1, 0}, api.Just: {0}, api.Least: {0, 1}, api.Above: {1}}
	return slices.Contains(orders[op], order)
}

// modelEnd is the bound that P5.3 takes of those that have one of some Ops: that with the extreme version, an Op ahead of the others.
func modelEnd(all []api.Bound, which []int, extreme, ahead int) (api.Bound, bool) {
	var l []api.Bound
	for _, b := range all {
		if slices.Contains(which, b.Op) {
			l = append(l, b)
		}
	}
	l = slices.DeleteFunc(slices.Clone(l), func(b api.Bound) bool {
		return slices.ContainsFunc(l, func(c api.Bound) bool { return semver.Cmp(c.V, b.V) == extreme })
	})
	if len(l) == 0 {
		return api.Bound{}, false
	}
	if i := slices.IndexFunc(l, func(b api.Bound) bool { return b.Op == ahead }); i >= 0 {
		return l[i], true
	}
	return l[0], true
}

// modelNormal is P5.3 word by word.
func modelNormal(all ...[]api.Bound) []api.Bound {
	none := api.Bound{Op: 1, V: api.Version{Pre: "0"}}
	l := slices.Concat(all...)
	for i := range l {
		if l[i].Op < 1 || l[i].Op > 5 {
			l[i] = none
		}
	}
	lower, isLower := modelEnd(l, []int{4, 5, 3}, 1, 5)
	upper, isUpper := modelEnd(l, []int{1, 2, 3}, -1, 1)
	if lower.Op == 3 {
		lower.Op = 4
	}
	if upper.Op == 3 {
		upper.Op = 2
	}
	var answer []api.Bound
	if isLower {
		answer = append(answer, lower)
	}
	if isUpper {
		answer = append(answer, upper)
	}
	if isLower && isUpper {
		order := semver.Cmp(lower.V, upper.V)
		closed := lower.Op == 4 && upper.Op == 2
		if order > 0 || order == 0 && !closed {
			return []api.Bound{none}
		}
		if order == 0 && closed {
			return []api.Bound{{Op: 3, V: lower.V}}
		}
	}
	return answer
}

func wantNormal(t *testing.T, want []api.Bound, all ...[]api.Bound) {
	t.Helper()
	if got := ranges.Normal(all...); !slices.Equal(got, want) {
		t.Fatalf("Normal(%v) = %v, want %v", all, got, want)
	}
}

// everyList calls visit with each list of up to most of these bounds.
func everyList(of []api.Bound, most int, visit func([]api.Bound)) {
	visit(nil)
	if most == 0 {
		return
	}
	for _, b := range of {
		everyList(of, most-1, func(rest []api.Bound) { visit(append([]api.Bound{b}, rest...)) })
	}
}

// TestExamples: the examples of the chapter.
func TestExamples(t *testing.T) {
	wantParsed(t, ">=1.0.0 <2.0.0", []api.Bound{{Op: api.Least, V: api.Version{Major: 1}}, {Op: api.Below, V: api.Version{Major: 2}}})
	wantParsed(t, "^1.2.3", bounds(t, ">=1.2.3", "<2.0.0"))
	wantParsed(t, "^0.2.3", bounds(t, ">=0.2.3", "<0.3.0"))
	wantParsed(t, "*", nil)
	wantNormal(t, bounds(t, ">=1.2.0", "<3.0.0"), bounds(t, ">=1.0.0", ">=1.2.0", "<3.0.0"))
	wantNormal(t, bounds(t, "<0.0.0-0"), bounds(t, "=1.0.0"), bounds(t, ">1.0.0"))
}

// TestMayBe: P5.1 and P5.4, ranges that may be, their texts, and back.
func TestMayBe(t *testing.T) {
	wantMayBe(t, nil, "*")
	wantMayBe(t, []api.Bound{}, "*")
	for sign, op := range ops {
		for _, s := range rising {
			wantMayBe(t, []api.Bound{{Op: op, V: version(t, s)}}, sign+s)
			for other, its := range ops {
				wantMayBe(t, []api.Bound{{Op: op, V: version(t, s)}, {Op: its, V: version(t, "1.2.3-a.b")}}, sign+s+" "+other+"1.2.3-a.b")
			}
		}
	}
	wantMayBe(t, []api.Bound{{Op: api.Just}, {Op: api.Just}, {Op: api.Just}}, "=0.0.0 =0.0.0 =0.0.0")
	wantMayBe(t, []api.Bound{{Op: api.Above, V: version(t, "9.0.0")}, {Op: api.Below, V: version(t, "1.0.0")}}, ">9.0.0 <1.0.0")
	wantMayBe(t, []api.Bound{{Op: api.Below, V: api.Version{Pre: strings.Repeat("-", 24)}}}, "<0.0.0-"+strings.Repeat("-", 24))
}

// TestLengths: P5.1, at most MaxTerm bounds.
func TestLengths(t *testing.T) {
	for n := 1; n <= 45; n++ {
		l := make([]api.Bound, n)
		for i := range l {
			l[i] = api.Bound{Op: 1 + i%5, V: api.Version{Major: 1, Patch: i}}
		}
		var texts []string
		for _, b := range l {
			s, _ := semver.Show(b.V)
			texts = append(texts, []string{"", "<", "<=", "=", ">=", ">"}[b.Op]+s)
		}
		text := strings.Join(texts, " ")
		if n <= 20 {
			wantMayBe(t, l, text)
			continue
		}
		wantMayNotBe(t, l)
		wantNoRange(t, text)
	}
}

// TestMayNotBe: P5.1, each place of a range with a bound that may not be.
func TestMayNotBe(t *testing.T) {
	var wrong []api.Bound
	for _, op := range strangeOps {
		wrong = append(wrong, api.Bound{Op: op, V: api.Version{Major: 1}})
	}
	for _, v := range strangeVersions {
		for op := 0; op <= 6; op++ {
			wrong = append(wrong, api.Bound{Op: op, V: v})
		}
	}
	for _, b := range wrong {
		wantMayNotBe(t, []api.Bound{b})
		for n := 2; n <= 21; n++ {
			for i := range n {
				l := slices.Repeat([]api.Bound{{Op: api.Just}}, n)
				l[i] = b
				wantMayNotBe(t, l)
			}
		}
	}
}

// TestParseWrong: P5.1, texts of no range that may be.
func TestParseWrong(t *testing.T) {
	for _, s := range []string{
		"", " ", "  ", "**", "* *", " *", "* ", "*\n", "1.0.0", "0.0.0", "=", "<", ">=", "^", "~1.0.0", "!1.0.0", "==1.0.0", "=<1.0.0", "=>1.0.0", "<>1.0.0", "<<1.0.0", ">>1.0.0", "<=>1.0.0", ">==1.0.0", "<==1.0.0", "!=1.0.0", "≤1.0.0",
		"> 1.0.0", ">= 1.0.0", "> =1.0.0", "^ 1.0.0", ">=1.0.0 <", ">=1.0.0 2.0.0", "1.0.0 <2.0.0", ">=1.0.0  <2.0.0", " >=1.0.0", ">=1.0.0 ", ">=1.0.0\t<2.0.0", ">=1.0.0\n<2.0.0", ">=1.0.0\n", ">=1.0.0,<2.0.0", ">=1.0.0<2.0.0", ">=1.0.0 || <2.0.0", ">=1.0.0\u00a0<2.0.0",
		">=1.0.0 *", "* >=1.0.0", "=*", "^*", "*1.0.0", "<1", "<1.0", "<01.0.0", "<1.0.0-", "<1.0.0-01", "<1.0.0-a..b", "<1000000.0.0", "<-1.0.0", "<+1.0.0", "<1.0.0.0", "<v1.0.0", "<1.0.0-" + strings.Repeat("a", 25),
		"^1", "^1.0", "^01.0.0", "^1.0.0-", "^1.0.0-01", "^1000000.0.0", "^^1.0.0", "^=1.0.0", "^>=1.0.0", "=^1.0.0", "1.0.0^", "^1.0.0 ", "^1.0.0 <1.5.0", "<1.5.0 ^1.0.0", "^1.0.0 ^1.0.0", "^1.0.0 *", "* ^1.0.0",
		"\x00", "<1.0.0\x00", "\xff<1.0.0", "<1.0.0 \xff",
	} {
		wantNoRange(t, s)
	}
}

// TestParseAll: P5.1 and P5.4, all short texts of some pieces against the form of a bound.
func TestParseAll(t *testing.T) {
	pieces := []string{"<", "=", ">", "^", "*", " ", "1.0.0", "0.2.0", "-a", "0", "999999.9"}
	everyPiece(pieces, 5, func(s string) {
		if s == "*" {
			wantParsed(t, s, nil)
			return
		}
		if v, err := semver.Parse(strings.TrimPrefix(s, "^")); err == api.OK && strings.HasPrefix(s, "^") {
			wantParsed(t, s, ranges.Near(v))
			return
		}
		var want []api.Bound
		for _, text := range strings.Split(s, " ") {
			m := form.FindStringSubmatch(text)
			if m == nil {
				wantNoRange(t, s)
				return
			}
			want = append(want, api.Bound{Op: ops[m[1]], V: version(t, m[2])})
		}
		wantMayBe(t, want, s)
	})
}

// everyPiece calls visit with each text of up to most of these pieces.
func everyPiece(pieces []string, most int, visit func(string)) {
	visit("")
	if most == 0 {
		return
	}
	for _, p := range pieces {
		everyPiece(pieces, most-1, func(rest string) { visit(p + rest) })
	}
}

// TestParseBytes: P5.1, each byte put into a text, or in the place of one.
func TestParseBytes(t *testing.T) {
	const text = ">=1.0.0 <2.0.0"
	for b := range 256 {
		one := string([]byte{byte(b)})
		for i := range len(text) + 1 {
			wantAsForm(t, text[:i]+one+text[i:])
			if i < len(text) {
				wantAsForm(t, text[:i]+one+text[i+1:])
				wantAsForm(t, text[:i]+text[i+1:])
			}
		}
	}
}

// wantAsForm asks whether Parse takes just the texts whose pieces have the form of bounds.
func wantAsForm(t *testing.T, s string) {
	t.Helper()
	right := true
	for _, text := range strings.Split(s, " ") {
		right = right && form.MatchString(text)
	}
	if !right {
		wantNoRange(t, s)
		return
	}
	wantParsed(t, s, of(t, s))
}

// TestParseLong: P5.1 and rule 1, texts as long as may come in.
func TestParseLong(t *testing.T) {
	const n = 1 << 20
	for _, s := range []string{"<", "=", ">=", "^", "*", " ", "=1.0.0 ", "1.", "-", "9", "\xff"} {
		long := strings.Repeat(s, n)
		for _, text := range []string{long, ">=1.0.0 " + long, "^" + long, ">=" + long, long + ">=1.0.0", "=1.0.0-" + long} {
			wantNoRange(t, text)
		}
	}
}

// TestMeets: P5.2, each of versions that rise against each bound, and any Op.
func TestMeets(t *testing.T) {
	for i, s := range rising {
		for k, r := range rising {
			for _, op := range append([]int{1, 2, 3, 4, 5}, strangeOps...) {
				want := modelMeets(min(1, max(-1, i-k)), op)
				if got := ranges.Meets(version(t, s), []api.Bound{{Op: op, V: version(t, r)}}); got != want {
					t.Errorf("does %s meet %d %s: %v", s, op, r, got)
				}
			}
		}
	}
}

// TestMeetsStrange: P5.2 is of any versions, and of ranges that may not be.
func TestMeetsStrange(t *testing.T) {
	all := slices.Clone(strangeVersions)
	all = append(all, api.Version{}, api.Version{Major: 1}, api.Version{Major: 1, Pre: "1"}, api.Version{Major: 1, Pre: "001"})
	for _, v := range all {
		for _, w := range all {
			for _, op := range append([]int{1, 2, 3, 4, 5}, strangeOps...) {
				want := modelMeets(semver.Cmp(v, w), op)
				if got := ranges.Meets(v, []api.Bound{{Op: op, V: w}}); got != want {
					t.Errorf("does %v meet %d %v: %v", v, op, w, got)
				}
			}
		}
		if !ranges.Meets(v, nil) || !ranges.Meets(v, []api.Bound{}) {
			t.Errorf("%v does not meet the range without bounds", v)
		}
	}
	one := api.Version{Major: 1}
	if !ranges.Meets(one, slices.Repeat([]api.Bound{{Op: api.Just, V: one}}, 21)) || ranges.Meets(one, append(slices.Repeat([]api.Bound{{Op: api.Just, V: one}}, 1000), api.Bound{Op: api.Above, V: one})) {
		t.Error("of more than MaxTerm bounds")
	}
}

// TestMeetsAll: P5.2, a range is met if all its bounds are.
func TestMeetsAll(t *testing.T) {
	var some []api.Bound
	for _, op := range []int{0, 1, 2, 3, 4, 5, 6} {
		for _, s := range []string{"1.0.0", "1.2.3", "2.0.0"} {
			some = append(some, api.Bound{Op: op, V: version(t, s)})
		}
	}
	everyList(some, 3, func(l []api.Bound) {
		for _, s := range []string{"0.2.0", "1.0.0", "1.0.1", "1.2.3", "1.3.0", "2.0.0", "9.0.0"} {
			v, want := version(t, s), true
			for _, b := range l {
				want = want && ranges.Meets(v, []api.Bound{b})
			}
			if got := ranges.Meets(v, l); got != want {
				t.Fatalf("does %s meet %v: %v", s, l, got)
			}
		}
	})
}

// TestNear: P5.2, the next version that may break things.
func TestNear(t *testing.T) {
	for s, want := range map[string]string{
		"1.2.3": ">=1.2.3 <2.0.0", "1.0.0": ">=1.0.0 <2.0.0", "1.2.3-rc.1": ">=1.2.3-rc.1 <2.0.0", "9.9.9": ">=9.9.9 <10.0.0", "1.999999.999999": ">=1.999999.999999 <2.0.0", "999998.999999.999999": ">=999998.999999.999999 <999999.0.0", "999998.0.0-0": ">=999998.0.0-0 <999999.0.0",
		"0.2.3": ">=0.2.3 <0.3.0", "0.0.0": ">=0.0.0 <0.1.0", "0.0.3": ">=0.0.3 <0.1.0", "0.0.0-0": ">=0.0.0-0 <0.1.0", "0.9.0": ">=0.9.0 <0.10.0", "0.2.0-a": ">=0.2.0-a <0.3.0", "0.999998.999999": ">=0.999998.999999 <0.999999.0",
		"999999.0.0": "=999999.0.0", "999999.999999.999999-a": "=999999.999999.999999-a", "999999.2.0": "=999999.2.0", "0.999999.0": "=0.999999.0", "0.999999.999999": "=0.999999.999999", "0.999999.1-a.b": "=0.999999.1-a.b",
	} {
		if got := ranges.Near(version(t, s)); !slices.Equal(got, of(t, want)) {
			t.Errorf("Near(%s) = %v, want %s", s, got, want)
		}
		wantParsed(t, "^"+s, of(t, want))
	}
	for _, v := range strangeVersions {
		if got := ranges.Near(v); !slices.Equal(got, []api.Bound{{Op: api.Just, V: v}}) {
			t.Errorf("Near(%v) = %v", v, got)
		}
	}
}

// TestNearMeets: P5.6, what of a Major above 0 is near to a version, and what is not.
func TestNearMeets(t *testing.T) {
	for i, s := range rising {
		v := version(t, s)
		near := ranges.Near(v)
		if len(near) == 1 {
			// Of these P5.2 says that they are near to themselves alone.
			near = nil
			for _, r := range rising {
				if w := version(t, r); ranges.Meets(w, ranges.Near(v)) != (w == v) {
					t.Errorf("does %s meet Near of %s", r, s)
				}
			}
		}
		for k, r := range rising {
			w := version(t, r)
			if near != nil && v.Major > 0 && w.Major == v.Major && ranges.Meets(w, near) != (k >= i) {
				t.Errorf("does %s meet Near of %s", r, s)
			}
			if near != nil && (k < i || w.Major > v.Major && w.Pre == "" || v.Major == 0 && w.Minor > v.Minor && w.Pre == "") && ranges.Meets(w, near) {
				t.Errorf("%s meets Near of %s", r, s)
			}
			if near != nil && v.Major == 0 && w.Major == 0 && w.Minor == v.Minor && k >= i && !ranges.Meets(w, near) {
				t.Errorf("%s does not meet Near of %s", r, s)
			}
		}
	}
	// The release that is being readied for the next one stands below it.
	if !ranges.Meets(version(t, "2.0.0-0"), ranges.Near(version(t, "1.2.3"))) {
		t.Error("2.0.0-0 does not meet Near of 1.2.3")
	}
}

// TestNormal: P5.3, some ranges with what they come to.
func TestNormal(t *testing.T) {
	for s, want := range map[string]string{
		"*": "*", ">=1.0.0": ">=1.0.0", ">1.0.0": ">1.0.0", "<1.0.0": "<1.0.0", "<=1.0.0": "<=1.0.0", "=1.0.0": "=1.0.0",
		">=1.0.0 <2.0.0": ">=1.0.0 <2.0.0", "<2.0.0 >=1.0.0": ">=1.0.0 <2.0.0", ">1.0.0 <=2.0.0": ">1.0.0 <=2.0.0", "<=2.0.0 >1.0.0": ">1.0.0 <=2.0.0",
		">=1.0.0 >1.0.0": ">1.0.0", ">1.0.0 >=1.0.0": ">1.0.0", "<1.0.0 <=1.0.0": "<1.0.0", "<=1.0.0 <1.0.0": "<1.0.0", ">=1.0.0 >=1.0.1 >1.0.0": ">=1.0.1", "<=2.0.0 <2.0.1 <=9.0.0": "<=2.0.0",
		"=1.0.0 =1.0.0": "=1.0.0", "=1.0.0 =1.0.1": "<0.0.0-0", ">=1.0.0 <=1.0.0": "=1.0.0", ">=1.0.0 <1.0.0": "<0.0.0-0", ">1.0.0 <=1.0.0": "<0.0.0-0", ">1.0.0 <1.0.0": "<0.0.0-0", "=1.0.0 <1.0.0": "<0.0.0-0", "=1.0.0 >1.0.0": "<0.0.0-0", "=1.0.0 >=1.0.0": "=1.0.0", "=1.0.0 <=1.0.0": "=1.0.0", "=1.0.0 >0.2.0 <2.0.0": "=1.0.0", "=1.0.0 >=2.0.0": "<0.0.0-0", "=1.0.0 <=0.2.0": "<0.0.0-0",
		">1.0.0 <1.0.1-0": ">1.0.0 <1.0.1-0", ">2.0.0 <1.0.0": "<0.0.0-0", "<0.0.0-0": "<0.0.0-0", "<=0.0.0-0": "<=0.0.0-0", ">=0.0.0-0": ">=0.0.0-0", ">=0.0.0-0 <=0.0.0-0": "=0.0.0-0", ">999999.999999.999999": ">999999.999999.999999",
	} {
		wantNormal(t, of(t, want), of(t, s))
		var each [][]api.Bound
		for _, b := range of(t, s) {
			each = append(each, []api.Bound{b}, nil)
		}
		wantNormal(t, of(t, want), each...)
	}
	wantNormal(t, nil)
	wantNormal(t, nil, nil)
	wantNormal(t, nil, nil, []api.Bound{}, nil)
}

// TestNormalStrangeOps: P5.3, a bound of another Op counts as one that no version that may be meets.
func TestNormalStrangeOps(t *testing.T) {
	for _, op := range strangeOps {
		for _, v := range append([]api.Version{{}, {Major: 1}}, strangeVersions...) {
			strange := []api.Bound{{Op: op, V: v}}
			wantNormal(t, of(t, "<0.0.0-0"), strange)
			wantNormal(t, of(t, "<0.0.0-0"), strange, of(t, ">=1.0.0 <2.0.0"))
			wantNormal(t, of(t, "<0.0.0-0"), of(t, ">=0.0.0-0"), strange)
			wantNormal(t, of(t, "<0.0.0-0"), of(t, "=0.0.0-0"), strange)
			wantNormal(t, of(t, "<0.0.0-0"), of(t, "<=0.0.0-0"), strange)
		}
	}
	below := api.Version{Minor: -1}
	wantNormal(t, []api.Bound{{Op: api.Least, V: below}, {Op: api.Below, V: api.Version{Pre: "0"}}}, []api.Bound{{Op: 9}, {Op: api.Least, V: below}})
	wantNormal(t, []api.Bound{{Op: api.Most, V: below}}, []api.Bound{{Op: 9}, {Op: api.Most, V: below}})
}

// TestNormalAll: P5.3 and P5.5, all short ranges of some bounds, also of versions that may not be and are the same by Cmp, against the words of the chapter.
func TestNormalAll(t *testing.T) {
	var some []api.Bound
	for op := 0; op <= 6; op++ {
		for _, v := range []api.Version{{Pre: "0"}, {Pre: "00"}, {Major: 1, Pre: "1"}, {Major: 1, Pre: "01"}, {Major: 1, Pre: "001"}, {Major: -1}} {
			some = append(some, api.Bound{Op: op, V: v})
		}
	}
	everyList(some, 3, func(l []api.Bound) {
		want := modelNormal(l)
		for i := range len(l) + 1 {
			wantNormal(t, want, l[:i], l[i:])
		}
		wantNormal(t, want, want)
	})
}

// TestNormalMeets: P5.5, who meets Normal, Normal of Normal, and ranges in any order.
func TestNormalMeets(t *testing.T) {
	var some []api.Bound
	var asked []api.Version
	for _, s := range []string{"0.0.0-0", "1.0.0", "1.2.3"} {
		for op := 0; op <= 5; op++ {
			some = append(some, api.Bound{Op: op, V: version(t, s)})
		}
	}
	for _, s := range rising {
		asked = append(asked, version(t, s))
	}
	everyList(some, 4, func(l []api.Bound) {
		n := ranges.Normal(l)
		for _, v := range asked {
			if ranges.Meets(v, n) != ranges.Meets(v, l) {
				t.Fatalf("does %v meet %v and its Normal %v", v, l, n)
			}
		}
		wantNormal(t, n, n)
		back := slices.Clone(l)
		slices.Reverse(back)
		wantNormal(t, n, back)
		if len(l) > 2 {
			wantNormal(t, n, l[2:], nil, l[:2])
			wantNormal(t, n, l[1:2], l[2:], l[:1])
		}
		if ranges.Check(n) != api.OK {
			t.Fatalf("Normal of %v may not be: %v", l, n)
		}
	})
}

// TestNothingShared: rule 4, nothing handed in is changed, its spare room neither, and what is handed out is new.
func TestNothingShared(t *testing.T) {
	spare := of(t, ">=1.0.0 =1.5.0 <2.0.0 >9.0.0 <0.2.0")
	before := slices.Clone(spare)
	l := spare[:3]
	one := spare[:1]
	n := ranges.Normal(l, nil, l)
	ranges.Normal(one)
	ranges.Normal(nil, one)
	ranges.Meets(api.Version{}, l)
	ranges.Check(l)
	ranges.Show(l)
	if !slices.Equal(spare, before) {
		t.Error("what was handed in is changed:", spare)
	}
	for _, got := range [][]api.Bound{n, ranges.Normal(one), ranges.Normal(one, nil)} {
		for i := range got[:cap(got)] {
			got[:cap(got)][i] = api.Bound{Op: 77}
		}
	}
	if !slices.Equal(spare, before) {
		t.Error("what was handed out was also handed in:", spare)
	}
	for _, s := range []string{"=1.0.0", "^1.0.0", ">=1.0.0 <2.0.0", "*"} {
		first, _ := ranges.Parse(s)
		want := slices.Clone(first)
		for i := range first {
			first[i] = api.Bound{Op: 77}
		}
		wantParsed(t, s, want)
	}
	impossible := ranges.Normal(of(t, "=1.0.0 =2.0.0"))
	impossible[0] = api.Bound{Op: 77}
	wantNormal(t, of(t, "<0.0.0-0"), of(t, "=1.0.0 =2.0.0"))
}
