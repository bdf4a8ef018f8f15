package pairs_test

import (
	"slices"
	"testing"

	"pandect/api"
	"pandect/pairs"
	"pandect/sample"
)

// wantNames asks for the names of two types with their parts up to one of them, and for what Names tells then.
func wantNames(t *testing.T, a, b, stop string, ok bool, want ...string) {
	t.Helper()
	var got []string
	told := pairs.Names(sample.Type(a), sample.Type(b), func(name string, x, y *api.Shape) bool {
		got = append(got, name+" "+key(x)+" "+key(y))
		return name != stop
	})
	if told != ok || !slices.Equal(got, want) {
		t.Errorf("%s, %s up to %s: %v, %q", a, b, stop, told, got)
	}
}

// key is the text of a part, - if there is none.
func key(s *api.Shape) string {
	if s == nil {
		return "-"
	}
	return sample.Key(*s)
}

// TestNames: all names come once, those of the first type first.
func TestNames(t *testing.T) {
	i, b, x := "1 /()", "2 /()", "3 /()"
	wantNames(t, "{}", "{}", "", true)
	wantNames(t, "{c: Int, a: Bool}", "{b: Text, a: Int}", "", true, "c "+i+" -", "a "+b+" "+i, "b - "+x)
	wantNames(t, "<c: Int | a: Bool>", "<b: Text | a: Int>", "c", false, "c "+i+" -")
	wantNames(t, "<c: Int | a: Bool>", "<b: Text | a: Int>", "a", false, "c "+i+" -", "a "+b+" "+i)
	wantNames(t, "{c: Int}", "{b: Text, a: Int}", "b", false, "c "+i+" -", "b - "+x)
}

// wantPlaces asks for the parts of two types up to one of the first, and for what Places tells then.
func wantPlaces(t *testing.T, a, b, stop string, ok bool, want ...string) {
	t.Helper()
	var got []string
	told := pairs.Places(sample.Type(a), sample.Type(b), func(x, y api.Shape, last bool) bool {
		text := sample.Key(x) + " " + sample.Key(y)
		if last {
			text += " last"
		}
		got = append(got, text)
		return sample.Key(x) != stop
	})
	if told != ok || !slices.Equal(got, want) {
		t.Errorf("%s, %s up to %s: %v, %q", a, b, stop, told, got)
	}
}

// TestPlaces: parts come place by place, none of types that have not as many, or are not of the same name.
func TestPlaces(t *testing.T) {
	i, b, x := "1 /()", "2 /()", "3 /()"
	wantPlaces(t, "Int", "Int", "", true)
	wantPlaces(t, "[Int]", "[Text]", "", true, i+" "+x+" last")
	wantPlaces(t, "(Int, Bool) -> Text", "(Bool, Int) -> Int", "", true, i+" "+b, b+" "+i, x+" "+i+" last")
	wantPlaces(t, "(Int, Bool) -> Text", "(Bool, Int) -> Int", b, false, i+" "+b, b+" "+i)
	wantPlaces(t, "(Int, Bool) -> Text", "(Bool, Int) -> Int", x, false, i+" "+b, b+" "+i, x+" "+i+" last")
	wantPlaces(t, "(Int) -> Text", "() -> Text", "", false)
	wantPlaces(t, "own/K", "own/K", "", true)
	wantPlaces(t, "K", "L", "", false)
	wantPlaces(t, "q/K", "p/K", "", false)
}
