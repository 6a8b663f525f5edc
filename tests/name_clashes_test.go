package tests

import (
	"testing"

	"loop.example/atomicpush/impl"
)

// checkClashes fails if NameClashes gives another answer, in either order.
func checkClashes(t *testing.T, a string, b string, want bool) {
	t.Helper()
	if got := impl.NameClashes(a, b); got != want {
		t.Errorf("NameClashes(%.40q, %.40q) = %t", a, b, got)
	}
	if got := impl.NameClashes(b, a); got != want {
		t.Errorf("NameClashes(%.40q, %.40q) = %t", b, a, got)
	}
}

// eachNamePair calls check with many pairs of texts, and requires that enough of them clash, and that enough are names and do not.
func eachNamePair(t *testing.T, seed int, check func(a string, b string)) {
	t.Helper()
	short := wordsOf("a-/", 4)
	for _, a := range short {
		for _, b := range short {
			check(a, b)
		}
	}
	n := numbers(seed)
	yes, no := 0, 0
	for range 20000 {
		a, b := n.name(), n.name()
		switch n.below(4) {
		case 0:
			b = a + "/" + b
		case 1:
			b = a[:n.below(len(a)+1)]
		case 2:
			b = n.changedName(a)
		}
		if clashes(a, b) {
			yes++
		} else if named(a) && named(b) {
			no++
		}
		check(a, b)
	}
	if yes < 1500 || no < 5000 {
		t.Errorf("%d pairs clash, and %d do not", yes, no)
	}
}

func TestP62Clashes(t *testing.T) {
	for _, test := range []struct {
		a    string
		b    string
		want bool
	}{
		{"a", "a/b", true},
		{"a", "a/a", true},
		{"a", "a/b/c", true},
		{"a/b", "a/b/c", true},
		{"a/b", "a/b/c/d", true},
		{"a", "a/b/c/d/e/fg", true},
		{"a-b", "a-b/c", true},
		{"abcdefghij", "abcdefghij/k", true},
		{"a/b/c/d/e", "a/b/c/d/e/fg", true},
		{"a", "a", false},
		{"a/b", "a/b", false},
		{"abcdefghijkl", "abcdefghijkl", false},
		{"a", "b", false},
		{"a/b", "a/c", false},
		{"a", "b/a", false},
		{"b", "a/b", false},
		{"b", "a/b/c", false},
		{"b/c", "a/b/c", false},
		{"a/c", "a/b/c", false},
	} {
		checkClashes(t, test.a, test.b, test.want)
	}
}

// Names that begin with the same letters need not begin with the same parts.
func TestP62SameLetters(t *testing.T) {
	for _, test := range [][]string{
		{"a", "ab"}, {"a", "ab/c"}, {"a", "a-b"}, {"a", "a-b/c"}, {"a", "a0"}, {"ab", "a/b"}, {"ab", "abc/d"}, {"a/b", "a/bc"}, {"a/b", "a/bc/d"}, {"a/b", "a/b-c"}, {"a/b", "ab/c"}, {"a/bc", "a/b/c"}, {"abcdefghijk", "abcdefghijkl"},
	} {
		checkClashes(t, test[0], test[1], false)
	}
}

func TestP62FurtherPart(t *testing.T) {
	n := numbers(62)
	long := 0
	eachName(t, 162, func(s string) {
		for _, part := range []string{"a", "0", "a-b", n.name()} {
			longer := s + "/" + part
			checkClashes(t, s, longer, len(longer) <= 12)
			if len(longer) == 12 {
				long++
			}
		}
		checkClashes(t, s, s, false)
	})
	if long < 200 {
		t.Errorf("only %d names are as long as a name may be", long)
	}
}

func TestP62Symmetric(t *testing.T) {
	eachNamePair(t, 262, func(a string, b string) {
		checkClashes(t, a, b, clashes(a, b))
	})
}

// What is not a name does not clash, also where it begins like one.
func TestP62NotAName(t *testing.T) {
	for _, s := range notNames() {
		for _, other := range []string{"", "a", "a/b", "/", s, s + "/a", s + "/", "a/" + s, "a/b/" + s, "abcdefghijkl"} {
			checkClashes(t, s, other, false)
		}
	}
	checkClashes(t, "abcdefghijk", "abcdefghijk/l", false)
	checkClashes(t, "a", "a/bcdefghijkl", false)
}

func TestP63PartsOfTheLongerName(t *testing.T) {
	eachNamePair(t, 63, func(a string, b string) {
		if !impl.NameClashes(a, b) {
			return
		}
		shorter, longer := impl.NameParts(a), impl.NameParts(b)
		if len(a) > len(b) {
			shorter, longer = longer, shorter
		}
		if len(shorter) == 0 || len(shorter) >= len(longer) || !begins(longer, shorter) {
			t.Fatalf("NameClashes(%q, %q) holds", a, b)
		}
	})
}

func TestP64FirstParts(t *testing.T) {
	differ := 0
	eachNamePair(t, 64, func(a string, b string) {
		if named(a) && named(b) && parted(a)[0] != parted(b)[0] {
			differ++
			checkClashes(t, a, b, false)
		}
	})
	if differ < 3000 {
		t.Errorf("the first parts of only %d pairs differ", differ)
	}
	all := names()
	for _, a := range all {
		for _, b := range all {
			if parted(a)[0] != parted(b)[0] {
				checkClashes(t, a, b, false)
			}
		}
	}
}

func TestMemoryOfNameClashes(t *testing.T) {
	texts := []string{"", "a", "ab", "ab/cd", "ab/cd/ef", "ab//cd", "abcdefghijklm"}
	for _, a := range texts {
		for _, b := range texts {
			checkLent(t, "NameClashes", a, func(text string) []string {
				impl.NameClashes(text, b)
				return nil
			})
			checkLent(t, "NameClashes", b, func(text string) []string {
				impl.NameClashes(a, text)
				return nil
			})
		}
	}
}
