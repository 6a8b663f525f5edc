package tests

import (
	"slices"
	"strings"
	"testing"

	"loop.example/atomicpush/impl"
)

// checkName fails if NameValid does not tell whether a text is a name, or NameParts does not have its parts, or has any of what is not one.
func checkName(t *testing.T, s string, valid bool) {
	t.Helper()
	if got := impl.NameValid(s); got != valid {
		t.Errorf("NameValid(%.40q) = %t", s, got)
	}
	want := []string{}
	if valid {
		want = parted(s)
	}
	if got := impl.NameParts(s); !slices.Equal(got, want) {
		t.Errorf("NameParts(%.40q) = %q, not %q", s, got, want)
	}
}

func TestP55Parts(t *testing.T) {
	for _, test := range []struct {
		s     string
		parts []string
	}{
		{"a", []string{"a"}},
		{"7", []string{"7"}},
		{"main", []string{"main"}},
		{"az09", []string{"az09"}},
		{"a/b", []string{"a", "b"}},
		{"a/a", []string{"a", "a"}},
		{"a/b/c", []string{"a", "b", "c"}},
		{"0/1/2", []string{"0", "1", "2"}},
		{"a-1", []string{"a-1"}},
		{"1-a", []string{"1-a"}},
		{"a--b", []string{"a--b"}},
		{"a-b-c", []string{"a-b-c"}},
		{"a/b-1", []string{"a", "b-1"}},
		{"a-b/c-d/e-f", []string{"a-b", "c-d", "e-f"}},
		{"heads/main-2", []string{"heads", "main-2"}},
		{"a/b/c/d/e/f", []string{"a", "b", "c", "d", "e", "f"}},
		{"a/b/c/d/e/fg", []string{"a", "b", "c", "d", "e", "fg"}},
		{"ab/c/d/e/f/g", []string{"ab", "c", "d", "e", "f", "g"}},
		{"abcdefghijkl", []string{"abcdefghijkl"}},
		{"a----------b", []string{"a----------b"}},
	} {
		if got := impl.NameParts(test.s); !slices.Equal(got, test.parts) || !impl.NameValid(test.s) {
			t.Errorf("NameParts(%q) = %q, not %q", test.s, got, test.parts)
		}
	}
}

func TestP55JoinedParts(t *testing.T) {
	eachName(t, 55, func(s string) {
		parts := impl.NameParts(s)
		if strings.Join(parts, "/") != s || !impl.NameValid(s) {
			t.Fatalf("NameParts(%q) = %q", s, parts)
		}
		for _, part := range parts {
			if !impl.NameValid(part) || !slices.Equal(impl.NameParts(part), []string{part}) {
				t.Fatalf("the part %q of %q is not a name of one part", part, s)
			}
		}
	})
}

func TestP55NoParts(t *testing.T) {
	for _, s := range notNames() {
		checkName(t, s, false)
	}
}

func TestP56Appended(t *testing.T) {
	eachName(t, 56, func(s string) {
		for _, more := range []string{"/", "//", "-", "--", "/-", "-/", " ", "  ", "/ ", "\t", "\n", "A", "M", "Z", "/A"} {
			checkName(t, s+more, false)
			checkName(t, more+s, false)
		}
	})
}

func TestP56CapitalLetters(t *testing.T) {
	for capital := 'A'; capital <= 'Z'; capital++ {
		for _, s := range []string{"abc", "a/b", "a-b", "ab/cd/ef"} {
			for at := range len(s) + 1 {
				checkName(t, s[:at]+string(capital)+s[at:], false)
			}
		}
	}
	eachName(t, 156, func(s string) {
		for at := range s {
			if upper := s[:at] + strings.ToUpper(s[at:at+1]) + s[at+1:]; upper != s {
				checkName(t, upper, false)
			}
		}
	})
}

// An empty part stands at the beginning, in the middle and at the end.
func TestP56EmptyParts(t *testing.T) {
	eachName(t, 256, func(s string) {
		parts := parted(s)
		for at := range len(parts) + 1 {
			checkName(t, strings.Join(slices.Insert(slices.Clone(parts), at, ""), "/"), false)
		}
	})
}

// A hyphen at the beginning or at the end of any part is wrong, and one within a part is right.
func TestP56Hyphens(t *testing.T) {
	eachName(t, 356, func(s string) {
		parts := parted(s)
		for i, part := range parts {
			for at := range len(part) + 1 {
				changed := slices.Clone(parts)
				changed[i] = part[:at] + "-" + part[at:]
				checkName(t, strings.Join(changed, "/"), at > 0 && at < len(part) && len(s) < 12)
			}
		}
	})
}

// Each byte is tried alone, at each end of a part and within one.
func TestP56EachByte(t *testing.T) {
	for b := range 256 {
		s := string([]byte{byte(b)})
		plain := strings.Contains(letters+"0123456789", s)
		for _, around := range []struct {
			ahead, behind string
			also          string
		}{
			{"", "", ""}, {"a", "", ""}, {"", "a", ""}, {"a", "a", "-/"}, {"a/", "", ""}, {"a/", "/a", ""}, {"", "/a", ""},
			{"a/b", "", ""}, {"a/b", "/c", ""}, {"a/b", "c", "-/"}, {"a-", "a", "-"}, {"a", "-a", "-"}, {"abcdefghijk", "", ""}, {"", "abcdefghijk", ""},
		} {
			checkName(t, around.ahead+s+around.behind, plain || strings.Contains(around.also, s))
		}
	}
}

func TestP56AnyText(t *testing.T) {
	eachText(t, 456, func(s string) {
		checkName(t, s, named(s))
	})
}

func TestP57Lengths(t *testing.T) {
	for size := range 300 {
		checkName(t, strings.Repeat("a", size), size >= 1 && size <= 12)
		checkName(t, strings.Repeat("9", size), size >= 1 && size <= 12)
		checkName(t, strings.Repeat("a/", size)+"a", size <= 5)
		checkName(t, strings.Repeat("a-", size)+"a", size <= 5)
		checkName(t, strings.Repeat("a/", size)+"bc", size <= 5)
	}
}

// Bytes are counted, not runes, and not those of single parts.
func TestP57LongestNames(t *testing.T) {
	for _, s := range []string{"abcdefghijkl", "012345678901", "abcdef/ghijk", "a/bcdefghijk", "abcdefghij/k", "ab/cd/ef/ghi", "a/b/c/d/e/fg", "a----------b"} {
		checkName(t, s, true)
		checkName(t, s[:11]+"/"+s[11:], false)
		for _, more := range []string{"a", "z", "0", "-a", "/a", "\x00", "\u00e9"} {
			checkName(t, s+more, false)
		}
	}
}

func TestP57LetterAppended(t *testing.T) {
	eachName(t, 57, func(s string) {
		if len(s) > 12 || !impl.NameValid(s) {
			t.Fatalf("NameValid(%q) is false, or it is too long", s)
		}
		for _, letter := range []string{"a", "m", "z"} {
			checkName(t, s+letter, len(s) < 12)
			checkName(t, letter+s, len(s) < 12)
		}
	})
}

func TestP65PartsAndSlashes(t *testing.T) {
	eachText(t, 65, func(s string) {
		if many := len(impl.NameParts(s)); impl.NameValid(s) && many != strings.Count(s, "/")+1 {
			t.Fatalf("NameParts(%q) has %d parts", s, many)
		}
	})
	for size := range 6 {
		if parts := impl.NameParts(strings.Repeat("a/", size) + "b"); len(parts) != size+1 {
			t.Errorf("with %d slashes there are the parts %q", size, parts)
		}
	}
}

func TestMaxName(t *testing.T) {
	if impl.MaxName != 12 {
		t.Error("the limit is not that of the table of constants")
	}
}

func TestMemoryOfNameParts(t *testing.T) {
	for _, s := range []string{"a", "ab", "abcdefghijkl", "a/b", "ab/cd", "ab/ab/ab", "abc/def/ghij", "a/b/c/d/e/fg", "", "/", "a//b", "ab-", "abcdefghijklm"} {
		checkLent(t, "NameValid", s, func(text string) []string {
			impl.NameValid(text)
			return nil
		})
		checkLent(t, "NameParts", s, impl.NameParts)
		one, two := impl.NameParts(s), impl.NameParts(s)
		checkApart(t, "NameParts", nil, []any{one, two})
		checkTextsApart(t, "NameParts", []string{s}, slices.Concat(one, two))
	}
}
