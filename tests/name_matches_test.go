package tests

import (
	"slices"
	"strings"
	"testing"

	"loop.example/atomicpush/impl"
)

// checkMatches fails if NameMatches gives another answer.
func checkMatches(t *testing.T, pattern string, s string, want bool) {
	t.Helper()
	if got := impl.NameMatches(pattern, s); got != want {
		t.Errorf("NameMatches(%.40q, %.40q) = %t", pattern, s, got)
	}
}

// withStars returns all patterns that are made of parts by putting stars in the place of some.
func withStars(parts []string) []string {
	result := []string{}
	for which := range 1 << len(parts) {
		pattern := slices.Clone(parts)
		for i := range pattern {
			if which>>i&1 == 1 {
				pattern[i] = "*"
			}
		}
		result = append(result, strings.Join(pattern, "/"))
	}
	return result
}

// pattern returns a pattern for a name, which it often matches, and in which something may be changed.
func (n *numbers) pattern(s string) string {
	parts := parted(s)
	for i := range parts {
		switch n.below(8) {
		case 0, 1, 2:
			parts[i] = "*"
		case 3:
			parts[i] = n.letter("ab-*A ") + parts[i]
		}
	}
	switch n.below(8) {
	case 0, 1:
		parts = parts[:1+n.below(len(parts))]
	case 2:
		parts = append(parts[:1+n.below(len(parts))], "*")
	case 3:
		parts = slices.Insert(parts, n.below(len(parts)+1), n.word("a*", n.below(2)))
	}
	return strings.Join(parts, "/")
}

// eachPattern calls check with many patterns and texts, and requires that enough patterns match and that enough do not.
func eachPattern(t *testing.T, seed int, check func(pattern string, s string)) {
	t.Helper()
	patterns := wordsOf("a*/", 5)
	for _, s := range []string{"a", "aa", "a/a", "aa/a", "a/b", "b/a", "a/a/a", "a/b/a", "a/b/c/d", "a/a/a/a/a/a", "", "/", "*", "a/", "a/*", "a//a", "A", "-"} {
		for _, pattern := range patterns {
			check(pattern, s)
		}
	}
	n := numbers(seed)
	yes, no := 0, 0
	for range 20000 {
		s := n.name()
		pattern := n.pattern(s)
		if n.below(8) == 0 {
			s = n.changedName(s)
		}
		if matches(pattern, s) {
			yes++
		} else {
			no++
		}
		check(pattern, s)
	}
	if yes < 5000 || no < 3000 {
		t.Errorf("%d patterns match, and %d do not", yes, no)
	}
}

func TestP58OwnPatternAndStar(t *testing.T) {
	eachName(t, 58, func(s string) {
		checkMatches(t, s, s, true)
		checkMatches(t, "*", s, true)
		for _, pattern := range withStars(parted(s)) {
			checkMatches(t, pattern, s, true)
		}
	})
}

func TestP58Stars(t *testing.T) {
	for _, test := range []struct {
		pattern string
		s       string
		want    bool
	}{
		{"*", "a", true},
		{"*", "abcdefghijkl", true},
		{"*", "a/b", true},
		{"*", "a/b/c/d/e/fg", true},
		{"a/*", "a/b", true},
		{"*/b", "a/b", true},
		{"*/*", "a/b", true},
		{"*/b/c", "a/b/c", true},
		{"a/*/c", "a/b/c", true},
		{"a/b/*", "a/b/c", true},
		{"*/*/c", "a/b/c", true},
		{"*/b/*", "a/b/c", true},
		{"a/*/*", "a/b/c", true},
		{"*/*/*", "a/b/c", true},
		{"*/c", "a/b", false},
		{"c/*", "a/b", false},
		{"*/c/c", "a/b/c", false},
		{"c/*/c", "a/b/c", false},
		{"a/*/b", "a/b/c", false},
		{"b/b/*", "a/b/c", false},
		{"*/*/*/*/*/*", "a/b/c/d/e/fg", true},
		{"*/b/*/d/*/fg", "a/b/c/d/e/fg", true},
		{"*/b/*/d/*/f", "a/b/c/d/e/fg", false},
		{"a-b/*", "a-b/c-d", true},
		{"*/c-d", "a-b/c-d", true},
	} {
		checkMatches(t, test.pattern, test.s, test.want)
	}
}

// A star is a whole part: it stands neither for a part of one, nor for nothing.
func TestP58NotAStar(t *testing.T) {
	for _, pattern := range []string{
		"a*", "*a", "*b", "ab*", "*ab", "a*b", "**", "***", "?", "??", ".*", "[ab]", "*-", "* ", " *", "*\x00", "\\*", "\u2217", "\uff0a", "+", "%", "a/**", "a/*b", "*/", "/*", "*//", "//*", "/", "",
	} {
		for _, s := range []string{"a", "ab", "abc", "a/b", "a/ab", "a/b/c"} {
			checkMatches(t, pattern, s, false)
		}
	}
}

func TestP58NotAName(t *testing.T) {
	for _, s := range notNames() {
		for _, pattern := range []string{s, "*", "*/*", "*/*/*", "", "/", "a", "a/b", "a/*", "*/b", "a//*", "*//*", "/*", "*/"} {
			checkMatches(t, pattern, s, false)
		}
		for _, pattern := range withStars([]string{s, "a"}) {
			checkMatches(t, pattern, s, false)
			checkMatches(t, pattern, s+"/a", false)
			checkMatches(t, pattern, "a/"+s, false)
		}
	}
}

func TestP59NumberOfParts(t *testing.T) {
	for _, test := range []struct {
		pattern string
		s       string
		want    bool
	}{
		{"a", "a/b", false},
		{"b", "a/b", false},
		{"a/b", "a/b/c", false},
		{"b/c", "a/b/c", false},
		{"*/b", "a/b/c", false},
		{"*/c", "a/b/c", false},
		{"*/b/c", "a/b/c/d", false},
		{"*/*/c", "a/b/c/d", false},
		{"a/*", "a/b/c", true},
		{"a/*", "a/b/c/d/e/fg", true},
		{"*/*", "a/b/c", true},
		{"*/b/*", "a/b/c/d", true},
		{"a/*/*", "a/b/c/d", true},
		{"b/*", "a/b/c", false},
		{"*/c/*", "a/b/c/d", false},
		{"a/*", "a", false},
		{"*/a", "a", false},
		{"*/*", "a", false},
		{"*/*/*", "a/b", false},
		{"a/*/*", "a/b", false},
		{"a/b/*", "a/b", false},
		{"*/a/b", "a/b", false},
		{"a/*/b", "a/b", false},
		{"a/b/c", "a/b", false},
		{"a/", "a", false},
		{"/a", "a", false},
		{"a/b/", "a/b", false},
		{"/a/b", "a/b", false},
		{"a//b", "a/b", false},
		{"/*", "a", false},
		{"*/", "a/b", false},
		{"*/*/*/*/*/*", "a/b/c/d/e", false},
		{"*/*/*/*/*", "a/b/c/d/e/fg", true},
	} {
		checkMatches(t, test.pattern, test.s, test.want)
	}
}

func TestP59NoMorePartsThanTheName(t *testing.T) {
	eachPattern(t, 59, func(pattern string, s string) {
		if !impl.NameMatches(pattern, s) {
			return
		}
		parts, many := strings.Split(pattern, "/"), len(impl.NameParts(s))
		if len(parts) > many || len(parts) < many && parts[len(parts)-1] != "*" {
			t.Fatalf("NameMatches(%q, %q) holds", pattern, s)
		}
	})
}

func TestP59AnyPattern(t *testing.T) {
	eachPattern(t, 159, func(pattern string, s string) {
		checkMatches(t, pattern, s, matches(pattern, s))
	})
}

func TestP59LongPatterns(t *testing.T) {
	checkMatches(t, "abcdefghij/*", "abcdefghij/k", true)
	checkMatches(t, "*/abcdefghij", "k/abcdefghij", true)
	checkMatches(t, "abcdefghijkl", "abcdefghijkl", true)
	checkMatches(t, "a/b/c/d/e/fg", "a/b/c/d/e/fg", true)
	checkMatches(t, "*/*/*/*/*/fg", "a/b/c/d/e/fg", true)
	for _, s := range []string{"a", "abcdefghijkl", "a/b", "abcdefghij/k", "a/b/c/d/e/fg"} {
		for _, pattern := range []string{
			"abcdefghijklm", "abcdefghijkl/", "/abcdefghijkl", "abcdefghijkl*", "*/*/*/*/*/*/*", "a/b/c/d/e/f/*", "a/b/c/d/e/fg/*", "abcdefghijk/*", "abcdefghijkl/*", "*/abcdefghijk",
			strings.Repeat("*", 13), strings.Repeat("*/", 13) + "*", strings.Repeat("*/", 128) + "*", strings.Repeat("a", 256), strings.Repeat("*", 257), strings.Repeat("/", 100000), strings.Repeat("*/", 100000) + "*",
			s + "/" + strings.Repeat("*/", 6) + "*", s + strings.Repeat("\x00", 13), s + strings.Repeat(" ", 256), strings.Repeat("/", 12) + s,
		} {
			checkMatches(t, pattern, s, false)
		}
	}
}

// A pattern that is a valid name matches no other one, also not one that begins with the same letters or parts.
func TestP60OnlyItself(t *testing.T) {
	all := append(names(), "abcdefghijkl", "abcdefghijk", "a/b/c/d/e/fg", "a/b/c/d/e/f", "heads/main", "heads/main-2", "heads")
	for _, pattern := range all {
		for _, s := range all {
			checkMatches(t, pattern, s, pattern == s)
		}
	}
	n := numbers(60)
	for range 20000 {
		pattern, s := n.name(), n.name()
		checkMatches(t, pattern, s, pattern == s)
		if changed := n.changedName(s); named(changed) {
			checkMatches(t, s, changed, s == changed)
		}
	}
}

func TestP60SameLetters(t *testing.T) {
	for _, test := range []struct {
		pattern string
		s       string
	}{
		{"a", "ab"}, {"ab", "a"}, {"ab", "a/b"}, {"a/b", "ab"}, {"a/b", "a/bc"}, {"a/bc", "a/b"}, {"ab/c", "a/c"}, {"a/c", "ab/c"}, {"ab/c", "a/bc"}, {"a/bc", "ab/c"}, {"a", "a-b"}, {"a-b", "a"}, {"a/b", "a-b"}, {"a-b", "a/b"}, {"a", "a/a"}, {"a/a", "a"},
		{"a/*", "ab/c"}, {"ab/*", "a/c"}, {"a/*", "a-b/c"}, {"a/*", "ab"}, {"*/b", "a/bc"}, {"*/bc", "a/b"}, {"a/*/c", "a/b/cd"}, {"a/b/*", "a/bc/d"},
		{"A", "a"}, {"a/B", "a/b"}, {"A/*", "a/b"}, {" a", "a"}, {"a ", "a"}, {"a\n", "a"}, {"-a", "a"}, {"a-", "a"}, {"a\x00", "a"}, {"a/ *", "a/b"}, {"a/* ", "a/b"},
	} {
		checkMatches(t, test.pattern, test.s, false)
	}
}

func TestP61TwoParts(t *testing.T) {
	two := 0
	eachName(t, 61, func(s string) {
		parts := impl.NameParts(s)
		if len(parts) != 2 {
			return
		}
		two++
		checkMatches(t, "*/"+parts[1], s, true)
		checkMatches(t, parts[0]+"/*", s, true)
		checkMatches(t, "*/*", s, true)
		checkMatches(t, parts[1]+"/*", s, parts[0] == parts[1])
		checkMatches(t, "*/"+parts[0], s, parts[0] == parts[1])
	})
	if two < 300 {
		t.Errorf("only %d names have two parts", two)
	}
}

func TestMemoryOfNameMatches(t *testing.T) {
	for _, pattern := range []string{"", "*", "a/*", "ab/cd", "*/cd", "abcdefghijklm"} {
		for _, s := range []string{"", "a", "ab/cd", "ab/cd/ef", "ab//cd", "abcdefghijklm"} {
			checkLent(t, "NameMatches", pattern, func(text string) []string {
				impl.NameMatches(text, s)
				return nil
			})
			checkLent(t, "NameMatches", s, func(text string) []string {
				impl.NameMatches(pattern, text)
				return nil
			})
		}
	}
}
