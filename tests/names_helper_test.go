package tests

import (
	"slices"
	"strings"
	"testing"
)

// letters are those that a name may have.
const letters = "abcdefghijklmnopqrstuvwxyz"

// named tells as chapter 5 does whether a text is a name, by each byte and those beside it.
func named(s string) bool {
	around := "/" + s + "/"
	for i := 1; i <= len(s); i++ {
		edge := around[i-1] == '/' || around[i+1] == '/'
		if !strings.Contains(letters+"0123456789-/", around[i:i+1]) || edge && strings.Contains("-/", around[i:i+1]) {
			return false
		}
	}
	return len(s) >= 1 && len(s) <= 12
}

// parted computes what stands between the slashes of a text, byte by byte.
func parted(s string) []string {
	parts := []string{""}
	for i := range len(s) {
		if s[i] == '/' {
			parts = append(parts, "")
		} else {
			parts[len(parts)-1] += s[i : i+1]
		}
	}
	return parts
}

// matched computes as chapter 5 tells whether a name matches a pattern, both of which are given by their parts.
func matched(pattern []string, parts []string) bool {
	if len(pattern) == 0 || len(parts) == 0 {
		return len(pattern) == len(parts)
	}
	if pattern[0] != "*" && pattern[0] != parts[0] {
		return false
	}
	return len(pattern) == 1 && pattern[0] == "*" || matched(pattern[1:], parts[1:])
}

// matches tells what NameMatches has to answer.
func matches(pattern string, s string) bool {
	return named(s) && len(pattern) <= 12 && matched(parted(pattern), parted(s))
}

// clashes tells what NameClashes has to answer: the parts of one of two different names begin those of the other one.
func clashes(a string, b string) bool {
	if !named(a) || !named(b) || a == b {
		return false
	}
	return begins(parted(a), parted(b)) || begins(parted(b), parted(a))
}

// letter returns a text of one of the bytes of an alphabet.
func (n *numbers) letter(alphabet string) string {
	at := n.below(len(alphabet))
	return alphabet[at : at+1]
}

// word returns a text of bytes of an alphabet.
func (n *numbers) word(alphabet string, size int) string {
	result := ""
	for range size {
		result += n.letter(alphabet)
	}
	return result
}

// name returns a name of 1 to 12 bytes.
func (n *numbers) name() string {
	alphabet := []string{"a/", "ab-/", "a0-/", letters + "0123456789-////"}[n.below(4)]
	for size := 1 + n.below(12); ; {
		if s := n.word(alphabet, size); named(s) {
			return s
		}
	}
}

// names returns all names of at most 5 bytes of a small alphabet.
func names() []string {
	return slices.DeleteFunc(wordsOf("ab-/", 5), func(s string) bool { return !named(s) })
}

// eachName calls check with many names, and requires that enough of them are as long as a name may be, and have several parts.
func eachName(t *testing.T, seed int, check func(s string)) {
	t.Helper()
	for _, s := range names() {
		check(s)
	}
	n := numbers(seed)
	long, several := 0, 0
	for range 5000 {
		s := n.name()
		if len(s) == 12 {
			long++
		}
		if len(parted(s)) >= 3 {
			several++
		}
		check(s)
	}
	if long < 200 || several < 500 {
		t.Errorf("only %d names are long, and %d have several parts", long, several)
	}
}

// changedName returns a name in which one byte is changed, left out or put in.
func (n *numbers) changedName(s string) string {
	at := n.below(len(s))
	b := n.text(1)
	if n.below(2) == 0 {
		b = n.letter("/-*A a0")
	}
	return s[:at] + []string{"", b, b + s[at:at+1]}[n.below(3)] + s[at+1:]
}

// eachText calls check with many texts that are names or nearly so, and requires that enough of both are among them.
func eachText(t *testing.T, seed int, check func(s string)) {
	t.Helper()
	for _, s := range slices.Concat(wordsOf("a-/", 8), wordsOf("0A /", 4), notNames()) {
		check(s)
	}
	n := numbers(seed)
	right, wrong := 0, 0
	for range 20000 {
		s := n.changedName(n.name())
		if n.below(4) == 0 {
			s = n.word("ab/", 11+n.below(4))
		}
		if named(s) {
			right++
		} else {
			wrong++
		}
		check(s)
	}
	if right < 3000 || wrong < 3000 {
		t.Errorf("%d texts are names, and %d are not", right, wrong)
	}
}

// notNames returns texts that are not names, for each reason.
func notNames() []string {
	return []string{
		"", "/", "//", "///", strings.Repeat("/", 12), strings.Repeat("/", 13),
		"/a", "a/", "/a/", "//a", "a//", "a//b", "a///b", "a/b/", "/a/b", "a/b//c", "a//b/c",
		"-", "--", "-a", "a-", "-a-", "a/-", "-/a", "a/-b", "a-/b", "a/b-", "-a/b", "a/-/b", "a/b/-c", "a/b/c-",
		"A", "aB", "Ab", "a/B", "A/b", "a/bC/d", "Z", "aZa",
		" ", "a ", " a", "a b", "a/ ", " /a", "a/ /b", "a /b", "a/ b", "\t", "a\t", "a\n", "\na", "a\r", "a\x00", "\x00", "\x00a",
		"*", "a*", "*a", "a/*", "*/a", "?", "a.b", ".", "..", "a/../b", "a_b", "a\\b", "a:b", "a@b", "a`b", "a{b", "a[b", "a,b", "a+b",
		"\u00e9", "a\u00e9", "\u00df/a", "\u0430", "\u0663", "a\u2010b", "a\u2215b", "\xff", "a\x80", "\xe1", "a\xadb", "a\xafb",
		"abcdefghijklm", "abcdef/ghijk/", "abcdef/ghijkl", "a/b/c/d/e/f/g", "a-----------b", "abcdefghijkl/", "abcdefghijkl-", "abcdefghijkl ",
		strings.Repeat("a", 13), strings.Repeat("a", 256), strings.Repeat("a", 268), strings.Repeat("a/", 100000), strings.Repeat("a", 100000),
	}
}
