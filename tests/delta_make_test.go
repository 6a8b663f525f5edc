package tests

import (
	"slices"
	"strings"
	"testing"

	"loop.example/atomicpush/impl"
)

func TestP18MakeThenApply(t *testing.T) {
	eachTextPair(func(base string, text string) {
		ops := impl.DeltaMake(base, text)
		if got, ok := impl.DeltaApply(base, ops); !ok || got != text {
			t.Fatalf("DeltaApply of DeltaMake(%q, %q) = %#v is %q, %t", base, text, ops, got, ok)
		}
	})
}

// The operations are those of the chapter, and no others that make the same text.
func TestP18TheOperations(t *testing.T) {
	eachTextPair(func(base string, text string) {
		if got, want := impl.DeltaMake(base, text), made(base, text); !slices.Equal(got, want) {
			t.Fatalf("DeltaMake(%q, %q) = %#v, not %#v", base, text, got, want)
		}
	})
}

func TestP18Operations(t *testing.T) {
	tests := []struct {
		name string
		base string
		text string
		ops  []impl.Op
	}{
		{"several parts", "abcdef", "xcdefab", []impl.Op{insertion("x"), copying(2, 4), copying(0, 2)}},
		{"the first of equal parts", "xababab", "ab", []impl.Op{copying(1, 2)}},
		{"a longer part behind a shorter one", "abxabc", "abc", []impl.Op{copying(3, 3)}},
		{"a shorter part behind a longer one", "abcxab", "abc", []impl.Op{copying(0, 3)}},
		{"the first of two longest parts behind a shorter one", "ababcabc", "abc", []impl.Op{copying(2, 3)}},
		{"parts that overlap", "aaaa", "aaa", []impl.Op{copying(0, 3)}},
		{"a text that goes on where the base ends", "aaa", "aaaaaa", []impl.Op{copying(0, 3), copying(0, 3)}},
		{"the longest part first, although more is inserted then", "abcbcd", "abcd", []impl.Op{copying(0, 3), insertion("d")}},
		{"a part at the end of the base", "abcdefgh", "gh", []impl.Op{copying(6, 2)}},
		{"a base within the text", "bc", "abcd", []impl.Op{insertion("a"), copying(0, 2), insertion("d")}},
		{"nothing in common", "abcd", "efgh", []impl.Op{insertion("efgh")}},
		{"bytes that are no text", "\x00\xff\x80", "\xff\x80\x00", []impl.Op{copying(1, 2), insertion("\x00")}},
		{"half a rune in common", "\u00e9", "\u00e8", []impl.Op{insertion("\u00e8")}},
		{"a high byte between parts", "abcd", "ab\xe9cd", []impl.Op{copying(0, 2), insertion("\xe9"), copying(2, 2)}},
	}
	for _, test := range tests {
		if got := impl.DeltaMake(test.base, test.text); !slices.Equal(got, test.ops) {
			t.Errorf("%s: DeltaMake(%q, %q) = %#v, not %#v", test.name, test.base, test.text, got, test.ops)
		}
	}
}

// A part of one byte is not copied, wherever it stands in the base and in the text.
func TestP22PartsOfOneByte(t *testing.T) {
	tests := []struct {
		base string
		text string
		ops  []impl.Op
	}{
		{"a", "a", []impl.Op{insertion("a")}},
		{"\x00", "\x00", []impl.Op{insertion("\x00")}},
		{"a", "aaaaaaaa", []impl.Op{insertion("aaaaaaaa")}},
		{"abcdefgh", "h", []impl.Op{insertion("h")}},
		{"abc", "cba", []impl.Op{insertion("cba")}},
		{"abcdefgh", "hgfedcba", []impl.Op{insertion("hgfedcba")}},
		{"abc", "axc", []impl.Op{insertion("axc")}},
		{"ab", "aab", []impl.Op{insertion("a"), copying(0, 2)}},
		{"ab", "bab", []impl.Op{insertion("b"), copying(0, 2)}},
		{"ab", "aba", []impl.Op{copying(0, 2), insertion("a")}},
		{"ab", "abb", []impl.Op{copying(0, 2), insertion("b")}},
		{"abc", "abcbc", []impl.Op{copying(0, 3), copying(1, 2)}},
		{"abcd", "abdcd", []impl.Op{copying(0, 2), insertion("d"), copying(2, 2)}},
		{"abcd", "abdacd", []impl.Op{copying(0, 2), insertion("da"), copying(2, 2)}},
		{"ab", "aabbaabb", []impl.Op{insertion("a"), copying(0, 2), insertion("ba"), copying(0, 2), insertion("b")}},
	}
	for _, test := range tests {
		if got := impl.DeltaMake(test.base, test.text); !slices.Equal(got, test.ops) {
			t.Errorf("DeltaMake(%q, %q) = %#v, not %#v", test.base, test.text, got, test.ops)
		}
	}
}

func TestP19SizeOfMade(t *testing.T) {
	largest := 0
	eachTextPair(func(base string, text string) {
		ops := impl.DeltaMake(base, text)
		size := impl.DeltaSize(ops)
		if size > len(text)+1 || text == "" && (size != 0 || len(ops) != 0) || text != "" && size == 0 {
			t.Fatalf("DeltaSize of DeltaMake(%q, %q) is %d", base, text, size)
		}
		largest = max(largest, size)
	})
	if largest != 9 {
		t.Errorf("the largest size is %d", largest)
	}
}

func TestP19EmptyText(t *testing.T) {
	for _, base := range []string{"", "a", "ab", "\x00", "12345678"} {
		if ops := impl.DeltaMake(base, ""); len(ops) != 0 || impl.DeltaSize(ops) != 0 {
			t.Errorf("DeltaMake of %q and the empty text is %#v", base, ops)
		}
	}
}

func TestP20SameText(t *testing.T) {
	for _, text := range slices.Concat(wordsOf("ab", 8), wordsOf("\x00\x80\xff", 5), []string{"12345678", "\u00e9\u00e9\u00e9\u00e9", "\xff\xff\xff\xff\xff\xff\xff\xff"}) {
		want := []impl.Op{copying(0, len(text))}
		if len(text) < 2 {
			want = impl.DeltaMake("", text)
		}
		if got := impl.DeltaMake(text, text); !slices.Equal(got, want) {
			t.Errorf("DeltaMake(%q, %q) = %#v", text, text, got)
		}
	}
}

func TestP21EmptyBase(t *testing.T) {
	texts := slices.Concat(wordsOf("ab", 8), wordsOf("\x00\x80\xff", 5), []string{"12345678", "\u20ac\u00e9", "\xff\xff\xff\xff\xff\xff\xff\xff"})
	for b := range 256 {
		texts = append(texts, string([]byte{byte(b)}), string([]byte{'a', byte(b), byte(b)}))
	}
	for _, text := range texts {
		got := impl.DeltaMake("", text)
		if text == "" && len(got) != 0 || text != "" && !slices.Equal(got, []impl.Op{insertion(text)}) {
			t.Errorf("DeltaMake of the empty base and %q is %#v", text, got)
		}
	}
}

func TestP22EachOperation(t *testing.T) {
	eachTextPair(func(base string, text string) {
		ops := impl.DeltaMake(base, text)
		for i, o := range ops {
			copies := o.Size >= 2 && o.Text == ""
			inserts := o.Size == 0 && o.At == 0 && o.Text != ""
			if !copies && !inserts || inserts && i > 0 && ops[i-1].Size == 0 {
				t.Fatalf("DeltaMake(%q, %q) = %#v", base, text, ops)
			}
		}
	})
}

func TestP25NumberOfOperations(t *testing.T) {
	most := 0
	eachTextPair(func(base string, text string) {
		ops := impl.DeltaMake(base, text)
		if len(ops) > 8 || len(ops) > len(text) {
			t.Fatalf("DeltaMake(%q, %q) = %#v", base, text, ops)
		}
		most = max(most, len(ops))
	})
	if most != 5 {
		t.Errorf("the largest number of operations is %d", most)
	}
}

func TestP25TooLong(t *testing.T) {
	long := []string{"123456789", "aaaaaaaaa", "\u20ac\u20ac\u20ac", "\u00e9\u00e9\u00e9\u00e9\u00e9", strings.Repeat("\x00", 9), strings.Repeat("ab", 50000)}
	for _, a := range long {
		for _, b := range append([]string{"", "a", "12", "12345678"}, long...) {
			if ops := impl.DeltaMake(a, b); len(ops) != 0 {
				t.Errorf("DeltaMake of a base of %d bytes and a text of %d is %#v", len(a), len(b), ops)
			}
			if ops := impl.DeltaMake(b, a); len(ops) != 0 {
				t.Errorf("DeltaMake of a base of %d bytes and a text of %d is %#v", len(b), len(a), ops)
			}
		}
	}
}

func TestP25LargestSizes(t *testing.T) {
	tests := []struct {
		base string
		text string
		ops  []impl.Op
	}{
		{"12345678", "12345678", []impl.Op{copying(0, 8)}},
		{"12345678", "abcdefgh", []impl.Op{insertion("abcdefgh")}},
		{"12345678", "56781234", []impl.Op{copying(4, 4), copying(0, 4)}},
		{"12345678", "78563412", []impl.Op{copying(6, 2), copying(4, 2), copying(2, 2), copying(0, 2)}},
		{"12345678", "x12y34z5", []impl.Op{insertion("x"), copying(0, 2), insertion("y"), copying(2, 2), insertion("z5")}},
		{"\u00e9\u00e8\u20ac1", "\u20ac1\u00e9\u00e8", []impl.Op{copying(4, 4), copying(0, 4)}},
	}
	for _, test := range tests {
		if got := impl.DeltaMake(test.base, test.text); !slices.Equal(got, test.ops) {
			t.Errorf("DeltaMake(%q, %q) = %#v, not %#v", test.base, test.text, got, test.ops)
		}
	}
}

func TestMemoryOfDeltaMake(t *testing.T) {
	for _, pair := range [][2]string{{"abcdef", "xycdefab"}, {"", "12345678"}, {"abcd", "abxycd"}, {"ab", "xx"}, {"ab", "ab"}, {"ab", ""}} {
		base, text := strings.Clone(pair[0]), strings.Clone(pair[1])
		one, two := impl.DeltaMake(base, text), impl.DeltaMake(base, text)
		if base != pair[0] || text != pair[1] {
			t.Errorf("DeltaMake modified its arguments %q", pair)
		}
		checkApart(t, "DeltaMake", nil, []any{one, two})
		checkTextsApart(t, "DeltaMake", []string{base, text}, slices.Concat(textsOf(one), textsOf(two)))
		for i := range one {
			one[i] = insertion("other")
		}
		if again := impl.DeltaMake(base, text); !slices.Equal(again, two) {
			t.Errorf("DeltaMake(%q, %q) = %#v now", base, text, again)
		}
	}
}
