package tests

import (
	"math"
	"slices"
	"strings"
	"testing"

	"loop.example/atomicpush/impl"
)

// checkApply fails if DeltaApply does not give the text; "" and false are for operations that cannot be performed.
func checkApply(t *testing.T, name string, base string, ops []impl.Op, text string, ok bool) {
	t.Helper()
	if got, done := impl.DeltaApply(base, ops); got != text || done != ok {
		t.Errorf("%s: DeltaApply(%q, %#v) = %q, %t, not %q, %t", name, base, ops, got, done, text, ok)
	}
}

func TestP23Apply(t *testing.T) {
	tests := []struct {
		name string
		base string
		ops  []impl.Op
		text string
	}{
		{"one insertion", "", []impl.Op{insertion("a")}, "a"},
		{"the longest insertion", "", []impl.Op{insertion("12345678")}, "12345678"},
		{"insertions one after the other", "abc", []impl.Op{insertion("x"), insertion("y"), insertion("zz")}, "xyzz"},
		{"a part of one byte", "abc", []impl.Op{copying(1, 1)}, "b"},
		{"the first byte", "abc", []impl.Op{copying(0, 1)}, "a"},
		{"the last byte", "abc", []impl.Op{copying(2, 1)}, "c"},
		{"a whole base", "abc", []impl.Op{copying(0, 3)}, "abc"},
		{"a whole base of 8 bytes", "12345678", []impl.Op{copying(0, 8)}, "12345678"},
		{"a part twice", "abc", []impl.Op{copying(1, 2), copying(1, 2)}, "bcbc"},
		{"parts that overlap, backwards", "abcd", []impl.Op{copying(2, 2), copying(1, 2), copying(0, 2)}, "cdbcab"},
		{"a copy of the base, not of the text", "ab", []impl.Op{insertion("xy"), copying(0, 2)}, "xyab"},
		{"8 operations", "12345678", []impl.Op{copying(7, 1), copying(6, 1), copying(5, 1), copying(4, 1), copying(3, 1), insertion("c"), copying(1, 1), insertion("a")}, "87654c2a"},
		{"bytes that are no text", "\xff\x00", []impl.Op{copying(1, 1), insertion("\x80\xc3"), copying(0, 1)}, "\x00\x80\xc3\xff"},
		{"half a rune", "\u00e9", []impl.Op{copying(1, 1), copying(0, 1)}, "\xa9\xc3"},
	}
	for _, test := range tests {
		checkApply(t, test.name, test.base, test.ops, test.text, true)
	}
}

func TestP23FirstAndRest(t *testing.T) {
	eachDelta(t, 23, func(base string, ops []impl.Op) {
		text, ok := impl.DeltaApply(base, ops)
		if want, wanted := performed(base, ops); text != want || ok != wanted {
			t.Fatalf("DeltaApply(%q, %#v) = %q, %t, not %q, %t", base, ops, text, ok, want, wanted)
		}
		if !ok {
			return
		}
		for i := range len(ops) + 1 {
			first, ok1 := impl.DeltaApply(base, ops[:i])
			rest, ok2 := impl.DeltaApply(base, ops[i:])
			if !ok1 || !ok2 || first+rest != text {
				t.Fatalf("DeltaApply(%q, %#v) = %q, but %q and %q at %d", base, ops, text, first, rest, i)
			}
		}
	})
}

func TestP24WithinTheBase(t *testing.T) {
	places := []int{math.MinInt, math.MinInt + 1, -9, -2, -1, 0, 1, 2, 3, 4, 5, 6, 7, 8, 9, 10, 1 << 32, math.MaxInt - 8, math.MaxInt - 1, math.MaxInt}
	for length := range 9 {
		base := "12345678"[:length]
		for _, at := range places {
			for _, size := range places {
				if size == 0 {
					continue
				}
				want, ok := "", size > 0 && size <= 8 && at >= 0 && at <= 8 && at+size <= length
				if ok {
					want = base[at : at+size]
				}
				checkApply(t, "one copy", base, []impl.Op{copying(at, size)}, want, ok)
				if ok && length < 8 {
					checkApply(t, "a copy behind an insertion", base, []impl.Op{insertion("x"), copying(at, size)}, "x"+want, true)
				} else if !ok {
					checkApply(t, "a copy behind an insertion", base, []impl.Op{insertion("x"), copying(at, size)}, "", false)
					checkApply(t, "a copy ahead of an insertion", base, []impl.Op{copying(at, size), insertion("x")}, "", false)
				}
			}
		}
	}
}

func TestP24EmptyBase(t *testing.T) {
	for at := -1; at < 10; at++ {
		for size := 1; size < 10; size++ {
			checkApply(t, "a copy of nothing", "", []impl.Op{copying(at, size)}, "", false)
			checkApply(t, "a copy of what is inserted", "", []impl.Op{insertion("12345678"), copying(at, size)}, "", false)
		}
	}
	eachDelta(t, 24, func(base string, ops []impl.Op) {
		copies := slices.ContainsFunc(ops, func(o impl.Op) bool { return o.Size != 0 })
		if text, ok := impl.DeltaApply("", ops); ok && copies || !ok && text != "" {
			t.Fatalf("DeltaApply of the empty base and %#v is %q, %t", ops, text, ok)
		}
	})
}

func TestP24NoOperation(t *testing.T) {
	for name, o := range map[string]impl.Op{
		"nothing":                      {},
		"an insertion of no bytes":     insertion(""),
		"an insertion of 9 bytes":      insertion("123456789"),
		"an insertion of many bytes":   insertion(strings.Repeat("x", 100000)),
		"an insertion at 1":            {At: 1, Text: "x"},
		"an insertion at -1":           {At: -1, Text: "x"},
		"an insertion at the end":      {At: 4, Text: "x"},
		"an insertion far away":        {At: math.MaxInt, Text: "x"},
		"an empty insertion at 1":      {At: 1},
		"a copy with a text":           {At: 0, Size: 1, Text: "x"},
		"a copy with the text of it":   {At: 0, Size: 1, Text: "a"},
		"a copy of all with a text":    {At: 0, Size: 4, Text: "abcd"},
		"a copy with a long text":      {At: 0, Size: 1, Text: "123456789"},
		"a negative size":              {At: 0, Size: -1},
		"a negative size at the end":   {At: 4, Size: -4},
		"a negative size with a text":  {At: 0, Size: -1, Text: "x"},
		"the least size with a text":   {At: 0, Size: math.MinInt, Text: "x"},
		"a copy beyond the end":        {At: 1, Size: 4},
		"a copy from the end on":       {At: 4, Size: 1},
		"a copy from before the start": {At: -1, Size: 2},
	} {
		checkApply(t, name, "abcd", []impl.Op{o}, "", false)
		checkApply(t, name+", first", "abcd", []impl.Op{o, insertion("x")}, "", false)
		checkApply(t, name+", last", "abcd", []impl.Op{copying(0, 2), o}, "", false)
		checkApply(t, name+", in between", "abcd", []impl.Op{copying(0, 2), o, insertion("x")}, "", false)
		checkApply(t, name+", as the 8th", "abcd", append(slices.Repeat([]impl.Op{copying(0, 1)}, 7), o), "", false)
	}
}

func TestP26NoOperations(t *testing.T) {
	for length := range 9 {
		for _, ops := range [][]impl.Op{nil, {}} {
			checkApply(t, "no operations", "12345678"[:length], ops, "", true)
			if size := impl.DeltaSize(ops); size != 0 {
				t.Errorf("DeltaSize of no operations is %d", size)
			}
		}
	}
}

func TestP26BaseTooLong(t *testing.T) {
	for _, base := range []string{"123456789", "\u20ac\u20ac\u20ac", strings.Repeat("a", 100000)} {
		for _, ops := range [][]impl.Op{nil, {insertion("x")}, {copying(0, 1)}, {copying(0, 8)}, {copying(1, 8)}, {{}}} {
			checkApply(t, "a long base", base, ops, "", false)
		}
	}
}

func TestP26LargestSizes(t *testing.T) {
	one, eight := copying(0, 1), copying(0, 8)
	for _, test := range []struct {
		name string
		base string
		ops  []impl.Op
		text string
		ok   bool
	}{
		{"8 operations", "a", slices.Repeat([]impl.Op{one}, 8), "aaaaaaaa", true},
		{"9 operations", "a", slices.Repeat([]impl.Op{one}, 9), "", false},
		{"8 insertions", "", slices.Repeat([]impl.Op{insertion("x")}, 8), "xxxxxxxx", true},
		{"9 insertions", "", slices.Repeat([]impl.Op{insertion("x")}, 9), "", false},
		{"many operations", "a", slices.Repeat([]impl.Op{one}, 1000), "", false},
		{"a text of 8 bytes", "abcd", []impl.Op{copying(0, 4), insertion("1234")}, "abcd1234", true},
		{"a text of 9 bytes", "abcd", []impl.Op{copying(0, 4), insertion("12345")}, "", false},
		{"a text of 9 bytes by a copy", "abcd", []impl.Op{insertion("12345"), copying(0, 4)}, "", false},
		{"a text of 9 bytes by the 8th operation", "abcd", append(slices.Repeat([]impl.Op{one}, 7), copying(0, 2)), "", false},
		{"a text of 16 bytes", "12345678", []impl.Op{eight, eight}, "", false},
		{"a text of 64 bytes", "12345678", slices.Repeat([]impl.Op{eight}, 8), "", false},
		{"a text of runes", "\u20ac", []impl.Op{copying(0, 3), copying(0, 3), insertion("\u00e9")}, "\u20ac\u20ac\u00e9", true},
		{"a text of 3 runes and 9 bytes", "\u20ac", []impl.Op{copying(0, 3), copying(0, 3), copying(0, 3)}, "", false},
	} {
		checkApply(t, test.name, test.base, test.ops, test.text, test.ok)
	}
}

func TestP27Sizes(t *testing.T) {
	for _, test := range []struct {
		ops  []impl.Op
		size int
	}{
		{nil, 0},
		{[]impl.Op{}, 0},
		{[]impl.Op{insertion("a")}, 2},
		{[]impl.Op{insertion("12345678")}, 9},
		{[]impl.Op{insertion("\u20ac")}, 4},
		{[]impl.Op{copying(0, 1)}, 1},
		{[]impl.Op{copying(0, 8)}, 1},
		{[]impl.Op{insertion("x"), copying(2, 4), copying(0, 2)}, 4},
		{[]impl.Op{copying(0, 2), insertion("xyz"), copying(0, 2), insertion("z")}, 8},
		{[]impl.Op{{}}, 1},
		{[]impl.Op{{At: 5, Size: -3, Text: "abc"}}, 4},
		{[]impl.Op{{At: math.MaxInt, Size: math.MaxInt}, {At: math.MinInt, Size: math.MinInt, Text: "x"}}, 3},
		{[]impl.Op{insertion(strings.Repeat("x", 100000))}, 100001},
		{slices.Repeat([]impl.Op{insertion("ab"), copying(3, 3)}, 1000), 4000},
	} {
		if size := impl.DeltaSize(test.ops); size != test.size {
			t.Errorf("DeltaSize(%.200v) = %d, not %d", test.ops, size, test.size)
		}
	}
}

func TestP27SumOfTwoParts(t *testing.T) {
	eachDelta(t, 27, func(base string, ops []impl.Op) {
		size := impl.DeltaSize(ops)
		for i := range len(ops) + 1 {
			if first, rest := impl.DeltaSize(ops[:i]), impl.DeltaSize(ops[i:]); first+rest != size {
				t.Fatalf("DeltaSize(%#v) = %d, but %d and %d at %d", ops, size, first, rest, i)
			}
		}
	})
}

func TestMaxOps(t *testing.T) {
	if impl.MaxOps != 8 {
		t.Error("the limit is not that of the table of constants")
	}
}

func TestMemoryOfDeltaApply(t *testing.T) {
	for _, list := range [][]impl.Op{
		nil, {}, {insertion("12345678")}, {insertion("ab"), insertion("cd")}, {copying(0, 4)}, {copying(1, 2), insertion("xy")},
		{copying(0, 5)}, {insertion("xy"), {}}, slices.Repeat([]impl.Op{copying(0, 1)}, 9),
	} {
		base, ops := strings.Clone("abcd"), roomyOps(list)
		for i := range ops {
			ops[i].Text = strings.Clone(ops[i].Text)
		}
		before := base + wholeOps(ops)
		one, _ := impl.DeltaApply(base, ops)
		two, _ := impl.DeltaApply(base, ops)
		size := impl.DeltaSize(ops)
		if base+wholeOps(ops) != before {
			t.Errorf("DeltaApply or DeltaSize modified %#v", list)
		}
		checkTextsApart(t, "DeltaApply", append(textsOf(ops), base), []string{one, two})
		if again, _ := impl.DeltaApply(base, ops); again != two || impl.DeltaSize(ops) != size {
			t.Errorf("DeltaApply of %#v is %q now", list, again)
		}
	}
}
