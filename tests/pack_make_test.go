package tests

import (
	"slices"
	"strings"
	"testing"

	"loop.example/atomicpush/impl"
)

// sixteen returns 16 valid objects of all kinds.
func sixteen() []impl.Object {
	list := blobs("", "a", "abcd", "abcdx", "abcdxy", "bcdxy", "12345678", "12345678", "5678", "\x00\xff", "\xff\x00\xff")
	return append(list, tree(), tree(0, 1, 2, 990), commit("", 5), commit("abcd", 0, 990), commit("x1234567", 7))
}

func TestP28MakeThenObjects(t *testing.T) {
	eachObjectList(28, func(list []impl.Object) {
		p := mustPack(t, list)
		if got, ok := impl.PackObjects(p); !ok || !sameStore(got, list) {
			t.Fatalf("PackObjects of PackMake of %#v is %#v, %t", list, got, ok)
		}
	})
}

// A list need be no store: objects may come in any order, more than once, and with the id of another one.
func TestP28AnyOrder(t *testing.T) {
	for _, list := range [][]impl.Object{
		nil,
		{},
		{blob("")},
		{tree()},
		{blob("b"), blob("a")},
		{blob("a"), blob("b")},
		blobs("", "\xa5"),
		slices.Repeat(blobs("abcdefgh"), 16),
		slices.Repeat([]impl.Object{tree(1, 2)}, 16),
		slices.Repeat([]impl.Object{commit("same", 1, 2)}, 16),
		sixteen(),
	} {
		if got, ok := impl.PackObjects(mustPack(t, list)); !ok || !sameStore(got, list) {
			t.Errorf("PackObjects of PackMake of %#v is %#v, %t", list, got, ok)
		}
	}
}

// The entries are those of the chapter, and no others that have the same objects.
func TestP31TheEntries(t *testing.T) {
	eachObjectList(31, func(list []impl.Object) {
		if got, want := mustPack(t, list), packOf(list); !samePack(got, want) {
			t.Fatalf("PackMake(%#v) = %#v, not %#v", list, got, want)
		}
	})
}

func TestP31Bases(t *testing.T) {
	tests := []struct {
		name  string
		list  []impl.Object
		bases []int
	}{
		{"nothing in common", blobs("abcd", "efgh", "ijkl"), []int{-1, -1, -1}},
		{"one byte in common", blobs("abcd", "dxyz", "a"), []int{-1, -1, -1}},
		{"two bytes in common", blobs("ab", "ab"), []int{-1, 0}},
		{"two bytes at the end", blobs("xxab", "yyab"), []int{-1, 0}},
		{"two bytes in between, as large as without a base", blobs("ab", "xaby"), []int{-1, -1}},
		{"three bytes in between", blobs("abc", "xabcy"), []int{-1, 0}},
		{"the first of equal bases", blobs("abcd", "abcd!", "xyzw", "abcd"), []int{-1, 0, -1, 0}},
		{"the first of equal deltas of different bases", blobs("abcdx", "yabcd", "abcd"), []int{-1, 0, 0}},
		{"a later base that is better", blobs("abcd", "abcdef", "abcdef12"), []int{-1, 0, 1}},
		{"an earlier base that is better", blobs("abcdefgh", "abcdxxxx", "abcdefg"), []int{-1, 0, 0}},
		{"the best base in between", blobs("abxx", "abcdef", "abyyyy", "abcdeg"), []int{-1, 0, 0, 1}},
		{"the last base only", blobs("zz", "yy", "abcdef", "bcdef"), []int{-1, -1, -1, 2}},
		{"no base that is as large as none, ahead of one that is better", blobs("ab", "abcq", "xabcy"), []int{-1, 0, 1}},
		{"empty texts", blobs("", "", "ab", ""), []int{-1, -1, -1, -1}},
		{"the empty text after itself and others", []impl.Object{blob("abcd"), tree(1), commit("", 1), blob("")}, []int{-1, -1, -1, -1}},
		{"commits and blobs", []impl.Object{commit("abcdef", 3), blob("abcdef"), commit("xabcdef", 4)}, []int{-1, 0, 0}},
		{"trees in between", []impl.Object{tree(), blob("abcdef"), tree(3), commit("abcdef", 4), tree(5), blob("bcdef")}, []int{-1, -1, -1, 1, -1, 1}},
		{"bytes that are no text", blobs("\x00\xff\x80", "\xff\x80\x00"), []int{-1, 0}},
		{"no objects", nil, []int{}},
	}
	for _, test := range tests {
		got := []int{}
		for _, e := range mustPack(t, test.list) {
			got = append(got, e.Base)
		}
		if !slices.Equal(got, test.bases) {
			t.Errorf("%s: the bases of %#v are %v, not %v", test.name, test.list, got, test.bases)
		}
	}
}

func TestP29Chains(t *testing.T) {
	tests := []struct {
		name   string
		texts  []string
		bases  []int
		depths []int
	}{
		{"the greatest depth", []string{"abc", "abcd", "abcde"}, []int{-1, 0, 1}, []int{0, 1, 2}},
		{"no base of the greatest depth", []string{"abc", "abcd", "abcde", "abcdef"}, []int{-1, 0, 1, 1}, []int{0, 1, 2, 2}},
		{"not the same text at the greatest depth", []string{"abc", "abcd", "abcde", "abcde"}, []int{-1, 0, 1, 1}, []int{0, 1, 2, 2}},
		{"another beginning instead", []string{"abc", "abcd", "xyabcd", "xyab"}, []int{-1, 0, 1, 0}, []int{0, 1, 2, 1}},
		{"no base at all instead", []string{"ab", "ab12", "3412", "x34y", "x34y"}, []int{-1, 0, 1, -1, 3}, []int{0, 1, 2, 0, 1}},
		{"two chains", []string{"abc", "123", "abcd", "1234", "abcde", "12345", "abcdef", "123456"}, []int{-1, -1, 0, 1, 2, 3, 2, 3}, []int{0, 0, 1, 1, 2, 2, 2, 2}},
	}
	for _, test := range tests {
		p := mustPack(t, blobs(test.texts...))
		for i, e := range p {
			if depth := impl.PackDepth(p, i); e.Base != test.bases[i] || depth != test.depths[i] {
				t.Errorf("%s: entry %d of %q has base %d and depth %d, not %d and %d", test.name, i, test.texts, e.Base, depth, test.bases[i], test.depths[i])
			}
		}
	}
}

func TestP29Depths(t *testing.T) {
	deepest := 0
	eachObjectList(29, func(list []impl.Object) {
		p := mustPack(t, list)
		depths := []int{}
		for i, e := range p {
			want := 0
			if e.Base != -1 {
				want = depths[e.Base] + 1
			}
			depths = append(depths, impl.PackDepth(p, i))
			if depths[i] != want || want > 2 {
				t.Fatalf("PackDepth of %d in PackMake(%#v) = %#v is %d", i, list, p, depths[i])
			}
			deepest = max(deepest, depths[i])
		}
	})
	if deepest != 2 {
		t.Errorf("the greatest depth is %d", deepest)
	}
}

func TestP30Sizes(t *testing.T) {
	eachObjectList(30, func(list []impl.Object) {
		for i, e := range mustPack(t, list) {
			size, alone := impl.DeltaSize(e.Ops), impl.DeltaSize(impl.DeltaMake("", list[i].Text))
			if size > alone || e.Base != -1 && size >= alone || e.Base == -1 && size != alone {
				t.Fatalf("entry %d of PackMake(%#v) is %#v", i, list, e)
			}
		}
	})
}

func TestP31NoSmallerDelta(t *testing.T) {
	eachObjectList(310, func(list []impl.Object) {
		p := mustPack(t, list)
		for i, e := range p {
			size := impl.DeltaSize(e.Ops)
			for base := range i {
				other := impl.DeltaSize(impl.DeltaMake(list[base].Text, list[i].Text))
				if impl.PackDepth(p, base) < 2 && (other < size || other == size && base < e.Base) {
					t.Fatalf("entry %d of PackMake(%#v) is %#v, but base %d is better", i, list, e, base)
				}
			}
		}
	})
}

func TestP31Operations(t *testing.T) {
	list := []impl.Object{blob("abcdef"), commit("abcdefg", 3, 4), tree(3), blob("xcdefab"), blob(""), blob("q")}
	want := []impl.PackEntry{
		packed(list[0], -1, insertion("abcdef")),
		packed(list[1], 0, copying(0, 6), insertion("g")),
		packed(list[2], -1),
		packed(list[3], 0, insertion("x"), copying(2, 4), copying(0, 2)),
		packed(list[4], -1),
		packed(list[5], -1, insertion("q")),
	}
	if got := mustPack(t, list); !samePack(got, want) {
		t.Errorf("PackMake(%#v) = %#v, not %#v", list, got, want)
	}
}

func TestP32NumberOfObjects(t *testing.T) {
	for _, o := range []impl.Object{blob(""), blob("12345678"), tree(), tree(0, 1, 2, 990), commit("", 0), commit("12345678", 1)} {
		for _, size := range []int{0, 1, 2, 15, 16, 17, 18, 1000} {
			list := slices.Repeat([]impl.Object{o}, size)
			p, ok := impl.PackMake(list)
			if ok != (size <= 16) || ok && !samePack(p, packOf(list)) || !ok && len(p) != 0 {
				t.Errorf("PackMake of %d times %#v is %#v, %t", size, o, p, ok)
			}
		}
	}
	if p, ok := impl.PackMake(append(sixteen(), blob("z"))); ok || len(p) != 0 {
		t.Errorf("PackMake of 17 objects is %#v, %t", p, ok)
	}
}

func TestP32InvalidObjects(t *testing.T) {
	for _, o := range append(invalidObjects(), blob(strings.Repeat("x", 100000)), tree(make([]int, 100000)...)) {
		for _, list := range [][]impl.Object{
			{o},
			{o, blob("abcd")},
			{blob("abcd"), o},
			{blob("abcd"), o, tree(3)},
			append(sixteen()[:15], o),
			append([]impl.Object{o}, sixteen()...),
		} {
			if p, ok := impl.PackMake(list); ok || len(p) != 0 {
				t.Errorf("PackMake(%s) = %#v, %t", shown(list), p, ok)
			}
		}
	}
}

func TestP33FirstObjects(t *testing.T) {
	eachObjectList(33, func(list []impl.Object) {
		p := mustPack(t, list)
		for size := range len(list) {
			if first := mustPack(t, list[:size]); !samePack(first, p[:size]) {
				t.Fatalf("PackMake of the first %d of %#v is %#v, not the beginning of %#v", size, list, first, p)
			}
		}
	})
}

func TestP37KindsAndLinks(t *testing.T) {
	check := func(list []impl.Object) {
		for i, e := range mustPack(t, list) {
			if e.Kind != list[i].Kind || !slices.Equal(e.Links, list[i].Links) {
				t.Fatalf("entry %d of PackMake(%#v) is %#v", i, list, e)
			}
		}
	}
	check(sixteen())
	eachObjectList(37, check)
}

func TestMemoryOfPackMake(t *testing.T) {
	wrong := append(sixteen()[:15], blob("123456789"))
	for _, plain := range [][]impl.Object{nil, {}, sixteen(), sixteen()[12:], wrong, append(sixteen(), blob("a")), {tree(0, 1, 2, 3), tree(0, 1, 2, 3)}} {
		list := roomyObjects(plain)
		for i := range list {
			list[i].Text = strings.Clone(list[i].Text)
		}
		before := wholeObjects(list)
		one, _ := impl.PackMake(list)
		two, _ := impl.PackMake(list)
		if wholeObjects(list) != before {
			t.Errorf("PackMake modified %#v", plain)
		}
		checkApart(t, "PackMake", []any{list}, []any{one, two})
		checkTextsApart(t, "PackMake", textsOfObjects(list), slices.Concat(textsOfPack(one), textsOfPack(two)))
		for i := range one {
			one[i].Base = -7
			for j := range one[i].Links {
				one[i].Links[j] = -7
			}
			for j := range one[i].Ops {
				one[i].Ops[j] = insertion("other")
			}
		}
		if again, _ := impl.PackMake(list); !samePack(again, two) || wholeObjects(list) != before {
			t.Errorf("PackMake(%#v) is %#v now", plain, again)
		}
	}
}
