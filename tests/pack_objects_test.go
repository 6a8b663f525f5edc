package tests

import (
	"math"
	"slices"
	"strings"
	"testing"

	"loop.example/atomicpush/impl"
)

// checkObjects fails if PackObjects and PackSum do not answer what chapter 3 asks.
func checkObjects(t *testing.T, name string, p []impl.PackEntry) {
	t.Helper()
	want, right := unpacked(p)
	if got, ok := impl.PackObjects(p); ok != right || !sameStore(got, want) {
		t.Fatalf("%s: PackObjects(%s) = %#v, %t, not %#v, %t", name, shown(p), got, ok, want, right)
	}
	if sum := impl.PackSum(p); sum != sumOf(p) {
		t.Fatalf("%s: PackSum(%s) = %d, not %d", name, shown(p), sum, sumOf(p))
	}
}

// checkNoObjects fails if a pack has objects or a sum.
func checkNoObjects(t *testing.T, name string, p []impl.PackEntry) {
	t.Helper()
	if _, right := unpacked(p); right {
		t.Fatalf("%s: the pack %#v is right", name, p)
	}
	checkObjects(t, name, p)
}

// sumOf computes the sum of a pack as chapter 3 tells.
func sumOf(p []impl.PackEntry) int {
	list, ok := unpacked(p)
	if !ok {
		return -1
	}
	sum := len(p)
	for _, o := range list {
		sum = (sum*613 + digest(o) + 1) % 991
	}
	return sum
}

// Packs may have other bases and other operations than those that PackMake chooses.
func TestP38Objects(t *testing.T) {
	tests := []struct {
		name string
		p    []impl.PackEntry
		list []impl.Object
	}{
		{"no entries", nil, nil},
		{"no entries, in an empty slice", []impl.PackEntry{}, nil},
		{"an empty blob", []impl.PackEntry{packed(blob(""), -1)}, blobs("")},
		{"an empty tree", []impl.PackEntry{packed(tree(), -1)}, []impl.Object{tree()}},
		{"a blob", []impl.PackEntry{packed(blob(""), -1, insertion("12345678"))}, blobs("12345678")},
		{"a tree", []impl.PackEntry{packed(tree(0, 1, 989, 990), -1)}, []impl.Object{tree(0, 1, 989, 990)}},
		{"a commit", []impl.PackEntry{packed(commit("", 5, 6), -1, insertion("a"), insertion("b"))}, []impl.Object{commit("ab", 5, 6)}},
		{"a commit without a text", []impl.PackEntry{packed(commit("", 990), -1)}, []impl.Object{commit("", 990)}},
		{"the same entry twice", []impl.PackEntry{chained(-1), chained(-1)}, blobs("abcd", "abcd")},
		{"a part of one byte", []impl.PackEntry{chained(-1), packed(blob(""), 0, copying(3, 1), copying(0, 1))}, blobs("abcd", "da")},
		{"a base of which nothing is used", []impl.PackEntry{chained(-1), packed(blob(""), 0, insertion("x")), packed(blob(""), 1)}, blobs("abcd", "x", "")},
		{"an empty base", []impl.PackEntry{packed(blob(""), -1), packed(blob(""), 0, insertion("x"))}, blobs("", "x")},
		{"a tree with a base", []impl.PackEntry{chained(-1), packed(tree(7), 0)}, []impl.Object{blob("abcd"), tree(7)}},
		{"a tree as a base", []impl.PackEntry{packed(tree(7), -1), packed(blob(""), 0, insertion("x")), packed(tree(8), 0)}, []impl.Object{tree(7), blob("x"), tree(8)}},
		{"a commit as a base of a blob", []impl.PackEntry{packed(commit("", 3), -1, insertion("fix1")), packed(blob(""), 0, copying(0, 3))}, []impl.Object{commit("fix1", 3), blob("fix")}},
		{"a blob as a base of a commit", []impl.PackEntry{chained(-1), packed(commit("", 3), 0, copying(1, 2))}, []impl.Object{blob("abcd"), commit("bc", 3)}},
		{"a chain", []impl.PackEntry{chained(-1), packed(blob(""), 0, copying(2, 2), insertion("x")), packed(blob(""), 1, copying(1, 2), insertion("yz"))}, blobs("abcd", "cdx", "dxyz")},
		{"the base in between", []impl.PackEntry{chained(-1), packed(blob(""), -1, insertion("1234")), packed(blob(""), -1, insertion("xyzw")), packed(blob(""), 1, copying(1, 3))}, blobs("abcd", "1234", "xyzw", "234")},
		{"bytes that are no text", []impl.PackEntry{packed(blob(""), -1, insertion("\xff\x00")), packed(blob(""), 0, copying(1, 1), copying(0, 1))}, blobs("\xff\x00", "\x00\xff")},
		{"ids that are the same", []impl.PackEntry{packed(blob(""), -1), packed(blob(""), -1, insertion("\xa5"))}, blobs("", "\xa5")},
	}
	for _, test := range tests {
		if got, ok := impl.PackObjects(test.p); !ok || !sameStore(got, test.list) {
			t.Errorf("%s: PackObjects(%#v) = %#v, %t", test.name, test.p, got, ok)
		}
		checkObjects(t, test.name, test.p)
	}
}

func TestP38AnyPacks(t *testing.T) {
	eachPack(t, 38, func(p []impl.PackEntry) {
		checkObjects(t, "any pack", p)
		list, ok := impl.PackObjects(p)
		if !ok {
			return
		}
		if len(list) != len(p) {
			t.Fatalf("PackObjects(%#v) = %#v", p, list)
		}
		for i, o := range list {
			if depth := impl.PackDepth(p, i); !impl.ObjectValid(o) || depth < 0 || depth > 2 {
				t.Fatalf("PackObjects(%#v) = %#v, and entry %d has depth %d", p, list, i, depth)
			}
		}
	})
}

// The depth counts, and not the texts: a text may be far from the empty one, or a base useless.
func TestP38Chains(t *testing.T) {
	for size := range 16 {
		p := chain(size)
		if _, ok := impl.PackObjects(p); ok != (size <= 3) {
			t.Errorf("PackObjects of a chain of %d entries: %t", size, ok)
		}
		checkObjects(t, "a chain", p)
	}
	useless := []impl.PackEntry{packed(tree(), -1), packed(tree(), 0), packed(tree(), 1), packed(tree(), 2)}
	checkObjects(t, "a chain of trees", useless[:3])
	checkNoObjects(t, "a chain of trees that is too long", useless)
	checkNoObjects(t, "a chain behind another one", append(chain(3), chained(-1), chained(3), chained(4), chained(5)))
	checkNoObjects(t, "a chain ahead of another one", append(chain(4), chained(-1)))
	checkNoObjects(t, "a chain at the end of 16 entries", append(slices.Repeat([]impl.PackEntry{chained(-1)}, 13), chained(0), chained(13), chained(14)))
	checkObjects(t, "many entries of the greatest depth", append(chain(2), slices.Repeat([]impl.PackEntry{chained(1)}, 14)...))
	checkObjects(t, "chains through each other", []impl.PackEntry{chained(-1), chained(-1), chained(0), chained(1), chained(2), chained(3), chained(0)})
}

func TestP38NumberOfEntries(t *testing.T) {
	for _, size := range []int{0, 1, 15, 16, 17, 18, 1000, 100000} {
		p := slices.Repeat([]impl.PackEntry{chained(-1)}, size)
		list, ok := impl.PackObjects(p)
		if ok != (size <= 16) || ok && len(list) != size || !ok && len(list) != 0 || (impl.PackSum(p) < 0) == ok {
			t.Errorf("PackObjects of %d entries is %#v, %t", size, list, ok)
		}
	}
	full := mustPack(t, sixteen())
	checkObjects(t, "16 entries", full)
	checkNoObjects(t, "17 entries", append(full, packed(blob(""), -1)))
}

func TestP34ItsOwnBase(t *testing.T) {
	for i := range 16 {
		p := mustPack(t, sixteen())
		p[i].Base = i
		checkNoObjects(t, "its own base", p)
		checkNoObjects(t, "its own base at the end", p[:i+1])
		p[i].Ops = nil
		checkNoObjects(t, "its own base without operations", p)
		p[i] = packed(blob(""), i, insertion("x"))
		checkNoObjects(t, "its own base, which is not used", p)
	}
}

func TestP34BasesThatDoNotComeEarlier(t *testing.T) {
	for i := range 4 {
		for _, base := range []int{math.MinInt, math.MinInt + 1, -1 << 32, -100, -3, -2, i, i + 1, i + 2, 3, 4, 5, 15, 16, 17, 1 << 32, math.MaxInt - 1, math.MaxInt} {
			for _, ops := range [][]impl.Op{nil, {insertion("x")}, {copying(0, 2)}} {
				p := slices.Repeat([]impl.PackEntry{chained(-1)}, 4)
				p[i].Base, p[i].Ops = base, ops
				if base < 0 || base >= i {
					checkNoObjects(t, "a base that does not come earlier", p)
				}
			}
		}
	}
	checkNoObjects(t, "bases in a circle", []impl.PackEntry{packed(blob(""), 1), packed(blob(""), 0)})
	checkNoObjects(t, "a later base ahead of entries that are right", []impl.PackEntry{packed(blob(""), 1), chained(-1), chained(1)})
}

func TestP38OperationsThatDoNotFit(t *testing.T) {
	long := slices.Repeat([]impl.Op{copying(0, 1)}, 9)
	for name, ops := range map[string][]impl.Op{
		"nothing":                        {{}},
		"an empty insertion at 1":        {{At: 1}},
		"an insertion of 9 bytes":        {insertion("123456789")},
		"insertions of 9 bytes":          {insertion("12345"), insertion("1234")},
		"an insertion at 1":              {{At: 1, Text: "x"}},
		"a copy with a text":             {{Size: 1, Text: "x"}},
		"a copy beyond the end":          {copying(2, 3)},
		"a copy from the end on":         {copying(4, 1)},
		"a copy from before the start":   {copying(-1, 2)},
		"a copy of a negative size":      {copying(2, -1)},
		"a sum that wraps around":        {copying(math.MaxInt, 2)},
		"a size that wraps around":       {copying(2, math.MaxInt)},
		"9 operations":                   long,
		"copies of 9 bytes":              {copying(0, 4), copying(0, 4), copying(0, 1)},
		"a copy behind what is right":    {insertion("x"), copying(0, 4), copying(1, 4)},
		"a copy of what has been made":   {insertion("xyz"), copying(3, 2)},
		"many operations":                slices.Repeat(long, 1000),
		"an insertion of too many bytes": {insertion(strings.Repeat("x", 100000))},
	} {
		for _, o := range []impl.Object{blob(""), commit("", 3), tree(3)} {
			checkNoObjects(t, name, []impl.PackEntry{chained(-1), packed(o, 0, ops...)})
			checkNoObjects(t, name+", ahead of others", []impl.PackEntry{chained(-1), packed(o, 0, ops...), chained(0)})
			checkNoObjects(t, name+", without a base", []impl.PackEntry{packed(o, -1, ops...)})
		}
	}
	checkNoObjects(t, "a copy without a base", []impl.PackEntry{packed(blob(""), -1, copying(0, 1))})
	checkNoObjects(t, "a copy without a base behind others", []impl.PackEntry{chained(-1), chained(-1), packed(blob(""), -1, copying(0, 1))})
	checkNoObjects(t, "a copy of an empty base", []impl.PackEntry{packed(blob(""), -1), packed(blob(""), 0, copying(0, 1))})
	checkNoObjects(t, "a copy of a tree", []impl.PackEntry{packed(tree(1, 2), -1), packed(blob(""), 0, copying(0, 2))})
	checkNoObjects(t, "a copy of the base's base", []impl.PackEntry{chained(-1), packed(blob(""), 0, copying(0, 2)), packed(blob(""), 1, copying(2, 2))})
}

func TestP38InvalidObjects(t *testing.T) {
	for _, o := range invalidObjects() {
		e := packed(o, -1)
		if o.Text != "" {
			e.Ops = []impl.Op{insertion(o.Text)}
		}
		for _, p := range [][]impl.PackEntry{{e}, {e, chained(-1)}, {chained(-1), e}, {chained(-1), e, chained(0)}, append(mustPack(t, sixteen()[:15]), e)} {
			checkNoObjects(t, "an invalid object", p)
		}
	}
	checkNoObjects(t, "a tree with the text of its base", []impl.PackEntry{chained(-1), packed(tree(1), 0, copying(0, 4))})
	checkNoObjects(t, "many links", []impl.PackEntry{packed(tree(make([]int, 100000)...), -1)})
}

// Entries of packs of PackMake are changed in one place; many of them are still right, and then have other objects.
func TestP38ChangedEntries(t *testing.T) {
	changed := 0
	check := func(list []impl.Object) {
		p := mustPack(t, list)
		for i, e := range p {
			for _, other := range changedEntries(e) {
				q := copyPack(p)
				q[i] = other
				checkObjects(t, "a changed entry", q)
				changed++
			}
		}
	}
	check(blobs("abcd", "abcde", "abcdex", "bcdex"))
	check(sixteen())
	n := numbers(380)
	for range 40 {
		list := []impl.Object{}
		for len(list) < 5 {
			list = append(list, n.anyObject(list))
		}
		check(list)
	}
	if changed < 5000 {
		t.Errorf("only %d changes", changed)
	}
}

func TestP39FirstEntries(t *testing.T) {
	eachPack(t, 39, func(p []impl.PackEntry) {
		list, ok := impl.PackObjects(p)
		for size := range p {
			first, fine := impl.PackObjects(p[:size])
			if ok && (!fine || !sameStore(first, list[:size])) {
				t.Fatalf("PackObjects(%#v) = %#v, but %#v, %t for the first %d", p, list, first, fine, size)
			}
			if want, right := unpacked(p[:size]); fine != right || !sameStore(first, want) {
				t.Fatalf("PackObjects(%#v) = %#v, %t", p[:size], first, fine)
			}
		}
	})
}

// Without its first entry, a pack has other bases or none.
func TestP39LastEntries(t *testing.T) {
	eachObjectList(390, func(list []impl.Object) {
		p := mustPack(t, list)
		for i := range p {
			checkObjects(t, "the last entries", p[i:])
			checkObjects(t, "one entry less", without(p, i))
		}
	})
}

func TestMemoryOfPackObjects(t *testing.T) {
	full := mustPack(t, sixteen())
	broken := append(copyPack(full[:15]), packed(blob(""), 15))
	for _, plain := range [][]impl.PackEntry{nil, {}, full, full[:3], broken, append(copyPack(full), chained(-1)), chain(3), chain(4)} {
		p := roomyPack(plain)
		for i := range p {
			for j := range p[i].Ops {
				p[i].Ops[j].Text = strings.Clone(p[i].Ops[j].Text)
			}
		}
		before := wholePack(p)
		sum, depth := impl.PackSum(p), impl.PackDepth(p, len(p)-1)
		one, _ := impl.PackObjects(p)
		two, _ := impl.PackObjects(p)
		if wholePack(p) != before {
			t.Errorf("PackObjects, PackSum or PackDepth modified %#v", plain)
		}
		checkApart(t, "PackObjects", []any{p}, []any{one, two})
		checkTextsApart(t, "PackObjects", textsOfPack(p), slices.Concat(textsOfObjects(one), textsOfObjects(two)))
		for i := range one {
			one[i].Text = "other"
			for j := range one[i].Links {
				one[i].Links[j] = -7
			}
		}
		again, _ := impl.PackObjects(p)
		if !sameStore(again, two) || wholePack(p) != before || impl.PackSum(p) != sum || impl.PackDepth(p, len(p)-1) != depth {
			t.Errorf("PackObjects(%#v) is %#v now", plain, again)
		}
	}
}
