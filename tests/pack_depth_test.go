package tests

import (
	"math"
	"slices"
	"testing"

	"loop.example/atomicpush/impl"
)

// basesOf returns a pack with the given bases.
func basesOf(bases ...int) []impl.PackEntry {
	result := []impl.PackEntry{}
	for _, base := range bases {
		result = append(result, chained(base))
	}
	return result
}

// checkDepths fails if the entries of a pack do not have the given depths, or other indexes have one.
func checkDepths(t *testing.T, p []impl.PackEntry, depths []int) {
	t.Helper()
	for i, want := range depths {
		if got := impl.PackDepth(p, i); got != want {
			t.Errorf("PackDepth(%s, %d) = %d, not %d", shown(p), i, got, want)
		}
	}
	for _, i := range []int{math.MinInt, math.MinInt + 1, -1 << 32, -2, -1, len(p), len(p) + 1, 1 << 32, math.MaxInt - 1, math.MaxInt} {
		if got := impl.PackDepth(p, i); got != -1 {
			t.Errorf("PackDepth(%s, %d) = %d", shown(p), i, got)
		}
	}
}

func TestP29DepthOfBases(t *testing.T) {
	for _, test := range []struct {
		bases  []int
		depths []int
	}{
		{nil, nil},
		{[]int{-1}, []int{0}},
		{[]int{-1, -1, -1}, []int{0, 0, 0}},
		{[]int{-1, 0}, []int{0, 1}},
		{[]int{-1, 0, 1}, []int{0, 1, 2}},
		{[]int{-1, 0, 0, 0}, []int{0, 1, 1, 1}},
		{[]int{-1, -1, 0, 1, 3, 2}, []int{0, 0, 1, 1, 2, 2}},
		{[]int{-1, 0, -1, 1, 2, 0}, []int{0, 1, 0, 2, 1, 1}},
		{[]int{-1, 0, 1, 2}, []int{0, 1, 2, 3}},
		{[]int{-1, 0, 1, 2, 3, 0, 4, 6}, []int{0, 1, 2, 3, 4, 1, 5, 6}},
	} {
		checkDepths(t, basesOf(test.bases...), test.depths)
	}
	checkDepths(t, nil, nil)
}

// The depth of an entry is not limited, and the number of entries is not, either: only PackObjects limits them.
func TestP29DeepChains(t *testing.T) {
	for _, size := range []int{4, 16, 17, 18, 1000} {
		depths := []int{}
		for i := range size {
			depths = append(depths, i)
		}
		checkDepths(t, chain(size), depths)
	}
	p := chain(100000)
	if got := impl.PackDepth(p, 99999); got != 99999 {
		t.Errorf("PackDepth of the last entry of a long chain is %d", got)
	}
	p[99999].Base = 99999
	if got := impl.PackDepth(p, 0); got != -1 {
		t.Errorf("PackDepth of the first entry ahead of a wrong one is %d", got)
	}
}

// One base that does not come earlier is enough, whichever entry is asked for.
func TestP29WrongBases(t *testing.T) {
	for wrong := range 5 {
		for _, base := range []int{math.MinInt, -1 << 32, -100, -3, -2, wrong, wrong + 1, 5, 6, 16, 1 << 32, math.MaxInt} {
			p := basesOf(-1, 0, 1, 0, -1)
			p[wrong].Base = base
			checkDepths(t, p, []int{-1, -1, -1, -1, -1})
		}
	}
	checkDepths(t, basesOf(1, 0), []int{-1, -1})
	checkDepths(t, basesOf(0), []int{-1})
	checkDepths(t, basesOf(-1, 2, -1), []int{-1, -1, -1})
}

// Only bases count: the objects and the operations may be invalid.
func TestP29DepthOfInvalidObjects(t *testing.T) {
	p := []impl.PackEntry{{Base: -1}, packed(blob("x"), 0, impl.Op{}), packed(tree(9, 9), 1, copying(math.MaxInt, math.MaxInt)), packed(commit(""), 0)}
	checkDepths(t, p, []int{0, 1, 2, 1})
	p = append(p, impl.PackEntry{})
	checkDepths(t, p, []int{0, 1, 2, 1, 1})
	checkDepths(t, []impl.PackEntry{{}}, []int{-1})
}

func TestP29DepthOfAnyPack(t *testing.T) {
	n := numbers(290)
	for range 5000 {
		p, depths := []impl.PackEntry{}, []int{}
		for i := range n.below(20) {
			base, depth := n.below(i+1)-1, 0
			if base >= 0 {
				depth = depths[base] + 1
			}
			p, depths = append(p, chained(base)), append(depths, depth)
		}
		checkDepths(t, p, depths)
	}
}

func TestP35Sums(t *testing.T) {
	for _, test := range []struct {
		list []impl.Object
		sum  int
	}{
		{nil, 0},
		{blobs(""), (613 + 100 + 1) % 991},
		{blobs("a"), (613 + (100*257+98)%991 + 1) % 991},
		{[]impl.Object{tree()}, (613 + 200 + 1) % 991},
		{[]impl.Object{commit("", 5)}, (613 + (301*613+6)%991 + 1) % 991},
		{blobs("", ""), ((2*613+101)%991*613 + 101) % 991},
		{[]impl.Object{blob(""), tree()}, ((2*613+101)%991*613 + 201) % 991},
		{[]impl.Object{tree(), blob("")}, ((2*613+201)%991*613 + 101) % 991},
	} {
		if sum := impl.PackSum(mustPack(t, test.list)); sum != test.sum {
			t.Errorf("PackSum of the pack of %#v is %d, not %d", test.list, sum, test.sum)
		}
	}
}

// The sum is that of the objects: other bases and operations for the same objects do not change it.
func TestP35SumOfOtherDeltas(t *testing.T) {
	p := []impl.PackEntry{chained(-1), packed(blob(""), -1, insertion("abcd")), packed(blob(""), 0, copying(0, 1), insertion("b"), copying(2, 2))}
	q := chain(3)
	if a, b := impl.PackSum(p), impl.PackSum(q); a != b || a != sumOf(q) {
		t.Errorf("PackSum of the same objects is %d and %d, not %d", a, b, sumOf(q))
	}
}

func TestP35SumIfAndOnlyIf(t *testing.T) {
	eachPack(t, 35, func(p []impl.PackEntry) {
		sum := impl.PackSum(p)
		_, ok := impl.PackObjects(p)
		if sum != sumOf(p) || (sum >= 0) != ok || sum < -1 || sum >= 991 {
			t.Fatalf("PackSum(%#v) = %d, and PackObjects: %t", p, sum, ok)
		}
	})
}

func TestP36OtherFirstByte(t *testing.T) {
	n := numbers(36)
	eachObjectList(360, func(list []impl.Object) {
		sum := impl.PackSum(mustPack(t, list))
		for i, o := range list {
			if o.Text == "" {
				continue
			}
			other := slices.Clone(list)
			first := o.Text[0] + byte(1+n.below(255))
			other[i].Text = string([]byte{first}) + o.Text[1:]
			if impl.PackSum(mustPack(t, other)) == sum {
				t.Fatalf("PackSum of the packs of %#v and %#v is %d", list, other, sum)
			}
		}
	})
}

func TestP36EachFirstByte(t *testing.T) {
	for at := range 3 {
		seen := map[int]bool{}
		for b := range 256 {
			list := []impl.Object{blob("abcd"), commit("abcde", 4), blob("bcd")}
			list[at].Text = string([]byte{byte(b)}) + list[at].Text[1:]
			seen[impl.PackSum(mustPack(t, list))] = true
		}
		if len(seen) != 256 || seen[-1] {
			t.Errorf("there are %d sums for 256 first bytes of object %d", len(seen), at)
		}
	}
}

func TestMaxDepth(t *testing.T) {
	if impl.MaxDepth != 2 {
		t.Error("the limit is not that of the table of constants")
	}
}
