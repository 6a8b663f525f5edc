package tests

import (
	"slices"
	"testing"

	"loop.example/atomicpush/impl"
)

// checkDiffer fails if RefsDiffer does not give the updates, or those of the other direction.
func checkDiffer(t *testing.T, name string, from []int, to []int, want []impl.Update) {
	t.Helper()
	if got := impl.RefsDiffer(from, to); !slices.Equal(got, want) {
		t.Fatalf("%s: RefsDiffer(%s, %s) = %v, not %v", name, shown(from), shown(to), got, want)
	}
	if got := impl.RefsDiffer(to, from); !slices.Equal(got, exchanged(want)) {
		t.Fatalf("%s: RefsDiffer(%s, %s) = %v, not %v", name, shown(to), shown(from), got, exchanged(want))
	}
}

func TestP70Differ(t *testing.T) {
	none := []int{-1, -1, -1, -1}
	refs := []int{-1, 1, 7, 3}
	for _, test := range []struct {
		name string
		from []int
		to   []int
		want []impl.Update
	}{
		{"equal refs", refs, []int{-1, 1, 7, 3}, nil},
		{"equal refs without ids", none, []int{-1, -1, -1, -1}, nil},
		{"equal refs of one id", []int{0, 0, 0, 0}, []int{0, 0, 0, 0}, nil},
		{"equal refs of the greatest id", []int{990, 990, 990, 990}, []int{990, 990, 990, 990}, nil},
		{"the first ref", refs, []int{5, 1, 7, 3}, []impl.Update{update(0, -1, 5)}},
		{"the second ref", refs, []int{-1, 0, 7, 3}, []impl.Update{update(1, 1, 0)}},
		{"the third ref", refs, []int{-1, 1, -1, 3}, []impl.Update{update(2, 7, -1)}},
		{"the last ref", refs, []int{-1, 1, 7, 990}, []impl.Update{update(3, 3, 990)}},
		{"the first and the last ref", refs, []int{3, 1, 7, -1}, []impl.Update{update(0, -1, 3), update(3, 3, -1)}},
		{"two refs in between", refs, []int{-1, 7, 1, 3}, []impl.Update{update(1, 1, 7), update(2, 7, 1)}},
		{"three refs", refs, []int{0, 1, 8, 2}, []impl.Update{update(0, -1, 0), update(2, 7, 8), update(3, 3, 2)}},
		{"all refs", refs, []int{1, 7, 3, -1}, []impl.Update{update(0, -1, 1), update(1, 1, 7), update(2, 7, 3), update(3, 3, -1)}},
		{"from refs without ids", none, []int{0, 990, 5, 5}, []impl.Update{update(0, -1, 0), update(1, -1, 990), update(2, -1, 5), update(3, -1, 5)}},
		{"no id and the least one", none, []int{-1, 0, -1, 0}, []impl.Update{update(1, -1, 0), update(3, -1, 0)}},
		{"the least and the greatest id", []int{0, 990, 0, 990}, []int{990, 990, 0, 0}, []impl.Update{update(0, 0, 990), update(3, 990, 0)}},
		{"the same ids in other places", []int{1, 2, 3, 4}, []int{4, 1, 2, 3}, []impl.Update{update(0, 1, 4), update(1, 2, 1), update(2, 3, 2), update(3, 4, 3)}},
	} {
		checkDiffer(t, test.name, test.from, test.to, test.want)
	}
}

func TestP70DifferThenApply(t *testing.T) {
	eachRefsPair(70, func(from []int, to []int) {
		list := impl.RefsDiffer(from, to)
		if slices.Equal(from, to) {
			if len(list) != 0 {
				t.Fatalf("RefsDiffer(%v, %v) = %v", from, to, list)
			}
			return
		}
		if got, ok := impl.RefsApply(from, list); !ok || !slices.Equal(got, to) {
			t.Fatalf("RefsApply(%v, %v) = %v, %t, not %v", from, list, got, ok, to)
		}
	})
}

// The updates are those of the refs that differ, and no others that lead to the same refs.
func TestP70OnlyWhatDiffers(t *testing.T) {
	eachRefsPair(170, func(from []int, to []int) {
		list := impl.RefsDiffer(from, to)
		if want := differing(from, to); !slices.Equal(list, want) {
			t.Fatalf("RefsDiffer(%v, %v) = %v, not %v", from, to, list, want)
		}
		if impl.UpdatesValid(list) == slices.Equal(from, to) {
			t.Fatalf("UpdatesValid of RefsDiffer(%v, %v) is %t", from, to, impl.UpdatesValid(list))
		}
	})
}

func TestP70InvalidRefs(t *testing.T) {
	right := allRefs(-1, 990)
	for name, wrong := range brokenRefs() {
		for _, refs := range append(right, []int{-1, 0, 500, 990}) {
			checkDiffer(t, name, wrong, refs, nil)
		}
		for _, other := range brokenRefs() {
			checkDiffer(t, name, wrong, other, nil)
		}
	}
}

func TestP71OtherDirection(t *testing.T) {
	eachRefsPair(71, func(from []int, to []int) {
		there, back := impl.RefsDiffer(from, to), impl.RefsDiffer(to, from)
		if !slices.Equal(back, exchanged(there)) {
			t.Fatalf("RefsDiffer(%v, %v) = %v, and in the other direction %v", from, to, there, back)
		}
	})
}

func TestP76ApplyThenDiffer(t *testing.T) {
	eachApply(t, 76, func(refs []int, list []impl.Update) {
		after, done := impl.RefsApply(refs, list)
		if !done {
			return
		}
		if got := impl.RefsDiffer(refs, after); !slices.Equal(got, list) {
			t.Fatalf("RefsDiffer(%v, %v) = %v, not %v", refs, after, got, list)
		}
	})
}

func TestMemoryOfRefsDiffer(t *testing.T) {
	right := []int{-1, 0, 500, 990}
	lists := [][]int{right, {-1, 0, 500, 990}, {-1, -1, -1, -1}, {0, 500, 990, -1}, {5, 0, 500, 990}, {-1, 0, 500, 5}, right[:3], append(slices.Clone(right), 1), nil, {}, {1, 2, 3, 991}}
	for _, a := range lists {
		for _, b := range lists {
			from, to := roomy(a), roomy(b)
			before := whole(from) + whole(to)
			one, two := impl.RefsDiffer(from, to), impl.RefsDiffer(from, to)
			checkApart(t, "RefsDiffer", []any{from, to}, []any{one, two})
			if after := whole(from) + whole(to); after != before {
				t.Fatalf("RefsDiffer modified %s to %s", before, after)
			}
		}
	}
}
