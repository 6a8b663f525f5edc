package tests

import (
	"slices"
	"testing"

	"loop.example/atomicpush/impl"
)

// checkRefsApply fails if RefsApply does not give the refs.
func checkRefsApply(t *testing.T, name string, refs []int, list []impl.Update, want []int, ok bool) {
	t.Helper()
	if got, done := impl.RefsApply(refs, list); !slices.Equal(got, want) || done != ok {
		t.Fatalf("%s: RefsApply(%s, %s) = %v, %t, not %v, %t", name, shown(refs), shown(list), got, done, want, ok)
	}
}

func TestP66Apply(t *testing.T) {
	none := []int{-1, -1, -1, -1}
	refs := []int{-1, 1, 7, 3}
	for _, test := range []struct {
		name string
		refs []int
		list []impl.Update
		want []int
	}{
		{"the first ref", refs, []impl.Update{update(0, -1, 5)}, []int{5, 1, 7, 3}},
		{"the second ref", refs, []impl.Update{update(1, 1, 5)}, []int{-1, 5, 7, 3}},
		{"the third ref", refs, []impl.Update{update(2, 7, 5)}, []int{-1, 1, 5, 3}},
		{"the last ref", refs, []impl.Update{update(3, 3, 5)}, []int{-1, 1, 7, 5}},
		{"the first and the last ref", refs, []impl.Update{update(0, -1, 990), update(3, 3, 0)}, []int{990, 1, 7, 0}},
		{"two refs in between", refs, []impl.Update{update(1, 1, 2), update(2, 7, 8)}, []int{-1, 2, 8, 3}},
		{"three refs", refs, []impl.Update{update(0, -1, 0), update(1, 1, 990), update(3, 3, -1)}, []int{0, 990, 7, -1}},
		{"all refs", refs, []impl.Update{update(0, -1, 1), update(1, 1, 7), update(2, 7, 3), update(3, 3, -1)}, []int{1, 7, 3, -1}},
		{"one of refs without ids", none, []impl.Update{update(2, -1, 0)}, []int{-1, -1, 0, -1}},
		{"all refs without ids", none, []impl.Update{update(0, -1, 0), update(1, -1, 990), update(2, -1, 5), update(3, -1, 5)}, []int{0, 990, 5, 5}},
		{"a ref that has no id then", []int{5, 6, 7, 8}, []impl.Update{update(1, 6, -1)}, []int{5, -1, 7, 8}},
		{"no ref that has an id then", []int{0, 990, 0, 990}, []impl.Update{update(0, 0, -1), update(1, 990, -1), update(2, 0, -1), update(3, 990, -1)}, none},
		{"the least and the greatest id", []int{0, 990, 0, 990}, []impl.Update{update(0, 0, 990), update(1, 990, 0)}, []int{990, 0, 0, 990}},
		{"equal ids", []int{4, 4, 4, 4}, []impl.Update{update(1, 4, 5), update(2, 4, 5)}, []int{4, 5, 5, 4}},
		{"the id that the ref ahead had", []int{1, 2, 3, 4}, []impl.Update{update(0, 1, 2), update(1, 2, 1)}, []int{2, 1, 3, 4}},
	} {
		checkRefsApply(t, test.name, test.refs, test.list, test.want, true)
	}
}

func TestP66EachRef(t *testing.T) {
	eachApply(t, 66, func(refs []int, list []impl.Update) {
		want, ok := updated(refs, list)
		got, done := impl.RefsApply(refs, list)
		if done != ok || !slices.Equal(got, want) {
			t.Fatalf("RefsApply(%v, %v) = %v, %t, not %v, %t", refs, list, got, done, want, ok)
		}
		if done && !impl.RefsValid(got) {
			t.Fatalf("RefsApply(%v, %v) = %v, which is not valid", refs, list, got)
		}
	})
}

// Each id takes the place of each other one.
func TestP66EachId(t *testing.T) {
	for before := -1; before < 991; before++ {
		for _, after := range []int{-1, 0, 1, before - 1, before + 1, 989, 990} {
			if after == before || after < -1 || after > 990 {
				continue
			}
			ref := (before + 1) % 4
			refs := changed([]int{-1, 0, 990, 5}, ref, before)
			checkRefsApply(t, "an id", refs, []impl.Update{update(ref, before, after)}, changed(refs, ref, after), true)
			refs[ref] = after
			checkRefsApply(t, "not the old id", refs, []impl.Update{update(ref, before, after)}, refs, false)
		}
	}
}

func TestP66InvalidArguments(t *testing.T) {
	refs := []int{-1, 0, 500, 990}
	for name, list := range brokenUpdates(refs) {
		checkRefsApply(t, name, refs, list, nil, false)
		// Also where a ref would not have its old id, the answer is that of an invalid argument.
		checkRefsApply(t, name, []int{7, 7, 7, 7}, list, nil, false)
	}
	for name, wrong := range brokenRefs() {
		checkRefsApply(t, name, wrong, nil, nil, false)
		for ref := range 4 {
			before := -1
			if ref < len(wrong) {
				before = wrong[ref]
			}
			checkRefsApply(t, name, wrong, []impl.Update{update(ref, before, 100)}, nil, false)
			checkRefsApply(t, name, wrong, []impl.Update{update(ref, 7, 100)}, nil, false)
		}
	}
	for name, wrong := range brokenRefs() {
		for _, list := range brokenUpdates(refs) {
			checkRefsApply(t, name, wrong, list, nil, false)
		}
	}
}

// Of several updates, only those at the given places have another old id than the ref.
func TestP67NotTheOldId(t *testing.T) {
	for _, refs := range [][]int{{-1, -1, -1, -1}, {0, 0, 0, 0}, {-1, 0, 500, 990}, {990, 500, 0, -1}, {5, 6, 7, 8}} {
		for _, list := range allUpdates(-1, 0, 990) {
			right := slices.Clone(list)
			for i, u := range list {
				right[i] = update(u.Ref, refs[u.Ref], 100+u.Ref)
			}
			after, _ := updated(refs, right)
			checkRefsApply(t, "all old ids", refs, right, after, true)
			for i, u := range right {
				for _, before := range []int{-1, 0, 990, u.Old + 1, u.Old - 1, refs[(u.Ref+1)%4], 300} {
					if before != u.Old && before >= -1 && before <= 990 {
						checkRefsApply(t, "not the old id", refs, changed(right, i, update(u.Ref, before, u.New)), refs, false)
					}
				}
			}
		}
	}
}

func TestP67AllOrNothing(t *testing.T) {
	eachApply(t, 67, func(refs []int, list []impl.Update) {
		got, done := impl.RefsApply(refs, list)
		if done {
			return
		}
		other := slices.ContainsFunc(list, func(u impl.Update) bool { return refs[u.Ref] != u.Old })
		if !slices.Equal(got, refs) || !other {
			t.Fatalf("RefsApply(%v, %v) = %v, false", refs, list, got)
		}
	})
}

// An update that fits only what the updates ahead of it have made does not fit.
func TestP67OldIdsAreThoseBefore(t *testing.T) {
	for _, test := range []struct {
		refs []int
		list []impl.Update
	}{
		{[]int{1, 2, 3, 4}, []impl.Update{update(0, 1, 5), update(1, 5, 6)}},
		{[]int{1, 2, 3, 4}, []impl.Update{update(0, 2, 1), update(1, 1, 2)}},
		{[]int{-1, -1, -1, 0}, []impl.Update{update(0, -1, 0), update(1, -1, 0), update(2, -1, 0), update(3, -1, 0)}},
		{[]int{0, -1, -1, -1}, []impl.Update{update(0, -1, 0), update(1, -1, 0), update(2, -1, 0), update(3, -1, 0)}},
		{[]int{5, 5, 5, 5}, []impl.Update{update(2, -1, 5)}},
		{[]int{-1, -1, -1, -1}, []impl.Update{update(2, 5, -1)}},
	} {
		checkRefsApply(t, "not the old id", test.refs, test.list, test.refs, false)
	}
}

func TestP68ApplyTwice(t *testing.T) {
	eachApply(t, 68, func(refs []int, list []impl.Update) {
		after, done := impl.RefsApply(refs, list)
		if !done {
			return
		}
		if again, ok := impl.RefsApply(after, list); ok || !slices.Equal(again, after) {
			t.Fatalf("RefsApply(%v, %v) = %v, %t", after, list, again, ok)
		}
	})
}

func TestP69ApplyExchanged(t *testing.T) {
	eachApply(t, 69, func(refs []int, list []impl.Update) {
		after, done := impl.RefsApply(refs, list)
		if !done {
			return
		}
		if back, ok := impl.RefsApply(after, exchanged(list)); !ok || !slices.Equal(back, refs) {
			t.Fatalf("RefsApply(%v, %v) = %v, %t, not %v", after, exchanged(list), back, ok, refs)
		}
	})
}

// A history of updates, all of which are undone in the end.
func TestP69History(t *testing.T) {
	n := numbers(169)
	refs := []int{-1, -1, -1, -1}
	done := [][]impl.Update{}
	for range 1000 {
		list := n.updates(refs)
		after, ok := impl.RefsApply(refs, list)
		if ok {
			done = append(done, list)
		}
		refs = after
	}
	if len(done) < 300 {
		t.Errorf("only %d updates of 1000 are performed", len(done))
	}
	slices.Reverse(done)
	for _, list := range done {
		back, ok := impl.RefsApply(refs, exchanged(list))
		if !ok {
			t.Fatalf("RefsApply(%v, %v) = %v, false", refs, exchanged(list), back)
		}
		refs = back
	}
	if !slices.Equal(refs, []int{-1, -1, -1, -1}) {
		t.Errorf("the refs are %v in the end", refs)
	}
}

func TestMemoryOfRefsApply(t *testing.T) {
	right := []int{-1, 0, 500, 990}
	lists := append(allUpdates(-1, 500), nil, []impl.Update{update(0, -1, 3), update(1, 0, 4), update(2, 500, 5), update(3, 990, 6)}, []impl.Update{update(4, 1, 2)}, []impl.Update{update(3, 990, 5), update(0, -1, 5)})
	for _, someRefs := range [][]int{right, {-1, -1, -1, -1}, right[:3], nil, append(slices.Clone(right), 1), {1, 2, 3, 991}} {
		for _, someUpdates := range lists {
			refs, list := roomy(someRefs), roomyUpdates(someUpdates)
			before := whole(refs) + wholeUpdates(list)
			one, _ := impl.RefsApply(refs, list)
			two, _ := impl.RefsApply(refs, list)
			checkApart(t, "RefsApply", []any{refs, list}, []any{one, two})
			impl.RefsValid(refs)
			impl.UpdatesValid(list)
			if after := whole(refs) + wholeUpdates(list); after != before {
				t.Fatalf("RefsApply, RefsValid or UpdatesValid modified %s to %s", before, after)
			}
		}
	}
}
