package tests

import (
	"slices"
	"testing"

	"loop.example/atomicpush/impl"
)

// checkCross fails if UpdatesCross gives another answer, in either order.
func checkCross(t *testing.T, name string, a []impl.Update, b []impl.Update, want bool) {
	t.Helper()
	if got := impl.UpdatesCross(a, b); got != want {
		t.Fatalf("%s: UpdatesCross(%s, %s) = %t", name, shown(a), shown(b), got)
	}
	if got := impl.UpdatesCross(b, a); got != want {
		t.Fatalf("%s: UpdatesCross(%s, %s) = %t", name, shown(b), shown(a), got)
	}
}

// eachUpdatesPair calls check with many pairs of valid updates: all of the given ids, and others.
// It requires that enough of the others cross, and that enough do not.
func eachUpdatesPair(t *testing.T, seed int, ids []int, check func(a []impl.Update, b []impl.Update)) {
	t.Helper()
	all := allUpdates(ids...)
	for _, a := range all {
		for _, b := range all {
			check(a, b)
		}
	}
	n := numbers(seed)
	yes, no := 0, 0
	for range 20000 {
		a, b := n.updates(n.refs()), n.updates(n.refs())
		if commonRef(a, b) {
			yes++
		} else {
			no++
		}
		check(a, b)
	}
	if yes < 3000 || no < 3000 {
		t.Errorf("%d pairs of updates cross, and %d do not", yes, no)
	}
}

func TestP72Cross(t *testing.T) {
	first, last := []impl.Update{update(0, -1, 0)}, []impl.Update{update(3, 990, -1)}
	all := []impl.Update{update(0, 1, 2), update(1, 1, 2), update(2, 1, 2), update(3, 1, 2)}
	for _, test := range []struct {
		name string
		a    []impl.Update
		b    []impl.Update
		want bool
	}{
		{"the first ref", first, first, true},
		{"the last ref", last, last, true},
		{"the first ref with other ids", first, []impl.Update{update(0, 5, 990)}, true},
		{"the last ref with other ids", last, []impl.Update{update(3, -1, 0)}, true},
		{"a ref there and back", first, exchanged(first), true},
		{"the first and the last ref", first, last, false},
		{"all refs and the first one", all, first, true},
		{"all refs and the last one", all, last, true},
		{"all refs", all, exchanged(all), true},
		{"even and odd refs", []impl.Update{all[0], all[2]}, []impl.Update{all[1], all[3]}, false},
		{"the first refs and the last ones", all[:2], all[2:], false},
		{"the outer refs and the inner ones", []impl.Update{all[0], all[3]}, all[1:3], false},
		{"one in common, the last and the first", all[:2], all[1:], true},
		{"one in common, the first", []impl.Update{all[0], all[1]}, []impl.Update{all[0], all[2], all[3]}, true},
		{"one in common, the last", []impl.Update{all[0], all[1], all[3]}, []impl.Update{all[2], all[3]}, true},
		{"all but one, and this one", all[1:], all[:1], false},
	} {
		checkCross(t, test.name, test.a, test.b, test.want)
	}
}

func TestP72IfAndOnlyIf(t *testing.T) {
	eachUpdatesPair(t, 72, []int{-1, 990}, func(a []impl.Update, b []impl.Update) {
		if got := impl.UpdatesCross(a, b); got != commonRef(a, b) || got != impl.UpdatesCross(b, a) {
			t.Fatalf("UpdatesCross(%v, %v) = %t", a, b, got)
		}
	})
	for _, a := range allUpdates(-1, 0, 990) {
		checkCross(t, "updates and themselves", a, slices.Clone(a), true)
	}
}

func TestP72InvalidUpdates(t *testing.T) {
	right := allUpdates(-1, 990)
	for name, wrong := range brokenUpdates([]int{-1, 0, 500, 990}) {
		checkCross(t, name, wrong, wrong, false)
		for _, list := range right {
			checkCross(t, name, wrong, list, false)
		}
	}
	for name, wrong := range brokenUpdates([]int{-1, 0, 500, 990}) {
		for _, other := range brokenUpdates([]int{5, 6, 7, 8}) {
			checkCross(t, name, wrong, other, false)
		}
	}
}

// checkEitherOrder fails if two lists of updates have other outcomes or refs in the other order.
func checkEitherOrder(t *testing.T, refs []int, a []impl.Update, b []impl.Update) {
	t.Helper()
	first, okA := impl.RefsApply(refs, a)
	first, okB := impl.RefsApply(first, b)
	second, alsoB := impl.RefsApply(refs, b)
	second, alsoA := impl.RefsApply(second, a)
	if !slices.Equal(first, second) || okA != alsoA || okB != alsoB {
		t.Fatalf("RefsApply of %v and %v to %v is %v, %t, %t, and in the other order %v, %t, %t", a, b, refs, first, okA, okB, second, alsoA, alsoB)
	}
}

func TestP73EitherOrder(t *testing.T) {
	all := append(allRefs(-1, 990), []int{-1, 0, 500, 990}, []int{7, 7, 7, 7})
	eachUpdatesPair(t, 73, []int{-1, 990}, func(a []impl.Update, b []impl.Update) {
		if impl.UpdatesCross(a, b) {
			return
		}
		for _, refs := range all {
			checkEitherOrder(t, refs, a, b)
		}
	})
}

// Updates of the same refs, split into two lists in each way, of which both fit, one does or none does.
func TestP73Parts(t *testing.T) {
	n := numbers(173)
	both := 0
	for range 20000 {
		refs := n.refs()
		a, b := []impl.Update{}, []impl.Update{}
		for _, u := range n.updates(refs) {
			if n.below(2) == 0 {
				a = append(a, u)
			} else {
				b = append(b, u)
			}
		}
		if len(a) == 0 || len(b) == 0 {
			continue
		}
		checkCross(t, "parts of a list", a, b, false)
		checkEitherOrder(t, refs, a, b)
		if want, ok := updated(refs, append(slices.Clone(a), b...)); ok {
			both++
			after, _ := impl.RefsApply(refs, a)
			checkRefsApply(t, "both parts", after, b, want, true)
		}
	}
	if both < 3000 {
		t.Errorf("both parts fit in only %d cases", both)
	}
}

// checkUpdatesValid fails if UpdatesValid gives another answer.
func checkUpdatesValid(t *testing.T, name string, list []impl.Update, want bool) {
	t.Helper()
	if got := impl.UpdatesValid(list); got != want {
		t.Fatalf("%s: UpdatesValid(%s) = %t", name, shown(list), got)
	}
}

func TestP74OneLessAndOneTwice(t *testing.T) {
	for _, list := range allUpdates(-1, 0, 990) {
		checkUpdatesValid(t, "valid updates", list, true)
		for i, u := range list {
			checkUpdatesValid(t, "without one", without(list, i), len(list) > 1)
			checkUpdatesValid(t, "one twice", slices.Insert(slices.Clone(list), i, u), false)
			checkUpdatesValid(t, "one there and back", slices.Insert(slices.Clone(list), i, update(u.Ref, u.New, u.Old)), false)
			checkUpdatesValid(t, "one at the end again", append(slices.Clone(list), u), false)
			checkUpdatesValid(t, "one at the beginning again", slices.Insert(slices.Clone(list), 0, u), false)
		}
	}
}

func TestP74InvalidUpdates(t *testing.T) {
	for _, refs := range [][]int{{-1, 0, 500, 990}, {-1, -1, -1, -1}, {5, 6, 7, 8}} {
		for name, list := range brokenUpdates(refs) {
			checkUpdatesValid(t, name, list, false)
		}
	}
}

// Each list of at most three updates with refs, old and new ids in range and beyond it.
func TestP74Ranges(t *testing.T) {
	one := []impl.Update{}
	for ref := -1; ref <= 4; ref++ {
		for _, before := range []int{-2, -1, 990, 991} {
			for _, after := range []int{-2, -1, 0, 991} {
				one = append(one, update(ref, before, after))
			}
		}
	}
	for _, a := range one {
		checkUpdatesValid(t, "one update", []impl.Update{a}, updatesRight([]impl.Update{a}))
		for _, b := range one {
			checkUpdatesValid(t, "two updates", []impl.Update{a, b}, updatesRight([]impl.Update{a, b}))
			for _, c := range one {
				list := []impl.Update{a, b, c}
				checkUpdatesValid(t, "three updates", list, updatesRight(list))
			}
		}
	}
}

func TestP74EachId(t *testing.T) {
	for id := -2; id <= 991; id++ {
		right := id >= -1 && id <= 990
		for ref := range 4 {
			checkUpdatesValid(t, "an old id", []impl.Update{update(ref, id, 5)}, right && id != 5)
			checkUpdatesValid(t, "a new id", []impl.Update{update(ref, 5, id)}, right && id != 5)
			checkUpdatesValid(t, "from no id", []impl.Update{update(ref, -1, id)}, right && id != -1)
			checkUpdatesValid(t, "to no id", []impl.Update{update(ref, id, -1)}, right && id != -1)
			checkUpdatesValid(t, "the same id", []impl.Update{update(ref, id, id)}, false)
		}
	}
}

// checkRefsValid fails if RefsValid gives another answer.
func checkRefsValid(t *testing.T, name string, refs []int, want bool) {
	t.Helper()
	if got := impl.RefsValid(refs); got != want {
		t.Fatalf("%s: RefsValid(%s) = %t", name, shown(refs), got)
	}
}

func TestP75OneMoreAndOneLess(t *testing.T) {
	for _, refs := range allRefs(someIds()...) {
		checkRefsValid(t, "valid refs", refs, true)
		for i, id := range refs {
			checkRefsValid(t, "one less", without(refs, i), false)
			checkRefsValid(t, "one less at the end", refs[:i], false)
			checkRefsValid(t, "one more", slices.Insert(slices.Clone(refs), i, id), false)
			checkRefsValid(t, "one more at the end", append(slices.Clone(refs), id), false)
		}
		checkRefsValid(t, "one more without an id", append(slices.Clone(refs), -1), false)
	}
}

func TestP75EachId(t *testing.T) {
	for id := -3; id <= 993; id++ {
		for ref := range 4 {
			checkRefsValid(t, "one id", changed([]int{-1, 0, 500, 990}, ref, id), id >= -1 && id <= 990)
		}
		checkRefsValid(t, "the same ids", []int{id, id, id, id}, id >= -1 && id <= 990)
	}
}

func TestP75InvalidRefs(t *testing.T) {
	for name, refs := range brokenRefs() {
		checkRefsValid(t, name, refs, false)
	}
}

func TestNumberOfRefs(t *testing.T) {
	if impl.Refs != 4 {
		t.Errorf("Refs is %d", impl.Refs)
	}
}

func TestMemoryOfUpdatesCross(t *testing.T) {
	lists := append(allUpdates(-1, 990), nil, []impl.Update{}, []impl.Update{update(4, 1, 2)}, []impl.Update{update(3, 1, 2), update(0, 1, 2)}, []impl.Update{update(1, 1, 2), update(1, 2, 1)})
	for _, first := range lists {
		for _, second := range lists {
			a, b := roomyUpdates(first), roomyUpdates(second)
			before := wholeUpdates(a) + wholeUpdates(b)
			impl.UpdatesCross(a, b)
			if after := wholeUpdates(a) + wholeUpdates(b); after != before {
				t.Fatalf("UpdatesCross modified %s to %s", before, after)
			}
		}
	}
}
