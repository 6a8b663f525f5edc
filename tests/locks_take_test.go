package tests

import (
	"slices"
	"testing"

	"loop.example/atomicpush/impl"
)

func TestP77Take(t *testing.T) {
	none := []int{-1, -1, -1, -1}
	for _, test := range []struct {
		name  string
		locks []int
		txn   int
		list  []impl.Update
		want  []int
	}{
		{"the first ref", none, 4, updatesOf(0), []int{4, -1, -1, -1}},
		{"the second ref", none, 4, updatesOf(1), []int{-1, 4, -1, -1}},
		{"the third ref", none, 4, updatesOf(2), []int{-1, -1, 4, -1}},
		{"the last ref", none, 4, updatesOf(3), []int{-1, -1, -1, 4}},
		{"the first and the last ref", none, 4, updatesOf(0, 3), []int{4, -1, -1, 4}},
		{"two refs in between", none, 4, updatesOf(1, 2), []int{-1, 4, 4, -1}},
		{"three refs", none, 4, updatesOf(0, 1, 3), []int{4, 4, -1, 4}},
		{"all refs", none, 4, updatesOf(0, 1, 2, 3), []int{4, 4, 4, 4}},
		{"all refs for the first transaction", none, 0, updatesOf(0, 1, 2, 3), []int{0, 0, 0, 0}},
		{"all refs for the last transaction", none, 11, updatesOf(0, 1, 2, 3), []int{11, 11, 11, 11}},
		{"the only free ref, the first", []int{-1, 1, 2, 3}, 0, updatesOf(0), []int{0, 1, 2, 3}},
		{"the only free ref, the last", []int{0, 1, 2, -1}, 11, updatesOf(3), []int{0, 1, 2, 11}},
		{"beside another transaction", []int{-1, -1, 3, -1}, 4, updatesOf(1), []int{-1, 4, 3, -1}},
		{"around another transaction", []int{-1, -1, 3, -1}, 4, updatesOf(0, 1, 3), []int{4, 4, 3, 4}},
		{"beside two transactions", []int{0, -1, 11, -1}, 5, updatesOf(1, 3), []int{0, 5, 11, 5}},
		{"one more for the same transaction", []int{-1, 4, -1, -1}, 4, updatesOf(2), []int{-1, 4, 4, -1}},
		{"one more for the first transaction", []int{0, -1, -1, 11}, 0, updatesOf(2), []int{0, -1, 0, 11}},
		{"one more for the last transaction", []int{0, -1, -1, 11}, 11, updatesOf(2), []int{0, -1, 11, 11}},
		{"to no id", none, 4, []impl.Update{update(2, 7, -1)}, []int{-1, -1, 4, -1}},
		{"the least and the greatest id", none, 4, []impl.Update{update(0, 0, 990), update(3, 990, 0)}, []int{4, -1, -1, 4}},
		{"ids like those of transactions", []int{-1, 7, -1, -1}, 4, []impl.Update{update(0, 7, 8), update(2, 4, 7)}, []int{4, 7, 4, -1}},
	} {
		checkLocksTake(t, test.name, test.locks, test.txn, test.list, test.want, true)
	}
}

func TestP77EachRef(t *testing.T) {
	eachTake(t, 77, func(locks []int, txn int, list []impl.Update) {
		want, ok := taken(locks, txn, list)
		checkLocksTake(t, "valid arguments", locks, txn, list, want, ok)
		if !impl.LocksValid(want) {
			t.Fatalf("LocksTake(%v, %d, %v) is not valid", locks, txn, list)
		}
	})
}

// Each transaction locks refs, and is in the way of each one.
func TestP77EachTransaction(t *testing.T) {
	for txn := range 12 {
		for _, refs := range allRefSets() {
			list := updatesOf(refs...)
			want, _ := taken([]int{-1, -1, -1, -1}, txn, list)
			checkLocksTake(t, "free refs", []int{-1, -1, -1, -1}, txn, list, want, true)
			for other := range 12 {
				checkLocksTake(t, "locked refs", want, other, list, want, false)
			}
		}
	}
}

// What an update changes does not matter, only its ref.
func TestP77EachUpdate(t *testing.T) {
	for _, list := range allUpdates(-1, 0, 990) {
		for _, locks := range [][]int{{-1, -1, -1, -1}, {-1, 0, -1, 0}, {11, -1, 11, -1}, {0, 5, 11, 0}} {
			want, ok := taken(locks, 0, list)
			checkLocksTake(t, "updates of some ids", locks, 0, list, want, ok)
		}
	}
}

func TestP77InvalidTransaction(t *testing.T) {
	for _, txn := range wrongTxns() {
		for _, locks := range someLocks() {
			for _, refs := range allRefSets() {
				checkLocksTake(t, "a wrong transaction", locks, txn, updatesOf(refs...), nil, false)
			}
		}
	}
}

// The answer is that of an invalid argument also where a ref is locked.
func TestP77InvalidUpdates(t *testing.T) {
	for name, list := range brokenUpdates([]int{-1, 0, 500, 990}) {
		for _, locks := range [][]int{{-1, -1, -1, -1}, {0, 0, 0, 0}, {5, 6, 7, 8}, {-1, 0, -1, 11}, {11, -1, -1, -1}, {-1, -1, -1, 0}} {
			for _, txn := range []int{0, 5, 11} {
				checkLocksTake(t, name, locks, txn, list, nil, false)
			}
		}
	}
}

func TestP77InvalidLocks(t *testing.T) {
	for name, locks := range brokenLocks() {
		for _, txn := range []int{0, 5, 11} {
			for _, refs := range allRefSets() {
				checkLocksTake(t, name, locks, txn, updatesOf(refs...), nil, false)
			}
		}
	}
}

func TestP77SeveralInvalidArguments(t *testing.T) {
	locks, right := []int{-1, -1, -1, -1}, updatesOf(1, 2)
	for name, wrong := range brokenLocks() {
		for otherName, list := range brokenUpdates([]int{-1, 0, 500, 990}) {
			checkLocksTake(t, name+" and "+otherName, wrong, 5, list, nil, false)
			checkLocksTake(t, name+" and "+otherName, wrong, 12, list, nil, false)
		}
		for _, txn := range wrongTxns() {
			checkLocksTake(t, name, wrong, txn, right, nil, false)
		}
	}
	for name, list := range brokenUpdates([]int{-1, 0, 500, 990}) {
		for _, txn := range wrongTxns() {
			checkLocksTake(t, name, locks, txn, list, nil, false)
		}
	}
}

func TestP78Refused(t *testing.T) {
	for _, test := range []struct {
		name  string
		locks []int
		txn   int
		list  []impl.Update
	}{
		{"the first ref, by another one", []int{3, -1, -1, -1}, 4, updatesOf(0)},
		{"the last ref, by another one", []int{-1, -1, -1, 3}, 4, updatesOf(3)},
		{"the first ref, by the same one", []int{4, -1, -1, -1}, 4, updatesOf(0)},
		{"the last ref, by the same one", []int{-1, -1, -1, 4}, 4, updatesOf(3)},
		{"by the first transaction", []int{-1, 0, -1, -1}, 11, updatesOf(1)},
		{"by the last transaction", []int{-1, 11, -1, -1}, 0, updatesOf(1)},
		{"by the first transaction itself", []int{-1, 0, -1, -1}, 0, updatesOf(1)},
		{"by the last transaction itself", []int{-1, 11, -1, -1}, 11, updatesOf(1)},
		{"the first of several updates", []int{3, -1, -1, -1}, 4, updatesOf(0, 1, 2)},
		{"one in the middle of several updates", []int{-1, 3, -1, -1}, 4, updatesOf(0, 1, 2)},
		{"the last of several updates", []int{-1, -1, 3, -1}, 4, updatesOf(0, 1, 2)},
		{"the first of all refs", []int{0, -1, -1, -1}, 4, updatesOf(0, 1, 2, 3)},
		{"the last of all refs", []int{-1, -1, -1, 0}, 4, updatesOf(0, 1, 2, 3)},
		{"the same one's among free refs", []int{-1, -1, 4, -1}, 4, updatesOf(1, 2, 3)},
		{"all refs, by another one", []int{3, 3, 3, 3}, 4, updatesOf(0, 1, 2, 3)},
		{"all refs, by the same one", []int{4, 4, 4, 4}, 4, updatesOf(0, 1, 2, 3)},
		{"all refs, by several ones", []int{0, 5, 11, 4}, 4, updatesOf(0, 1, 2, 3)},
		{"all refs, and one is updated", []int{0, 5, 11, 4}, 6, updatesOf(2)},
		{"the same one's and another one's", []int{4, -1, -1, 3}, 4, updatesOf(0, 3)},
	} {
		checkLocksTake(t, test.name, test.locks, test.txn, test.list, test.locks, false)
	}
}

// Of the refs of several updates, only one is locked.
func TestP78OneLockedRef(t *testing.T) {
	for _, refs := range allRefSets() {
		for _, ref := range refs {
			for holder := range 12 {
				for _, txn := range []int{0, 5, 11, holder} {
					locks := changed([]int{-1, -1, -1, -1}, ref, holder)
					checkLocksTake(t, "one locked ref", locks, txn, updatesOf(refs...), locks, false)
				}
			}
		}
	}
}

func TestP78AllOrNothing(t *testing.T) {
	eachTake(t, 78, func(locks []int, txn int, list []impl.Update) {
		got, done := impl.LocksTake(locks, txn, list)
		if done == anyLocked(locks, list) || !done && !slices.Equal(got, locks) {
			t.Fatalf("LocksTake(%v, %d, %v) = %v, %t", locks, txn, list, got, done)
		}
	})
}

func TestP79Exclusive(t *testing.T) {
	eachTake(t, 79, func(locks []int, txn int, list []impl.Update) {
		after, done := impl.LocksTake(locks, txn, list)
		if !done {
			return
		}
		for other := range 12 {
			checkLocksTake(t, "the same updates again", after, other, list, after, false)
		}
	})
}

// A history of locks, of which transactions take some and free theirs.
func TestP79History(t *testing.T) {
	n := numbers(179)
	locks := []int{-1, -1, -1, -1}
	done, refused := 0, 0
	for range 20000 {
		txn, list := n.below(12), updatesOf(allRefSets()[n.below(15)]...)
		want, ok := taken(locks, txn, list)
		checkLocksTake(t, "a history", locks, txn, list, want, ok)
		if ok {
			done++
		} else {
			refused++
		}
		locks, _ = impl.LocksTake(locks, txn, list)
		other := n.below(12)
		want, ok = freed(locks, other)
		checkLocksFree(t, "a history", locks, other, want, ok)
		locks, _ = impl.LocksFree(locks, other)
	}
	if done < 1000 || refused < 1000 {
		t.Errorf("%d transactions take locks, and %d do not", done, refused)
	}
}

func TestP80TakeThenFree(t *testing.T) {
	restored := 0
	eachTake(t, 80, func(locks []int, txn int, list []impl.Update) {
		after, done := impl.LocksTake(locks, txn, list)
		if !done || slices.Contains(locks, txn) {
			return
		}
		restored++
		checkLocksFree(t, "what was taken", after, txn, locks, true)
	})
	if restored < 5000 {
		t.Errorf("locks are restored in only %d cases", restored)
	}
}

// If the transaction had refs before, these are free then, too.
func TestP80TakeMoreThenFree(t *testing.T) {
	eachTake(t, 180, func(locks []int, txn int, list []impl.Update) {
		after, done := impl.LocksTake(locks, txn, list)
		if !done {
			return
		}
		want, _ := freed(locks, txn)
		checkLocksFree(t, "all of a transaction", after, txn, want, true)
	})
}

// checkBoth fails if updates of two transactions are not locked one after the other, though all refs are free.
func checkBoth(t *testing.T, locks []int, one int, a []impl.Update, two int, b []impl.Update) {
	t.Helper()
	first, _ := taken(locks, one, a)
	both, _ := taken(first, two, b)
	checkLocksTake(t, "the first of two", locks, one, a, first, true)
	checkLocksTake(t, "the second of two", first, two, b, both, true)
}

func TestP83BothIfTheyDoNotCross(t *testing.T) {
	none := []int{-1, -1, -1, -1}
	for _, test := range []struct {
		name string
		one  []int
		two  []int
		want []int
		ok   bool
	}{
		{"the first and the last ref", []int{0}, []int{3}, []int{5, -1, -1, 6}, true},
		{"even and odd refs", []int{0, 2}, []int{1, 3}, []int{5, 6, 5, 6}, true},
		{"outer and inner refs", []int{0, 3}, []int{1, 2}, []int{5, 6, 6, 5}, true},
		{"all but the last, and this one", []int{0, 1, 2}, []int{3}, []int{5, 5, 5, 6}, true},
		{"the first one in common", []int{0, 1}, []int{0, 2}, []int{5, 5, -1, -1}, false},
		{"the last one in common", []int{1, 3}, []int{2, 3}, []int{-1, 5, -1, 5}, false},
		{"the last and the first in common", []int{0, 1}, []int{1, 2}, []int{5, 5, -1, -1}, false},
		{"one of all refs", []int{0, 1, 2, 3}, []int{2}, []int{5, 5, 5, 5}, false},
		{"one, and all refs", []int{2}, []int{0, 1, 2, 3}, []int{-1, -1, 5, -1}, false},
	} {
		first, done := impl.LocksTake(none, 5, updatesOf(test.one...))
		if !done {
			t.Fatalf("%s: LocksTake fails", test.name)
		}
		checkLocksTake(t, test.name, first, 6, updatesOf(test.two...), test.want, test.ok)
	}
}

// Of all pairs of lists that succeed alone, those that do not cross succeed in either order, and the others do not.
func TestP83IfAndOnlyIf(t *testing.T) {
	for _, locks := range allRefs(-1, 0, 11) {
		for _, one := range allRefSets() {
			for _, two := range allRefSets() {
				a, b := updatesOf(one...), updatesOf(two...)
				if anyLocked(locks, a) || anyLocked(locks, b) {
					continue
				}
				for _, txns := range [][]int{{0, 11}, {5, 6}, {5, 5}, {11, 11}} {
					if commonRef(a, b) {
						first, _ := impl.LocksTake(locks, txns[0], a)
						checkLocksTake(t, "updates that cross", first, txns[1], b, first, false)
						continue
					}
					checkBoth(t, locks, txns[0], a, txns[1], b)
					checkBoth(t, locks, txns[1], b, txns[0], a)
				}
			}
		}
	}
}

func TestP83OtherUpdates(t *testing.T) {
	n := numbers(83)
	many := 0
	for range 40000 {
		locks, a, b := n.locks(), n.updates(n.refs()), n.updates(n.refs())
		if impl.UpdatesCross(a, b) || anyLocked(locks, a) || anyLocked(locks, b) {
			continue
		}
		many++
		checkBoth(t, locks, n.below(12), a, n.below(12), b)
	}
	if many < 1000 {
		t.Errorf("only %d pairs succeed", many)
	}
}

func TestMemoryOfLocksTake(t *testing.T) {
	lists := [][]impl.Update{nil, {}, updatesOf(4), updatesOf(2, 1), updatesOf(1, 1)}
	for _, refs := range allRefSets() {
		lists = append(lists, updatesOf(refs...))
	}
	for _, someLocks := range [][]int{{-1, -1, -1, -1}, {5, 5, 5, 5}, {-1, 0, -1, 11}, {0, -1, -1, -1}, {-1, -1, -1, 5}, {-1, -1, -1}, {-1, -1, -1, -1, -1}, {-1, 12, -1, -1}, {}, nil} {
		for _, someUpdates := range lists {
			for _, txn := range []int{0, 5, 11, -1, 12} {
				locks, list := roomy(someLocks), roomyUpdates(someUpdates)
				before := whole(locks) + wholeUpdates(list)
				one, _ := impl.LocksTake(locks, txn, list)
				two, _ := impl.LocksTake(locks, txn, list)
				checkApart(t, "LocksTake", []any{locks, list}, []any{one, two})
				if after := whole(locks) + wholeUpdates(list); after != before {
					t.Fatalf("LocksTake modified %s to %s", before, after)
				}
			}
		}
	}
}
