package tests

import (
	"slices"
	"testing"

	"loop.example/atomicpush/impl"
)

func TestP81Free(t *testing.T) {
	for _, test := range []struct {
		name  string
		locks []int
		txn   int
		want  []int
		ok    bool
	}{
		{"the first ref", []int{4, -1, -1, -1}, 4, []int{-1, -1, -1, -1}, true},
		{"the last ref", []int{-1, -1, -1, 4}, 4, []int{-1, -1, -1, -1}, true},
		{"the first and the last ref", []int{4, 3, -1, 4}, 4, []int{-1, 3, -1, -1}, true},
		{"two refs in between", []int{3, 4, 4, 5}, 4, []int{3, -1, -1, 5}, true},
		{"three refs", []int{4, 4, -1, 4}, 4, []int{-1, -1, -1, -1}, true},
		{"all refs", []int{4, 4, 4, 4}, 4, []int{-1, -1, -1, -1}, true},
		{"one of several transactions", []int{0, 5, 11, 4}, 4, []int{0, 5, 11, -1}, true},
		{"the first transaction", []int{0, 1, 0, 11}, 0, []int{-1, 1, -1, 11}, true},
		{"the last transaction", []int{0, 11, 10, 11}, 11, []int{0, -1, 10, -1}, true},
		{"all refs of the first transaction", []int{0, 0, 0, 0}, 0, []int{-1, -1, -1, -1}, true},
		{"all refs of the last transaction", []int{11, 11, 11, 11}, 11, []int{-1, -1, -1, -1}, true},
		{"a transaction without locks", []int{3, -1, 5, -1}, 4, []int{3, -1, 5, -1}, false},
		{"the first one, without locks", []int{1, 2, 11, -1}, 0, []int{1, 2, 11, -1}, false},
		{"the last one, without locks", []int{0, 1, 10, -1}, 11, []int{0, 1, 10, -1}, false},
		{"all refs of another transaction", []int{3, 3, 3, 3}, 4, []int{3, 3, 3, 3}, false},
		{"all refs of several others", []int{0, 3, 5, 11}, 4, []int{0, 3, 5, 11}, false},
	} {
		checkLocksFree(t, test.name, test.locks, test.txn, test.want, test.ok)
	}
}

func TestP81ExactlyLocksOf(t *testing.T) {
	eachHolder(81, func(locks []int, txn int) {
		want, ok := freed(locks, txn)
		checkLocksFree(t, "valid arguments", locks, txn, want, ok)
		held := impl.LocksOf(locks, txn)
		after, done := impl.LocksFree(locks, txn)
		if done != (len(held) > 0) || !impl.LocksValid(after) {
			t.Fatalf("LocksFree(%v, %d) = %v, %t, and LocksOf %v", locks, txn, after, done, held)
		}
		for ref := range 4 {
			if slices.Contains(held, ref) != (after[ref] != locks[ref]) {
				t.Fatalf("LocksFree(%v, %d) = %v, and LocksOf %v", locks, txn, after, held)
			}
		}
	})
}

// What is free then cannot be freed again, and its transaction has no refs.
func TestP81FreeTwice(t *testing.T) {
	eachHolder(181, func(locks []int, txn int) {
		after, _ := impl.LocksFree(locks, txn)
		checkLocksFree(t, "a second time", after, txn, after, false)
		checkLocksOf(t, "after all are free", after, txn, nil)
	})
}

func TestP81InvalidArguments(t *testing.T) {
	for name, wrong := range brokenLocks() {
		for txn := range 12 {
			checkLocksFree(t, name, wrong, txn, nil, false)
		}
		for _, txn := range wrongTxns() {
			checkLocksFree(t, name, wrong, txn, nil, false)
		}
	}
	for _, txn := range wrongTxns() {
		for _, locks := range someLocks() {
			checkLocksFree(t, "a wrong transaction", locks, txn, nil, false)
		}
	}
}

func TestP82LocksOf(t *testing.T) {
	for _, test := range []struct {
		name  string
		locks []int
		txn   int
		want  []int
	}{
		{"the first ref", []int{4, -1, -1, -1}, 4, []int{0}},
		{"the second ref", []int{-1, 4, -1, -1}, 4, []int{1}},
		{"the third ref", []int{-1, -1, 4, -1}, 4, []int{2}},
		{"the last ref", []int{-1, -1, -1, 4}, 4, []int{3}},
		{"the first and the last ref", []int{4, 3, -1, 4}, 4, []int{0, 3}},
		{"two refs in between", []int{3, 4, 4, 5}, 4, []int{1, 2}},
		{"three refs", []int{4, 4, 3, 4}, 4, []int{0, 1, 3}},
		{"all refs", []int{4, 4, 4, 4}, 4, []int{0, 1, 2, 3}},
		{"the first transaction", []int{0, 11, 0, -1}, 0, []int{0, 2}},
		{"the last transaction", []int{0, 11, -1, 11}, 11, []int{1, 3}},
		{"one of several transactions", []int{0, 5, 11, 4}, 5, []int{1}},
		{"a transaction without locks", []int{0, 5, 11, -1}, 4, nil},
		{"the first one, without locks", []int{1, 2, 3, 11}, 0, nil},
		{"the last one, without locks", []int{0, 1, 10, 10}, 11, nil},
	} {
		checkLocksOf(t, test.name, test.locks, test.txn, test.want)
	}
}

func TestP82OneTransaction(t *testing.T) {
	eachHolder(82, func(locks []int, txn int) {
		checkLocksOf(t, "valid arguments", locks, txn, heldBy(locks, txn))
	})
	for _, locks := range someLocks() {
		holders := []int{-1, -1, -1, -1}
		many := 0
		for txn := range 12 {
			for _, ref := range impl.LocksOf(locks, txn) {
				holders[ref] = txn
				many++
			}
		}
		locked := len(locks) - len(heldBy(locks, -1))
		if !slices.Equal(holders, locks) || many != locked {
			t.Fatalf("the refs of all transactions in %v are %v, %d in all", locks, holders, many)
		}
	}
}

func TestP82InvalidArguments(t *testing.T) {
	for name, wrong := range brokenLocks() {
		for txn := range 12 {
			checkLocksOf(t, name, wrong, txn, nil)
		}
		for _, txn := range wrongTxns() {
			checkLocksOf(t, name, wrong, txn, nil)
		}
	}
	for _, txn := range wrongTxns() {
		for _, locks := range someLocks() {
			checkLocksOf(t, "a wrong transaction", locks, txn, nil)
		}
	}
}

func TestP84AllFree(t *testing.T) {
	none := []int{-1, -1, -1, -1}
	checkLocksValid(t, "all free", none, true)
	for txn := range 12 {
		checkLocksOf(t, "all free", none, txn, nil)
		checkLocksFree(t, "all free", none, txn, none, false)
	}
}

// What all transactions have locked is free when each one has freed its refs.
func TestP84AllFreeInTheEnd(t *testing.T) {
	for _, locks := range someLocks() {
		after := locks
		for txn := range 12 {
			after, _ = impl.LocksFree(after, txn)
		}
		if !slices.Equal(after, []int{-1, -1, -1, -1}) {
			t.Fatalf("LocksFree of all transactions makes %v of %v", after, locks)
		}
	}
}

func TestLocksValid(t *testing.T) {
	for _, locks := range someLocks() {
		checkLocksValid(t, "valid locks", locks, true)
		for i, txn := range locks {
			checkLocksValid(t, "one less", without(locks, i), false)
			checkLocksValid(t, "one less at the end", locks[:i], false)
			checkLocksValid(t, "one more", slices.Insert(slices.Clone(locks), i, txn), false)
		}
		checkLocksValid(t, "one more free ref", append(slices.Clone(locks), -1), false)
	}
}

func TestLocksValidEachNumber(t *testing.T) {
	for txn := -20; txn <= 1000; txn++ {
		for ref := range 4 {
			for _, right := range [][]int{{-1, 0, 5, 11}, {-1, -1, -1, -1}, {11, 11, 11, 11}} {
				checkLocksValid(t, "one number", changed(right, ref, txn), txn >= -1 && txn <= 11)
			}
		}
		checkLocksValid(t, "the same numbers", []int{txn, txn, txn, txn}, txn >= -1 && txn <= 11)
	}
}

// All lists of four numbers at and beyond the ends of the range.
func TestLocksValidRanges(t *testing.T) {
	for _, locks := range allRefs(-2, -1, 0, 11, 12) {
		checkLocksValid(t, "four numbers", locks, locksRight(locks))
	}
}

func TestLocksValidInvalidLocks(t *testing.T) {
	for name, locks := range brokenLocks() {
		checkLocksValid(t, name, locks, false)
	}
}

func TestNumberOfTransactions(t *testing.T) {
	if impl.MaxTxn != 12 {
		t.Errorf("MaxTxn is %d", impl.MaxTxn)
	}
}

func TestMemoryOfLocksFreeAndLocksOf(t *testing.T) {
	for _, list := range [][]int{{-1, -1, -1, -1}, {5, 5, 5, 5}, {-1, 0, -1, 11}, {0, 5, 11, 5}, {0, 5, 11}, {0, 5, 11, 5, 5}, {5, 12, 5, 5}, {5, -2, 5, 5}, {}, nil} {
		for _, txn := range []int{0, 3, 5, 11, -1, 12} {
			locks := roomy(list)
			before := whole(locks)
			one, _ := impl.LocksFree(locks, txn)
			two, _ := impl.LocksFree(locks, txn)
			checkApart(t, "LocksFree", []any{locks}, []any{one, two})
			checkApart(t, "LocksOf", []any{locks}, []any{impl.LocksOf(locks, txn), impl.LocksOf(locks, txn)})
			impl.LocksValid(locks)
			if after := whole(locks); after != before {
				t.Fatalf("LocksFree, LocksOf or LocksValid modified %s to %s", before, after)
			}
		}
	}
}
