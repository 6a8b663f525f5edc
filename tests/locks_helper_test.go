package tests

import (
	"fmt"
	"math"
	"slices"
	"testing"

	"loop.example/atomicpush/impl"
)

// wrongTxns are numbers that no transaction has.
func wrongTxns() []int {
	return []int{-1, -2, -3, -12, 12, 13, 24, 990, 1 << 32, 1<<32 + 5, math.MinInt, math.MinInt + 1, math.MaxInt}
}

// someLocks returns all locks of the first, the last and one other transaction, and of free refs.
func someLocks() [][]int {
	return allRefs(-1, 0, 5, 11)
}

// updatesOf returns updates of the given refs.
func updatesOf(refs ...int) []impl.Update {
	result := []impl.Update{}
	for _, ref := range refs {
		result = append(result, update(ref, -1, 100+ref))
	}
	return result
}

// allRefSets returns all ascending lists of at least one ref.
func allRefSets() [][]int {
	result := [][]int{}
	for set := 1; set < 16; set++ {
		refs := []int{}
		for ref := range 4 {
			if set>>ref&1 == 1 {
				refs = append(refs, ref)
			}
		}
		result = append(result, refs)
	}
	return result
}

// locksRight tells as chapter 12 does whether locks are valid.
func locksRight(locks []int) bool {
	return len(locks) == 4 && !slices.ContainsFunc(locks, func(txn int) bool { return txn < -1 || txn > 11 })
}

// anyLocked tells whether a ref of updates is locked.
func anyLocked(locks []int, list []impl.Update) bool {
	return slices.ContainsFunc(list, func(u impl.Update) bool { return locks[u.Ref] >= 0 })
}

// taken computes the locks after a transaction has locked the refs of updates, as chapter 12 tells, for valid arguments.
func taken(locks []int, txn int, list []impl.Update) ([]int, bool) {
	if anyLocked(locks, list) {
		return locks, false
	}
	after := slices.Clone(locks)
	for _, u := range list {
		after[u.Ref] = txn
	}
	return after, true
}

// heldBy computes the refs that a transaction has locked.
func heldBy(locks []int, txn int) []int {
	result := []int{}
	for ref := range 4 {
		if locks[ref] == txn {
			result = append(result, ref)
		}
	}
	return result
}

// freed computes the locks after all refs of a transaction are free, and whether there was one.
func freed(locks []int, txn int) ([]int, bool) {
	after := slices.Clone(locks)
	for ref := range 4 {
		if after[ref] == txn {
			after[ref] = -1
		}
	}
	return after, slices.Contains(locks, txn)
}

// locks returns valid locks, of which about half are free.
func (n *numbers) locks() []int {
	result := []int{}
	for range 4 {
		txn := n.below(12)
		if n.below(2) == 0 {
			txn = -1
		}
		result = append(result, txn)
	}
	return result
}

// eachTake calls check with many valid locks, transactions and updates: all of a few, and others.
// It requires that all refs are free in enough of the other cases, and are not in enough others.
func eachTake(t *testing.T, seed int, check func(locks []int, txn int, list []impl.Update)) {
	t.Helper()
	for _, locks := range someLocks() {
		for _, txn := range []int{0, 1, 5, 11} {
			for _, refs := range allRefSets() {
				check(locks, txn, updatesOf(refs...))
			}
		}
	}
	n := numbers(seed)
	done, refused := 0, 0
	for range 20000 {
		locks, list := n.locks(), n.updates(n.refs())
		if anyLocked(locks, list) {
			refused++
		} else {
			done++
		}
		check(locks, n.below(12), list)
	}
	if done < 5000 || refused < 5000 {
		t.Errorf("all refs are free in %d cases, and not in %d", done, refused)
	}
}

// eachHolder calls check with many valid locks, and with each transaction.
func eachHolder(seed int, check func(locks []int, txn int)) {
	all := someLocks()
	n := numbers(seed)
	for range 5000 {
		all = append(all, n.locks())
	}
	for _, locks := range all {
		for txn := range 12 {
			check(locks, txn)
		}
	}
}

// brokenLocks returns locks that are invalid, each for another reason.
func brokenLocks() map[string][]int {
	right := []int{-1, 0, 5, 11}
	result := map[string][]int{
		"no locks":           nil,
		"an empty slice":     {},
		"one lock":           {5},
		"one free ref":       {-1},
		"three locks":        right[:3:3],
		"three of four":      right[:3],
		"three free refs":    {-1, -1, -1},
		"five locks":         append(slices.Clone(right), 5),
		"five free refs":     {-1, -1, -1, -1, -1},
		"eight locks":        slices.Concat(right, right),
		"a lock for each id": slices.Repeat([]int{5}, 991),
		"many locks":         slices.Repeat(right, 10000),
		"a wrong one ahead":  {12, -1, 0, 5, 11},
	}
	for _, txn := range wrongTxns() {
		if txn == -1 {
			continue
		}
		for ref := range 4 {
			result[fmt.Sprintf("%d as lock %d", txn, ref)] = changed(right, ref, txn)
			result[fmt.Sprintf("%d as lock %d of free refs", txn, ref)] = changed([]int{-1, -1, -1, -1}, ref, txn)
		}
		result[fmt.Sprintf("%d as all locks", txn)] = []int{txn, txn, txn, txn}
	}
	return result
}

// checkLocksTake fails if LocksTake does not give the locks.
func checkLocksTake(t *testing.T, name string, locks []int, txn int, list []impl.Update, want []int, ok bool) {
	t.Helper()
	if got, done := impl.LocksTake(locks, txn, list); !slices.Equal(got, want) || done != ok {
		t.Fatalf("%s: LocksTake(%s, %d, %s) = %v, %t, not %v, %t", name, shown(locks), txn, shown(list), got, done, want, ok)
	}
}

// checkLocksFree fails if LocksFree does not give the locks.
func checkLocksFree(t *testing.T, name string, locks []int, txn int, want []int, ok bool) {
	t.Helper()
	if got, done := impl.LocksFree(locks, txn); !slices.Equal(got, want) || done != ok {
		t.Fatalf("%s: LocksFree(%s, %d) = %v, %t, not %v, %t", name, shown(locks), txn, got, done, want, ok)
	}
}

// checkLocksOf fails if LocksOf does not give the refs.
func checkLocksOf(t *testing.T, name string, locks []int, txn int, want []int) {
	t.Helper()
	if got := impl.LocksOf(locks, txn); !slices.Equal(got, want) {
		t.Fatalf("%s: LocksOf(%s, %d) = %v, not %v", name, shown(locks), txn, got, want)
	}
}

// checkLocksValid fails if LocksValid gives another answer.
func checkLocksValid(t *testing.T, name string, locks []int, want bool) {
	t.Helper()
	if got := impl.LocksValid(locks); got != want {
		t.Fatalf("%s: LocksValid(%s) = %t", name, shown(locks), got)
	}
}
