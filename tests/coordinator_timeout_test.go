package tests

import (
	"slices"
	"testing"

	"loop.example/atomicpush/impl"
)

func TestP119Timeout(t *testing.T) {
	for _, test := range []struct {
		name  string
		txn   int
		votes []int
	}{
		{"after some votes", 1, []int{1, 0, 0}},
		{"before any vote", 5, []int{0}},
		{"after all votes but one", 7, []int{0, 1}},
	} {
		want := changed(mixed().Txns, test.txn, txnOf(3, test.votes, mixed().Txns[test.txn].Parts...))
		checkTimeout(t, test.name, mixed(), test.txn, ordered([]int{6, 0, 3}, want...), true)
		checkWaits(t, test.name, ordered([]int{6, 0, 3}, want...), test.txn, nil)
		checkCoordinatorValid(t, test.name, ordered([]int{6, 0, 3}, want...), true)
	}
}

// A timeout after each of the votes, in each order.
func TestP119AfterEachVote(t *testing.T) {
	for _, shards := range allShardSets() {
		for _, order := range allOrders(shards) {
			c, parts := mixed(), partsAt(9, shards...)
			c, _ = impl.CoordinatorBegin(c, parts)
			votes := make([]int, len(shards))
			for _, shard := range order {
				want := ordered([]int{6, 0, 3}, append(mixed().Txns, txnOf(3, votes, parts...))...)
				checkTimeout(t, "a timeout", c, 9, want, true)
				late, _ := impl.CoordinatorTimeout(c, 9)
				for later := range 3 {
					checkVote(t, "a vote after a timeout", late, 9, later, true, want, false)
					checkVote(t, "a vote against it after a timeout", late, 9, later, false, want, false)
				}
				c, _ = impl.CoordinatorVote(c, 9, shard, true)
				votes = changed(votes, slices.Index(shards, shard), 1)
			}
			checkTimeout(t, "a timeout after all votes", c, 9, c, false)
		}
	}
}

func TestP119OthersUnchanged(t *testing.T) {
	eachTimeout(t, 119, func(c impl.Coordinator, txn int) {
		want, ok, answer := timedOut(c, txn)
		checkTimeout(t, answer, c, txn, want, ok)
		after, done := impl.CoordinatorTimeout(c, txn)
		if !done {
			return
		}
		if after.Txns[txn].Decision != impl.RecordAbort || !slices.Equal(after.Txns[txn].Votes, c.Txns[txn].Votes) || !slices.Equal(after.Order, c.Order) {
			t.Fatalf("CoordinatorTimeout(%s, %d) = %s", shown(c), txn, shown(after))
		}
		if len(after.Txns) != len(c.Txns) || !sameTxns(without(after.Txns, txn), without(c.Txns, txn)) {
			t.Fatalf("CoordinatorTimeout(%s, %d) = %s", shown(c), txn, shown(after))
		}
		checkWaits(t, answer, after, txn, nil)
		checkCoordinatorValid(t, answer, after, true)
	})
}

func TestP120IfAndOnlyIf(t *testing.T) {
	eachTimeout(t, 120, func(c impl.Coordinator, txn int) {
		after, done := impl.CoordinatorTimeout(c, txn)
		if done != (existsIn(c, txn) && c.Txns[txn].Decision == 0) {
			t.Fatalf("CoordinatorTimeout(%s, %d) answers %t", shown(c), txn, done)
		}
		checkTimeout(t, "a timeout again", after, txn, after, false)
	})
}

func TestP120EachTransaction(t *testing.T) {
	for name, c := range someCoordinators() {
		for _, txn := range append(wrongTxns(), 0, 1, 2, 3, 4, 5, 6, 7, 8, 9, 10, 11) {
			want, ok, answer := timedOut(c, txn)
			checkTimeout(t, name+", "+answer, c, txn, want, ok)
		}
	}
}

func TestP120Decided(t *testing.T) {
	for _, txn := range []int{0, 2, 3, 4, 6, 8} {
		checkTimeout(t, "one that is decided", mixed(), txn, mixed(), false)
	}
	for _, txn := range append(wrongTxns(), 9, 10, 11) {
		checkTimeout(t, "one that does not exist", mixed(), txn, mixed(), false)
		checkTimeout(t, "one that does not exist of none", impl.Coordinator{}, txn, impl.Coordinator{}, false)
	}
}

// A vote and a timeout, in either order: what comes first decides.
func TestP120TimeoutOrVote(t *testing.T) {
	for _, yes := range []bool{true, false} {
		c, _ := impl.CoordinatorBegin(impl.Coordinator{}, partsAt(0, 1))
		voted, _ := impl.CoordinatorVote(c, 0, 1, yes)
		checkTimeout(t, "a timeout after the last vote", voted, 0, voted, false)
		late, _ := impl.CoordinatorTimeout(c, 0)
		checkVote(t, "the last vote after a timeout", late, 0, 1, yes, coordinator(txnOf(3, []int{0}, partsAt(0, 1)...)), false)
	}
}

func TestP120InvalidCoordinators(t *testing.T) {
	for name, c := range brokenCoordinators() {
		for txn := range 12 {
			checkTimeout(t, name, c, txn, impl.Coordinator{}, false)
		}
		for _, txn := range wrongTxns() {
			checkTimeout(t, name, c, txn, impl.Coordinator{}, false)
		}
	}
}

func TestP125Waits(t *testing.T) {
	for txn, want := range map[int][]int{0: nil, 1: {1, 2}, 2: nil, 3: nil, 4: nil, 5: {2}, 6: nil, 7: {0}, 8: nil, 9: nil, 11: nil, 12: nil, -1: nil} {
		checkWaits(t, "all kinds", mixed(), txn, want)
	}
	for name, c := range someCoordinators() {
		for txn := range 12 {
			checkWaits(t, name, c, txn, waitedIn(c, txn))
		}
		for _, txn := range wrongTxns() {
			checkWaits(t, name, c, txn, nil)
		}
	}
}

// All missing votes of one that is not decided.
func TestP125EachVotes(t *testing.T) {
	for votes := range 7 {
		list, want := []int{1, 1, 1}, []int{}
		for shard := range 3 {
			if votes>>shard&1 == 0 {
				list[shard] = 0
				want = append(want, shard)
			}
		}
		checkWaits(t, "one that is not decided", coordinator(txnOf(0, list, partsAt(0, 0, 1, 2)...)), 0, want)
		checkWaits(t, "one that is aborted", coordinator(txnOf(3, list, partsAt(0, 0, 1, 2)...)), 0, nil)
	}
}

func TestP125IfAndOnlyIf(t *testing.T) {
	eachTimeout(t, 125, func(c impl.Coordinator, txn int) {
		got := impl.CoordinatorWaits(c, txn)
		open := existsIn(c, txn) && c.Txns[txn].Decision == 0
		if !slices.Equal(got, waitedIn(c, txn)) || (len(got) > 0) != open {
			t.Fatalf("CoordinatorWaits(%s, %d) = %v", shown(c), txn, got)
		}
	})
}

func TestP125InvalidCoordinators(t *testing.T) {
	for name, c := range brokenCoordinators() {
		for txn := range 12 {
			checkWaits(t, name, c, txn, nil)
		}
		for _, txn := range wrongTxns() {
			checkWaits(t, name, c, txn, nil)
		}
	}
}

func TestMemoryOfCoordinatorTimeout(t *testing.T) {
	for name, some := range memoryCoordinators() {
		for _, txn := range []int{0, 1, 2, 5, 7, 11, 12, -1} {
			c := roomyCoordinator(some)
			before := wholeCoordinator(c)
			one, _ := impl.CoordinatorTimeout(c, txn)
			two, _ := impl.CoordinatorTimeout(c, txn)
			three, four := impl.CoordinatorWaits(c, txn), impl.CoordinatorWaits(c, txn)
			checkApart(t, name, []any{c}, []any{one, two, three, four})
			if after := wholeCoordinator(c); after != before {
				t.Fatalf("CoordinatorTimeout or CoordinatorWaits modified %s to %s", before, after)
			}
		}
	}
}
