package tests

import (
	"fmt"
	"slices"
	"testing"

	"loop.example/atomicpush/impl"
)

func TestP140First(t *testing.T) {
	for txn, want := range []int{2, -1, -1, 3, -1, -1, 1, -1, -1, -1, -1, -1} {
		checkFirst(t, "all kinds", mixed(), txn, want)
	}
	for _, test := range []struct {
		name string
		txn  int
		want int
	}{
		{"committed first", 6, 1},
		{"committed in the middle", 0, 2},
		{"committed last", 3, 3},
		{"not decided, without votes against it", 1, -1},
		{"not decided, without votes", 5, -1},
		{"aborted by a vote", 2, -1},
		{"aborted by a timeout", 4, -1},
		{"aborted by all", 8, -1},
		{"the next one", 9, -1},
		{"the last one that there can be", 11, -1},
	} {
		checkFirst(t, test.name, mixed(), test.txn, test.want)
	}
}

func TestP140SomeCoordinators(t *testing.T) {
	for name, c := range someCoordinators() {
		for txn := range 12 {
			want := -1
			for place, other := range c.Order {
				if other == txn {
					want = place + 1
				}
			}
			checkFirst(t, name, c, txn, want)
		}
	}
}

// As many transactions as there can be, in several orders.
func TestP140AllTransactions(t *testing.T) {
	n := numbers(140)
	for range 50 {
		order := n.shuffled([]int{0, 1, 2, 3, 4, 5, 6, 7, 8, 9, 10, 11})
		for place, txn := range order {
			checkFirst(t, "all are committed", ordered(order, committedTxns(12)...), txn, place+1)
		}
	}
	for _, order := range allOrders([]int{0, 1, 2}) {
		for place, txn := range order {
			checkFirst(t, "three", ordered(order, committedTxns(3)...), txn, place+1)
		}
		for txn := 3; txn < 12; txn++ {
			checkFirst(t, "three", ordered(order, committedTxns(3)...), txn, -1)
		}
	}
}

func TestP140EachCoordinator(t *testing.T) {
	eachCoordinator(t, 240, 2000, func(n *numbers, c impl.Coordinator) {
		for txn := -1; txn <= 12; txn++ {
			got := impl.SnapshotFirst(c, txn)
			if committed := existsIn(c, txn) && c.Txns[txn].Decision == 2; committed != (got != -1) || committed && (got < 1 || c.Order[got-1] != txn) {
				t.Fatalf("SnapshotFirst(%s, %d) = %d", shown(c), txn, got)
			}
		}
	})
}

// A transaction gets its place when the last vote for it is counted, and keeps it.
func TestP140AfterVotes(t *testing.T) {
	eachBallot(t, 340, func(c impl.Coordinator, txn int, k int, yes bool) {
		after, _ := impl.CoordinatorVote(c, txn, k, yes)
		for other := range 12 {
			want := impl.SnapshotFirst(c, other)
			if want == -1 && slices.Contains(after.Order, other) {
				want = len(c.Order) + 1
			}
			checkFirst(t, "after a vote", after, other, want)
		}
	})
}

func TestP140NoSuchTransaction(t *testing.T) {
	for name, c := range someCoordinators() {
		for _, txn := range wrongTxns() {
			checkFirst(t, fmt.Sprintf("%s, the transaction %d", name, txn), c, txn, -1)
		}
		for txn := len(c.Txns); txn < 12; txn++ {
			checkFirst(t, name+", one that has not begun", c, txn, -1)
		}
	}
}

func TestP140InvalidCoordinators(t *testing.T) {
	for name, c := range brokenCoordinators() {
		for txn := -1; txn <= 13; txn++ {
			checkFirst(t, name, c, txn, -1)
		}
	}
	// A transaction out of range is not there either if the order of an invalid coordinator has it.
	for _, txn := range wrongTxns() {
		checkFirst(t, "both are wrong", ordered([]int{txn}), txn, -1)
		checkFirst(t, "both are wrong", ordered([]int{6, 0, 3, txn}, mixed().Txns...), txn, -1)
	}
}

func TestMemoryOfSnapshotFirst(t *testing.T) {
	for name, some := range memoryCoordinators() {
		c := roomyCoordinator(some)
		before := wholeCoordinator(c)
		for txn := -1; txn <= 12; txn++ {
			if one, two := impl.SnapshotFirst(c, txn), impl.SnapshotFirst(c, txn); one != two {
				t.Fatalf("%s: SnapshotFirst gives %d, and then %d", name, one, two)
			}
		}
		if after := wholeCoordinator(c); after != before {
			t.Fatalf("%s: SnapshotFirst modified %s to %s", name, before, after)
		}
	}
}
