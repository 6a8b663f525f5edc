package tests

import (
	"fmt"
	"slices"
	"testing"

	"loop.example/atomicpush/impl"
)

// memoryCoordinators returns coordinators, valid ones and others, that are not too large to describe all of their memory.
func memoryCoordinators() map[string]impl.Coordinator {
	result := someCoordinators()
	for name, order := range brokenOrders() {
		if len(order) < 100 {
			result[name] = ordered(order, mixed().Txns...)
		}
	}
	result["one too many"] = coordinator(manyTxns(13)...)
	result["a wrong transaction"] = coordinator(append(mixed().Txns, txnOf(0, []int{0, -1}, partsAt(9, 0, 1)...))...)
	result["a transaction without parts"] = coordinator(txnOf(0, []int{0, 0}))
	return result
}

func TestP121SomeCoordinators(t *testing.T) {
	for name, c := range someCoordinators() {
		if !coordinatorRight(c) {
			t.Fatalf("%s: the test expects %s to be right", name, shown(c))
		}
		checkCoordinatorValid(t, name, c, true)
	}
	for name, c := range brokenCoordinators() {
		if coordinatorRight(c) {
			t.Fatalf("%s: the test expects %s to be wrong", name, shown(c))
		}
		checkCoordinatorValid(t, name, c, false)
	}
	eachCoordinator(t, 121, 3000, func(n *numbers, c impl.Coordinator) {
		checkCoordinatorValid(t, "any transactions", c, true)
	})
}

func TestP121EachNumberOfTransactions(t *testing.T) {
	for many := range 30 {
		checkCoordinatorValid(t, "all kinds", coordinator(manyTxns(many)...), many <= 12)
		checkCoordinatorValid(t, "all are committed", coordinator(committedTxns(many)...), many <= 12)
	}
}

// All orders of at most four numbers, of transactions of which two are committed.
func TestP121EachOrder(t *testing.T) {
	txns := []impl.Txn{txnOf(2, []int{1}, partsAt(0, 1)...), txnOf(0, []int{0}, partsAt(1, 1)...), txnOf(2, []int{1, 1}, partsAt(2, 0, 1)...), txnOf(3, []int{0}, partsAt(3, 2)...)}
	all := [][]int{{}}
	for range 5 {
		longer := [][]int{}
		for _, order := range all {
			want := slices.Equal(order, []int{0, 2}) || slices.Equal(order, []int{2, 0})
			checkCoordinatorValid(t, "some order", ordered(order, txns...), want)
			for txn := -1; txn <= 4; txn++ {
				longer = append(longer, append(slices.Clone(order), txn))
			}
		}
		all = longer
	}
}

// An order becomes wrong without any one transaction, with any one of them twice and with another one in its place.
func TestP121ChangedOrders(t *testing.T) {
	eachCoordinator(t, 221, 1000, func(n *numbers, c impl.Coordinator) {
		for i, txn := range c.Order {
			checkCoordinatorValid(t, "one is missing", ordered(without(c.Order, i), c.Txns...), false)
			checkCoordinatorValid(t, "one twice", ordered(append(slices.Clone(c.Order), txn), c.Txns...), false)
			other := n.below(15) - 1
			checkCoordinatorValid(t, "another one", ordered(changed(c.Order, i, other), c.Txns...), other == txn)
		}
	})
}

// All votes and decisions of one, two and three parts: also those that no votes or decisions are.
func TestP122EachVotes(t *testing.T) {
	all := [][]int{{}}
	for many := 1; many <= 4; many++ {
		longer := [][]int{}
		for _, votes := range all {
			for vote := -2; vote <= 2; vote++ {
				longer = append(longer, append(slices.Clone(votes), vote))
			}
		}
		all = longer
		for _, votes := range all {
			for _, shards := range allShardSets() {
				for decision := -1; decision <= 4; decision++ {
					txn := txnOf(decision, votes, partsAt(0, shards...)...)
					right := len(votes) == len(shards) && votesFit(votes, decision)
					checkCoordinatorValid(t, "some votes", coordinator(txn), right)
					checkCoordinatorValid(t, "some votes after others", coordinator(append(mixed().Txns, txn)...), right)
				}
			}
		}
	}
}

// votesFit tells of votes and a decision whether they are right together.
func votesFit(votes []int, decision int) bool {
	wrong := slices.ContainsFunc(votes, func(vote int) bool { return vote < -1 || vote > 1 })
	against, missing := slices.Contains(votes, -1), slices.Contains(votes, 0)
	switch {
	case wrong:
		return false
	case decision == 0:
		return !against && missing
	case decision == 2:
		return !against && !missing
	case decision == 3:
		return against || missing
	}
	return false
}

func TestP122VotesOfValidCoordinators(t *testing.T) {
	eachCoordinator(t, 122, 1000, func(n *numbers, c impl.Coordinator) {
		for txn, some := range c.Txns {
			for i := range some.Votes {
				for vote := -2; vote <= 2; vote++ {
					other := txnOf(some.Decision, changed(some.Votes, i, vote), some.Parts...)
					got := impl.CoordinatorValid(ordered(c.Order, changed(c.Txns, txn, other)...))
					if got != votesFit(other.Votes, other.Decision) {
						t.Fatalf("CoordinatorValid answers %t of %s", got, shown(other))
					}
				}
			}
		}
	})
}

func TestP122InvalidTransactions(t *testing.T) {
	for name, txn := range brokenTxns() {
		if txnRight(txn) {
			t.Fatalf("%s: the test expects %s to be wrong", name, shown(txn))
		}
		for place := range 12 {
			checkCoordinatorValid(t, fmt.Sprintf("%s, as transaction %d", name, place), coordinator(changed(manyTxns(12), place, txn)...), false)
		}
	}
}

// A history of transactions, votes and timeouts.
func TestP122History(t *testing.T) {
	n := numbers(322)
	committed, aborted := 0, 0
	for range 300 {
		c, want := impl.Coordinator{}, impl.Coordinator{}
		for range 70 {
			txn, shard, yes, ok := n.below(13), n.below(3), n.below(6) > 0, false
			switch n.below(12) {
			case 0, 1:
				parts := n.parts()
				next, done := begun(want, parts)
				checkBegin(t, "a history", c, parts, next, done)
				c, _ = impl.CoordinatorBegin(c, parts)
				want = next
			case 2:
				want, ok, _ = timedOut(want, txn)
				checkTimeout(t, "a history", c, txn, want, ok)
				c, _ = impl.CoordinatorTimeout(c, txn)
			default:
				want, ok, _ = votedOn(want, txn, shard, yes)
				checkVote(t, "a history", c, txn, shard, yes, want, ok)
				c, _ = impl.CoordinatorVote(c, txn, shard, yes)
			}
		}
		checkCoordinatorValid(t, "a history", c, true)
		for txn := range c.Txns {
			checkWaits(t, "a history", c, txn, waitedIn(want, txn))
		}
		for many := range len(c.Order) + 1 {
			for shard := range 3 {
				checkCoordinatorRefs(t, "a history", c, shard, many, refsAfter(want, shard, many))
			}
		}
		committed += len(c.Order)
		aborted += len(slices.DeleteFunc(slices.Clone(c.Txns), func(t impl.Txn) bool { return t.Decision != 3 }))
	}
	if committed < 600 || aborted < 600 {
		t.Errorf("only %d transactions are committed and %d aborted", committed, aborted)
	}
}
