package tests

import (
	"slices"
	"testing"

	"loop.example/atomicpush/impl"
)

// allOrders returns the numbers of a list in all orders.
func allOrders(list []int) [][]int {
	if len(list) == 0 {
		return [][]int{{}}
	}
	result := [][]int{}
	for i, first := range list {
		for _, rest := range allOrders(without(list, i)) {
			result = append(result, append([]int{first}, rest...))
		}
	}
	return result
}

func TestVoteConstants(t *testing.T) {
	if impl.Shards != 3 || impl.MaxTxn != 12 {
		t.Errorf("Shards is %d and MaxTxn is %d", impl.Shards, impl.MaxTxn)
	}
}

// All votes are for a transaction, in each order: only the last one commits it.
func TestP114EachOrder(t *testing.T) {
	for _, shards := range allShardSets() {
		for _, order := range allOrders(shards) {
			c, parts := mixed(), partsAt(9, shards...)
			votes := make([]int, len(shards))
			c, _ = impl.CoordinatorBegin(c, parts)
			waits := shards
			for i, shard := range order {
				votes = changed(votes, slices.Index(shards, shard), 1)
				want := ordered([]int{6, 0, 3}, append(mixed().Txns, txnOf(0, votes, parts...))...)
				if i == len(order)-1 {
					want = ordered([]int{6, 0, 3, 9}, append(mixed().Txns, txnOf(2, votes, parts...))...)
				}
				checkVote(t, "a vote for it", c, 9, shard, true, want, true)
				c, _ = impl.CoordinatorVote(c, 9, shard, true)
				waits = without(waits, slices.Index(waits, shard))
				checkWaits(t, "after a vote for it", c, 9, waits)
				checkCoordinatorValid(t, "after a vote for it", c, true)
			}
		}
	}
}

func TestP114VotesForIt(t *testing.T) {
	eachBallot(t, 114, func(c impl.Coordinator, txn int, shard int, yes bool) {
		want, ok, answer := votedOn(c, txn, shard, yes)
		checkVote(t, answer, c, txn, shard, yes, want, ok)
		after, done := impl.CoordinatorVote(c, txn, shard, yes)
		if !done || !yes {
			return
		}
		checkCoordinatorValid(t, answer, after, true)
		missing := slices.Contains(after.Txns[txn].Votes, 0)
		decision, order := 0, c.Order
		if !missing {
			decision, order = 2, append(slices.Clone(c.Order), txn)
		}
		if after.Txns[txn].Decision != decision || !slices.Equal(after.Order, order) || slices.Contains(impl.CoordinatorWaits(after, txn), shard) {
			t.Fatalf("CoordinatorVote(%s, %d, %d, true) = %s", shown(c), txn, shard, shown(after))
		}
	})
}

// The order of the commits is not that in which the transactions began.
func TestP114OrderOfCommits(t *testing.T) {
	for _, order := range allOrders([]int{0, 1, 2, 3}) {
		c := impl.Coordinator{}
		for txn := range 4 {
			c, _ = impl.CoordinatorBegin(c, partsAt(txn, 0, 2))
		}
		for _, txn := range []int{3, 1, 0, 2} {
			c, _ = impl.CoordinatorVote(c, txn, 2, true)
		}
		for i, txn := range order {
			c, _ = impl.CoordinatorVote(c, txn, 0, true)
			if !slices.Equal(c.Order, order[:i+1]) || !impl.CoordinatorValid(c) {
				t.Fatalf("the commits of %v lead to %s", order[:i+1], shown(c))
			}
		}
	}
}

// One with a part for each shard and one with a part for one shard, of coordinators with one, all but one and all transactions.
func TestP114FullCoordinators(t *testing.T) {
	for _, many := range []int{1, 11, 12} {
		for txn := range many {
			for _, shards := range [][]int{{1}, {0, 1, 2}} {
				votes := changed(slices.Repeat([]int{1}, len(shards)), slices.Index(shards, 1), 0)
				txns := changed(manyTxns(many), txn, txnOf(0, votes, partsAt(txn, shards...)...))
				c := coordinator(txns...)
				done := changed(txns, txn, txnOf(2, slices.Repeat([]int{1}, len(shards)), partsAt(txn, shards...)...))
				checkVote(t, "the last vote", c, txn, 1, true, ordered(append(slices.Clone(c.Order), txn), done...), true)
				done = changed(txns, txn, txnOf(3, changed(votes, slices.Index(shards, 1), -1), partsAt(txn, shards...)...))
				checkVote(t, "the last vote, against it", c, txn, 1, false, ordered(c.Order, done...), true)
			}
		}
	}
}

// A vote against a transaction is the first one, one in the middle and the last one, of each shard and in each order.
func TestP115EachPlace(t *testing.T) {
	for _, shards := range allShardSets() {
		for _, order := range allOrders(shards) {
			for place, shard := range order {
				c, parts := mixed(), partsAt(9, shards...)
				c, _ = impl.CoordinatorBegin(c, parts)
				votes := make([]int, len(shards))
				for _, ahead := range order[:place] {
					c, _ = impl.CoordinatorVote(c, 9, ahead, true)
					votes = changed(votes, slices.Index(shards, ahead), 1)
				}
				votes = changed(votes, slices.Index(shards, shard), -1)
				want := ordered([]int{6, 0, 3}, append(mixed().Txns, txnOf(3, votes, parts...))...)
				checkVote(t, "a vote against it", c, 9, shard, false, want, true)
				checkWaits(t, "a vote against it", want, 9, nil)
				checkCoordinatorValid(t, "a vote against it", want, true)
				// No later vote counts, neither of those that are missing nor of those that are known.
				c, _ = impl.CoordinatorVote(c, 9, shard, false)
				for later := range 3 {
					checkVote(t, "a vote after one against it", c, 9, later, true, want, false)
					checkVote(t, "a vote against it after another one", c, 9, later, false, want, false)
				}
			}
		}
	}
}

func TestP115VotesAgainstIt(t *testing.T) {
	eachBallot(t, 115, func(c impl.Coordinator, txn int, shard int, _ bool) {
		want, ok, answer := votedOn(c, txn, shard, false)
		checkVote(t, answer, c, txn, shard, false, want, ok)
		after, done := impl.CoordinatorVote(c, txn, shard, false)
		if done && (after.Txns[txn].Decision != impl.RecordAbort || !slices.Equal(after.Order, c.Order) || !impl.CoordinatorValid(after)) {
			t.Fatalf("CoordinatorVote(%s, %d, %d, false) = %s", shown(c), txn, shard, shown(after))
		}
	})
}

func TestP116Again(t *testing.T) {
	eachBallot(t, 116, func(c impl.Coordinator, txn int, shard int, yes bool) {
		after, done := impl.CoordinatorVote(c, txn, shard, yes)
		if !done {
			return
		}
		checkVote(t, "the same vote again", after, txn, shard, yes, after, false)
		checkVote(t, "the other vote", after, txn, shard, !yes, after, false)
	})
}

// Also after all other votes, a timeout and further transactions, no shard votes twice.
func TestP116AgainLater(t *testing.T) {
	for _, shards := range allShardSets() {
		for _, shard := range shards {
			for _, yes := range []bool{true, false} {
				c, _ := impl.CoordinatorBegin(mixed(), partsAt(9, shards...))
				c, _ = impl.CoordinatorVote(c, 9, shard, yes)
				c, _ = impl.CoordinatorBegin(c, partsAt(10, shards...))
				steps := []impl.Coordinator{c}
				late, _ := impl.CoordinatorTimeout(c, 9)
				steps = append(steps, late)
				for _, other := range shards {
					c, _ = impl.CoordinatorVote(c, 9, other, true)
					steps = append(steps, c)
				}
				for _, step := range steps {
					checkVote(t, "the same shard later", step, 9, shard, true, step, false)
					checkVote(t, "the same shard later, against it", step, 9, shard, false, step, false)
				}
			}
		}
	}
}

func TestP117OtherTransactions(t *testing.T) {
	eachBallot(t, 117, func(c impl.Coordinator, txn int, shard int, yes bool) {
		after, done := impl.CoordinatorVote(c, txn, shard, yes)
		if !done {
			return
		}
		if len(after.Txns) != len(c.Txns) || !sameTxns(without(after.Txns, txn), without(c.Txns, txn)) {
			t.Fatalf("CoordinatorVote(%s, %d, %d, %t) = %s", shown(c), txn, shard, yes, shown(after))
		}
		if !slices.EqualFunc(after.Txns[txn].Parts, c.Txns[txn].Parts, samePart) {
			t.Fatalf("CoordinatorVote(%s, %d, %d, %t) changes parts to %s", shown(c), txn, shard, yes, shown(after))
		}
	})
}

// In this coordinator, two transactions wait for the same shards: a vote counts for one of them.
func TestP117SameParts(t *testing.T) {
	open := txnOf(0, []int{0, 0}, partsAt(1, 0, 2)...)
	c := coordinator(open, open, open)
	yes, no := txnOf(0, []int{0, 1}, open.Parts...), txnOf(3, []int{0, -1}, open.Parts...)
	for txn := range 3 {
		checkVote(t, "one of three", c, txn, 2, true, coordinator(changed(c.Txns, txn, yes)...), true)
		checkVote(t, "one of three, against it", c, txn, 2, false, coordinator(changed(c.Txns, txn, no)...), true)
	}
}

func TestP118NotAwaited(t *testing.T) {
	for _, test := range []struct {
		name  string
		txn   int
		shard int
	}{
		{"a shard without a part, of a transaction with one part", 5, 0},
		{"another shard without a part", 5, 1},
		{"a shard without a part, the other one has voted", 7, 2},
		{"a shard that has voted", 1, 0},
		{"a shard that has voted, the last one", 7, 1},
		{"a committed transaction", 0, 0},
		{"a committed transaction, the last part", 0, 2},
		{"a committed transaction, no part", 0, 1},
		{"a committed transaction with one part", 3, 1},
		{"a committed transaction with all parts", 6, 1},
		{"one that is aborted by a vote, of the shard that voted", 2, 2},
		{"one that is aborted by a vote, of the missing one", 2, 1},
		{"one that is aborted by a vote, no part", 2, 0},
		{"one that is aborted by a timeout, the first vote", 4, 0},
		{"one that is aborted by a timeout, the missing vote", 4, 1},
		{"one that is aborted by a timeout, the last vote", 4, 2},
		{"one that all votes are against", 8, 1},
		{"a transaction that does not exist", 9, 0},
		{"another one that does not exist", 11, 0},
		{"a transaction -1", -1, 0},
		{"a transaction MaxTxn", 12, 0},
		{"a shard -1", 1, -1},
		{"a shard Shards", 1, 3},
		{"a shard far too great", 1, 1 << 32},
		{"no transaction and no shard", 12, 3},
		{"no transaction and no shard, below 0", -1, -1},
	} {
		checkVote(t, test.name, mixed(), test.txn, test.shard, true, mixed(), false)
		checkVote(t, test.name+", against it", mixed(), test.txn, test.shard, false, mixed(), false)
	}
}

func TestP118EachVote(t *testing.T) {
	for name, c := range someCoordinators() {
		for _, txn := range append(wrongTxns(), 0, 1, 2, 3, 4, 5, 6, 7, 8, 9, 10, 11) {
			for _, shard := range append(wrongShards(), 0, 1, 2) {
				for _, yes := range []bool{true, false} {
					want, ok, answer := votedOn(c, txn, shard, yes)
					checkVote(t, name+", "+answer, c, txn, shard, yes, want, ok)
				}
			}
		}
	}
}

func TestP118IfAndOnlyIf(t *testing.T) {
	eachBallot(t, 118, func(c impl.Coordinator, txn int, shard int, yes bool) {
		waits := slices.Contains(impl.CoordinatorWaits(c, txn), shard)
		if after, done := impl.CoordinatorVote(c, txn, shard, yes); done != waits || done == sameCoordinator(after, c) {
			t.Fatalf("CoordinatorVote(%s, %d, %d, %t) = %s, %t", shown(c), txn, shard, yes, shown(after), done)
		}
	})
}

func TestP118InvalidCoordinators(t *testing.T) {
	for name, c := range brokenCoordinators() {
		for _, txn := range []int{0, 1, 2, 9, 11, 12, -1} {
			for shard := -1; shard <= 3; shard++ {
				checkVote(t, name, c, txn, shard, true, impl.Coordinator{}, false)
				checkVote(t, name, c, txn, shard, false, impl.Coordinator{}, false)
			}
		}
	}
}

// All pairs of votes of two shards: the second one is counted if the first one is for the transaction.
func TestP126EitherOrder(t *testing.T) {
	for _, shards := range allShardSets() {
		for _, a := range shards {
			for _, b := range shards {
				for kind := range 4 {
					if a != b {
						c, _ := impl.CoordinatorBegin(mixed(), partsAt(9, shards...))
						checkTwoVotes(t, c, 9, a, kind%2 == 0, b, kind < 2)
					}
				}
			}
		}
	}
	eachBallot(t, 126, func(c impl.Coordinator, txn int, shard int, yes bool) {
		for other := range 3 {
			if other != shard {
				checkTwoVotes(t, c, txn, shard, yes, other, true)
				checkTwoVotes(t, c, txn, shard, yes, other, false)
			}
		}
	})
}

// checkTwoVotes fails if two votes that are awaited lead to different coordinators in either order, though both are counted.
func checkTwoVotes(t *testing.T, c impl.Coordinator, txn int, a int, aYes bool, b int, bYes bool) {
	t.Helper()
	waits := impl.CoordinatorWaits(c, txn)
	if !slices.Contains(waits, a) || !slices.Contains(waits, b) {
		return
	}
	one, oneFirst := impl.CoordinatorVote(c, txn, a, aYes)
	one, oneLast := impl.CoordinatorVote(one, txn, b, bYes)
	two, twoFirst := impl.CoordinatorVote(c, txn, b, bYes)
	two, twoLast := impl.CoordinatorVote(two, txn, a, aYes)
	if !oneFirst || !twoFirst || oneLast != aYes || twoLast != bYes {
		t.Fatalf("of %s, the votes of %d, %t, and %d, %t, for %d are counted: %t, %t, and the other way round: %t, %t", shown(c), a, aYes, b, bYes, txn, oneFirst, oneLast, twoFirst, twoLast)
	}
	if oneLast && twoLast && !sameCoordinator(one, two) {
		t.Fatalf("of %s, the votes of %d, %t, and %d, %t, for %d lead to %s, and the other way round to %s", shown(c), a, aYes, b, bYes, txn, shown(one), shown(two))
	}
}

// All votes of three shards, in all orders.
func TestP126AllOrders(t *testing.T) {
	for kinds := range 8 {
		for _, order := range allOrders([]int{0, 1, 2}) {
			c, _ := impl.CoordinatorBegin(impl.Coordinator{}, partsAt(0, 0, 1, 2))
			want, aborted := []int{0, 0, 0}, false
			for _, shard := range order {
				yes := kinds>>shard&1 == 1
				after, done := impl.CoordinatorVote(c, 0, shard, yes)
				if done == aborted {
					t.Fatalf("CoordinatorVote(%s, 0, %d, %t) answers %t", shown(c), shard, yes, done)
				}
				if !aborted {
					want = changed(want, shard, map[bool]int{true: 1, false: -1}[yes])
				}
				c, aborted = after, aborted || !yes
			}
			decision := 2
			if aborted {
				decision = 3
			}
			if !sameCoordinator(c, coordinator(txnOf(decision, want, partsAt(0, 0, 1, 2)...))) {
				t.Fatalf("the votes %b in the order %v lead to %s", kinds, order, shown(c))
			}
		}
	}
}

func TestMemoryOfCoordinatorVote(t *testing.T) {
	for name, some := range memoryCoordinators() {
		for _, txn := range []int{0, 1, 2, 7, 11, 12, -1} {
			for shard := -1; shard <= 3; shard++ {
				for _, yes := range []bool{true, false} {
					c := roomyCoordinator(some)
					before := wholeCoordinator(c)
					one, _ := impl.CoordinatorVote(c, txn, shard, yes)
					two, _ := impl.CoordinatorVote(c, txn, shard, yes)
					checkApart(t, name, []any{c}, []any{one, two})
					if after := wholeCoordinator(c); after != before {
						t.Fatalf("CoordinatorVote modified %s to %s", before, after)
					}
				}
			}
		}
	}
}
