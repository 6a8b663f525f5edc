package tests

import (
	"fmt"
	"math"
	"slices"
	"testing"

	"loop.example/atomicpush/impl"
)

// touching returns a coordinator in which 1, 4 and 0 are committed in this order, and several of them set the same refs of shard 0.
// No committed transaction touches shard 1 but 1, and no transaction at all has a part for ref 3 of shard 1.
func touching() impl.Coordinator {
	return ordered([]int{1, 4, 0},
		txnOf(2, []int{1, 1}, partFor(0, update(0, -1, 10), update(1, -1, 11)), partFor(2, update(3, -1, 12))),
		txnOf(2, []int{1, 1}, partFor(0, update(1, 990, 20), update(2, -1, 0)), partFor(1, update(0, 5, -1), update(1, 0, 990))),
		txnOf(3, []int{1, 0}, partFor(0, update(3, -1, 98)), partFor(1, update(2, -1, 98))),
		txnOf(0, []int{1, 0}, partFor(0, update(3, -1, 99)), partFor(2, update(0, -1, 99))),
		txnOf(2, []int{1}, partFor(0, update(0, 77, -1), update(1, -1, 30))),
	)
}

func TestP123Refs(t *testing.T) {
	none := []int{-1, -1, -1, -1}
	for shard, wants := range [][][]int{
		{none, {-1, 20, 0, -1}, {-1, 30, 0, -1}, {10, 11, 0, -1}},
		{none, {-1, 990, -1, -1}, {-1, 990, -1, -1}, {-1, 990, -1, -1}},
		{none, none, none, {-1, -1, -1, 12}},
	} {
		for many, want := range wants {
			checkCoordinatorRefs(t, "some transactions", touching(), shard, many, want)
		}
	}
}

// The order counts, not the numbers of the transactions.
func TestP123OtherOrder(t *testing.T) {
	for _, test := range []struct {
		order []int
		want  []int
	}{
		{[]int{0, 1, 4}, []int{-1, 30, 0, -1}},
		{[]int{0, 4, 1}, []int{-1, 20, 0, -1}},
		{[]int{1, 0, 4}, []int{-1, 30, 0, -1}},
		{[]int{1, 4, 0}, []int{10, 11, 0, -1}},
		{[]int{4, 0, 1}, []int{10, 20, 0, -1}},
		{[]int{4, 1, 0}, []int{10, 11, 0, -1}},
	} {
		checkCoordinatorRefs(t, "some order", ordered(test.order, touching().Txns...), 0, 3, test.want)
	}
}

// Each ref is set to each kind of id, whatever its old id is.
func TestP123EachUpdate(t *testing.T) {
	for _, list := range allUpdates(-1, 0, 990) {
		want := []int{-1, -1, -1, -1}
		for _, u := range list {
			want[u.Ref] = u.New
		}
		for shard := range 3 {
			c := coordinator(txnOf(2, []int{1}, partFor(shard, list...)))
			for other := range 3 {
				if other == shard {
					checkCoordinatorRefs(t, "its own updates", c, other, 1, want)
				} else {
					checkCoordinatorRefs(t, "a shard without a part", c, other, 1, []int{-1, -1, -1, -1})
				}
			}
		}
	}
}

func TestP123OneMore(t *testing.T) {
	eachCoordinator(t, 123, 2000, func(n *numbers, c impl.Coordinator) {
		for shard := range 3 {
			before := impl.CoordinatorRefs(c, shard, 0)
			for many, txn := range c.Order {
				want := slices.Clone(before)
				if place := placeOf(c.Txns[txn], shard); place != -1 {
					for _, u := range c.Txns[txn].Parts[place].Updates {
						want[u.Ref] = u.New
					}
				}
				checkCoordinatorRefs(t, "one more", c, shard, many+1, want)
				checkCoordinatorRefs(t, "one more", c, shard, many+1, refsAfter(c, shard, many+1))
				before = want
			}
		}
	})
}

// Votes and timeouts change the refs only if a transaction is committed, and then only the last ones.
func TestP123AfterVotes(t *testing.T) {
	eachBallot(t, 223, func(c impl.Coordinator, txn int, shard int, yes bool) {
		after, _ := impl.CoordinatorVote(c, txn, shard, yes)
		after, _ = impl.CoordinatorTimeout(after, txn)
		for other := range 3 {
			for many := range len(c.Order) + 1 {
				checkCoordinatorRefs(t, "after a vote", after, other, many, refsAfter(c, other, many))
			}
		}
	})
}

func TestP123NoSuchShard(t *testing.T) {
	for name, c := range someCoordinators() {
		for _, shard := range wrongShards() {
			for many := -1; many <= len(c.Order)+1; many++ {
				checkCoordinatorRefs(t, name, c, shard, many, nil)
			}
		}
	}
}

func TestP123WrongNumbers(t *testing.T) {
	for name, c := range someCoordinators() {
		all := len(c.Order)
		for shard := range 3 {
			for _, many := range []int{-1, -2, -all - 1, all + 1, all + 2, 2*all + 1, 13, 1 << 32, math.MinInt, math.MinInt + all, math.MaxInt} {
				checkCoordinatorRefs(t, fmt.Sprintf("%s after %d", name, many), c, shard, many, nil)
			}
			// The others that are not committed do not count.
			for many := all + 1; many <= len(c.Txns); many++ {
				checkCoordinatorRefs(t, name+", more than are committed", c, shard, many, nil)
			}
			for many := range all + 1 {
				checkCoordinatorRefs(t, name, c, shard, many, refsAfter(c, shard, many))
			}
		}
	}
}

func TestP123InvalidCoordinators(t *testing.T) {
	for name, c := range brokenCoordinators() {
		for shard := -1; shard <= 3; shard++ {
			for _, many := range []int{-1, 0, 1, 2, 3, 12} {
				checkCoordinatorRefs(t, name, c, shard, many, nil)
			}
		}
	}
}

func TestP124NoTransaction(t *testing.T) {
	for name, c := range someCoordinators() {
		for shard := range 3 {
			checkCoordinatorRefs(t, name, c, shard, 0, []int{-1, -1, -1, -1})
		}
	}
	eachCoordinator(t, 124, 1000, func(n *numbers, c impl.Coordinator) {
		checkCoordinatorRefs(t, "no transaction", c, n.below(3), 0, []int{-1, -1, -1, -1})
	})
}

func TestMemoryOfCoordinatorRefs(t *testing.T) {
	for name, some := range memoryCoordinators() {
		for shard := -1; shard <= 3; shard++ {
			for _, many := range []int{-1, 0, 1, 3, 12} {
				c := roomyCoordinator(some)
				before := wholeCoordinator(c)
				one, two := impl.CoordinatorRefs(c, shard, many), impl.CoordinatorRefs(c, shard, many)
				checkApart(t, name, []any{c}, []any{one, two})
				impl.CoordinatorValid(c)
				if after := wholeCoordinator(c); after != before {
					t.Fatalf("CoordinatorRefs or CoordinatorValid modified %s to %s", before, after)
				}
			}
		}
	}
}
