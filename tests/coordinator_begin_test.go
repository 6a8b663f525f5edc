package tests

import (
	"slices"
	"testing"

	"loop.example/atomicpush/impl"
)

// allShardSets returns all ascending lists of at least one shard.
func allShardSets() [][]int {
	return [][]int{{0}, {1}, {2}, {0, 1}, {0, 2}, {1, 2}, {0, 1, 2}}
}

func TestP112Begin(t *testing.T) {
	for name, c := range someCoordinators() {
		if len(c.Txns) == 12 {
			continue
		}
		for _, shards := range allShardSets() {
			parts := partsAt(9, shards...)
			votes := map[int][]int{1: {0}, 2: {0, 0}, 3: {0, 0, 0}}[len(shards)]
			want := ordered(c.Order, append(slices.Clone(c.Txns), txnOf(0, votes, parts...))...)
			checkBegin(t, name, c, parts, want, true)
			checkWaits(t, name, want, len(c.Txns), shards)
			checkCoordinatorValid(t, name, want, true)
		}
	}
}

func TestP112AnyUpdates(t *testing.T) {
	lists := append(allUpdates(-1, 0, 990), updatesOf(0, 1, 2, 3), []impl.Update{update(3, 500, -1)})
	for _, list := range lists {
		parts := []impl.Part{partFor(1, list...)}
		checkBegin(t, "any updates", mixed(), parts, ordered(mixed().Order, append(mixed().Txns, txnOf(0, []int{0}, parts...))...), true)
		parts = []impl.Part{partFor(0, updatesOf(1)...), partFor(1, updatesOf(1)...), partFor(2, list...)}
		checkBegin(t, "any updates as the last ones", impl.Coordinator{}, parts, coordinator(txnOf(0, []int{0, 0, 0}, parts...)), true)
	}
}

func TestP112OthersUnchanged(t *testing.T) {
	eachCoordinator(t, 112, 3000, func(n *numbers, c impl.Coordinator) {
		parts := n.parts()
		shards := []int{}
		for _, p := range parts {
			shards = append(shards, p.Shard)
		}
		after, done := impl.CoordinatorBegin(c, parts)
		if !done {
			return
		}
		last := len(after.Txns) - 1
		if last != len(c.Txns) || !sameTxns(after.Txns[:last], c.Txns) || !slices.Equal(after.Order, c.Order) {
			t.Fatalf("CoordinatorBegin(%s, %s) = %s", shown(c), shown(parts), shown(after))
		}
		if !slices.EqualFunc(after.Txns[last].Parts, parts, samePart) || after.Txns[last].Decision != 0 || slices.ContainsFunc(after.Txns[last].Votes, func(vote int) bool { return vote != 0 }) {
			t.Fatalf("CoordinatorBegin(%s, %s) = %s", shown(c), shown(parts), shown(after))
		}
		checkWaits(t, "the last transaction", after, last, shards)
		checkCoordinatorValid(t, "after a transaction began", after, true)
	})
}

func TestP113OnlyMaxTxn(t *testing.T) {
	eachCoordinator(t, 113, 3000, func(n *numbers, c impl.Coordinator) {
		parts := n.parts()
		want, ok := begun(c, parts)
		if ok != (len(c.Txns) < 12) {
			t.Fatalf("the test expects %t of %d transactions", ok, len(c.Txns))
		}
		checkBegin(t, "valid arguments", c, parts, want, ok)
	})
}

func TestP113EachNumberOfTransactions(t *testing.T) {
	parts := partsAt(1, 0, 2)
	for _, kinds := range []func(int) []impl.Txn{manyTxns, committedTxns} {
		for many := range 12 {
			want := ordered(committedOf(kinds(many)), append(kinds(many), txnOf(0, []int{0, 0}, parts...))...)
			checkBegin(t, "not yet MaxTxn transactions", coordinator(kinds(many)...), parts, want, true)
		}
		full := coordinator(kinds(12)...)
		for _, shards := range allShardSets() {
			checkBegin(t, "MaxTxn transactions", full, partsAt(9, shards...), full, false)
		}
	}
}

// From no transactions on, MaxTxn of them begin, and no further one.
func TestP113OneAfterTheOther(t *testing.T) {
	c, want := impl.Coordinator{}, impl.Coordinator{}
	for txn := range 20 {
		parts := partsAt(txn, allShardSets()[txn%7]...)
		next, ok := begun(want, parts)
		checkBegin(t, "one after the other", c, parts, next, ok)
		c, _ = impl.CoordinatorBegin(c, parts)
		want = next
	}
	if len(c.Txns) != 12 || !impl.CoordinatorValid(c) {
		t.Fatalf("after 20 transactions, there is %s", shown(c))
	}
}

func TestP113InvalidParts(t *testing.T) {
	for name, parts := range brokenParts() {
		if partsRight(parts) {
			t.Fatalf("%s: the test expects %s to be wrong", name, shown(parts))
		}
		checkBegin(t, name, impl.Coordinator{}, parts, impl.Coordinator{}, false)
		checkBegin(t, name, mixed(), parts, impl.Coordinator{}, false)
		checkBegin(t, name+", one less than MaxTxn", coordinator(manyTxns(11)...), parts, impl.Coordinator{}, false)
		// The answer is that of invalid parts also if no transaction could begin.
		checkBegin(t, name+", MaxTxn transactions", coordinator(manyTxns(12)...), parts, impl.Coordinator{}, false)
	}
}

func TestP113InvalidCoordinators(t *testing.T) {
	for name, c := range brokenCoordinators() {
		for _, shards := range allShardSets() {
			checkBegin(t, name, c, partsAt(9, shards...), impl.Coordinator{}, false)
		}
		for _, parts := range [][]impl.Part{nil, {}, {{}}, partsAt(1, 3), partsAt(1, -1, 0), partsAt(1, 2, 1), partsAt(1, 0, 0), {partFor(1)}} {
			checkBegin(t, name+", and invalid parts", c, parts, impl.Coordinator{}, false)
		}
	}
}

func TestP127BeginTwice(t *testing.T) {
	eachCoordinator(t, 127, 2000, func(n *numbers, c impl.Coordinator) {
		if len(c.Txns) > 10 {
			return
		}
		first, second := n.parts(), n.parts()
		one, _ := impl.CoordinatorBegin(c, first)
		two, done := impl.CoordinatorBegin(one, second)
		many := len(c.Txns)
		if !done || len(two.Txns) != many+2 || !sameTxns(two.Txns[:many], c.Txns) || !slices.Equal(two.Order, c.Order) {
			t.Fatalf("CoordinatorBegin twice of %s gives %s", shown(c), shown(two))
		}
		if !sameTxn(two.Txns[many], txnOf(0, make([]int, len(first)), first...)) || !sameTxn(two.Txns[many+1], txnOf(0, make([]int, len(second)), second...)) {
			t.Fatalf("CoordinatorBegin twice of %s gives %s", shown(c), shown(two))
		}
	})
}

func TestP127SameParts(t *testing.T) {
	for _, shards := range allShardSets() {
		parts := partsAt(1, shards...)
		c, _ := impl.CoordinatorBegin(mixed(), parts)
		c, _ = impl.CoordinatorBegin(c, parts)
		want := txnOf(0, make([]int, len(shards)), parts...)
		if !sameCoordinator(c, ordered(mixed().Order, append(mixed().Txns, want, want)...)) {
			t.Fatalf("the same parts twice lead to %s", shown(c))
		}
		checkWaits(t, "the first one", c, 9, shards)
		checkWaits(t, "the second one", c, 10, shards)
	}
}

func TestMemoryOfCoordinatorBegin(t *testing.T) {
	lists := [][]impl.Part{nil, {{}}, partsAt(1, 0), partsAt(1, 0, 1, 2), partsAt(1, 2, 1), partsAt(1, 3), {partFor(1)}}
	for name, some := range memoryCoordinators() {
		for _, someParts := range lists {
			c, parts := roomyCoordinator(some), roomyParts(someParts)
			before := wholeCoordinator(c) + wholeParts(parts)
			one, _ := impl.CoordinatorBegin(c, parts)
			two, _ := impl.CoordinatorBegin(c, parts)
			checkApart(t, name, []any{c, parts}, []any{one, two})
			if after := wholeCoordinator(c) + wholeParts(parts); after != before {
				t.Fatalf("CoordinatorBegin modified %s to %s", before, after)
			}
		}
	}
}

// Two transactions of the same part, and of updates that share memory with each other, share none later.
func TestMemoryOfCoordinatorBeginShared(t *testing.T) {
	list := updatesOf(0, 1)
	parts := []impl.Part{partFor(0, list...), partFor(1, list[:1]...)}
	c, _ := impl.CoordinatorBegin(impl.Coordinator{}, parts)
	c, _ = impl.CoordinatorBegin(c, parts)
	checkApart(t, "updates that are shared", []any{parts}, []any{c})
	list[0].New = 7
	if want := txnOf(0, []int{0, 0}, partFor(0, updatesOf(0, 1)...), partFor(1, updatesOf(0)...)); !sameCoordinator(c, coordinator(want, want)) {
		t.Errorf("a change of the argument changes the coordinator to %s", shown(c))
	}
}
