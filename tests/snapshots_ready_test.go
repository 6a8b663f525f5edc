package tests

import (
	"fmt"
	"slices"
	"testing"

	"loop.example/atomicpush/impl"
)

// The test's own sites are to be valid, and so are those that it makes by chance.
func TestP137SomeSites(t *testing.T) {
	for name, s := range someSites() {
		if !coordinatorRight(s.c) || len(s.list) != 3 || slices.ContainsFunc(s.list, func(k impl.Shard) bool { return !shardRight(k) }) {
			t.Fatalf("%s: the test expects %s, %s to be right", name, shown(s.c), shown(s.list))
		}
		checkReady(t, name, s, readyIn(s))
	}
	eachSite(t, 37, 300, func(n *numbers, s site) {
		if !coordinatorRight(s.c) || len(s.list) != 3 || slices.ContainsFunc(s.list, func(k impl.Shard) bool { return !shardRight(k) }) {
			t.Fatalf("the test expects %s, %s to be right", shown(s.c), shown(s.list))
		}
	})
}

// fifthOnly returns a coordinator of which only transaction 5 is committed.
func fifthOnly(shards ...int) impl.Coordinator {
	txns := manyTxns(7)
	for txn := range txns {
		txns[txn] = txnOf(3, []int{0, 1}, partsAt(txn, 0, 1)...)
	}
	txns[5] = txnOf(2, slices.Repeat([]int{1}, len(shards)), partsAt(5, shards...)...)
	return coordinator(txns...)
}

// One transaction in the order, of each list of shards, in each state at each shard. What a shard without a part has does not count.
func TestP137OneTransaction(t *testing.T) {
	for _, shards := range allShardSets() {
		for _, states := range termLists(3, 0, 1, 2, 3) {
			want := 1
			for _, k := range shards {
				if states[k] != 2 {
					want = 0
				}
			}
			name := fmt.Sprintf("the states %v, and parts for %v", states, shards)
			checkReady(t, name, site{fifthOnly(shards...), shardsOf(states...)}, want)
			checkReady(t, name, site{fifthOnly(shards...), smallShards(states...)}, want)
		}
	}
}

// As many transactions as there can be. Each in turn is not ready, because of some shards; those behind it are.
func TestP137AllTransactions(t *testing.T) {
	for _, order := range [][]int{{0, 1, 2, 3, 4, 5, 6, 7, 8, 9, 10, 11}, {11, 10, 9, 8, 7, 6, 5, 4, 3, 2, 1, 0}, {5, 11, 0, 7, 2, 9, 4, 1, 10, 3, 8, 6}} {
		all := following(ordered(order, allCommitted(12, 0, 1, 2).Txns...))
		checkReady(t, "all at all shards", all, 12)
		for place, txn := range order {
			for _, shards := range allShardSets() {
				checkReady(t, fmt.Sprintf("%d is not at %v", txn, shards), forgetting(all, txn, shards...), place)
			}
			for _, known := range []impl.Record{prepareOf(txn, update(0, -1, 990)), abortOf(txn)} {
				for k := range 3 {
					s := forgetting(all, txn, k)
					s.list[k] = with(s.list[k], impl.Record{Kind: known.Kind, Txn: txn, Updates: fitting(refsIn(s.list[k]), known.Updates)})
					checkReady(t, fmt.Sprintf("%d has the state %d at %d", txn, known.Kind, k), s, place)
				}
			}
		}
	}
}

// Of two that are not ready, the one ahead counts.
func TestP137TwoNotReady(t *testing.T) {
	all := following(allCommitted(12, 0, 1, 2))
	for one := range 12 {
		for two := range 12 {
			for k := range 3 {
				checkReady(t, fmt.Sprintf("%d and %d", one, two), forgetting(forgetting(all, one, 1), two, k), min(one, two))
			}
		}
	}
}

// Transactions of one shard, of two and of all.
func TestP137EachShardSet(t *testing.T) {
	all := following(eachShardSet())
	checkReady(t, "all", all, 7)
	for place, txn := range all.c.Order {
		shards := []int{}
		for _, p := range all.c.Txns[txn].Parts {
			shards = append(shards, p.Shard)
		}
		for k := range 3 {
			want := 7
			if slices.Contains(shards, k) {
				want = place
			}
			checkReady(t, fmt.Sprintf("%d is not at %d", txn, k), forgetting(all, txn, k), want)
		}
		last, alone := len(shards)-1, place
		if last == 0 {
			alone = 7
		}
		checkReady(t, "at all but its first shard", forgetting(all, txn, shards[0]), place)
		checkReady(t, "at all but its last shard", forgetting(all, txn, shards[last]), place)
		checkReady(t, "only at its first shard", forgetting(all, txn, shards[1:]...), alone)
		checkReady(t, "only at its last shard", forgetting(all, txn, shards[:last]...), alone)
		checkReady(t, "at none", forgetting(all, txn, shards...), place)
	}
}

// Each shard may have recorded the transactions in an order of its own.
func TestP137OtherOrder(t *testing.T) {
	c := ordered([]int{2, 0, 3, 1}, allCommitted(4, 0, 1, 2).Txns...)
	for _, order := range allOrders([]int{0, 1, 2, 3}) {
		checkReady(t, "one shard has another order", site{c, inOrders(c, c.Order, order, c.Order)}, 4)
		checkReady(t, "all shards have other orders", site{c, inOrders(c, order, reversed(order), append(order[2:4:4], order[:2]...))}, 4)
		for many := range 5 {
			want := 0
			for want < 4 && slices.Contains(order[:many], c.Order[want]) {
				want++
			}
			checkReady(t, "the first ones of another order", site{c, inOrders(c, order[:many], c.Order, order)}, want)
			checkReady(t, "the first ones of another order at the last shard", site{c, inOrders(c, c.Order, order, order[:many])}, want)
		}
	}
}

// What shards know of transactions that are not in the order does not count.
func TestP137OtherTransactions(t *testing.T) {
	c := ordered([]int{2, 0},
		txnOf(2, []int{1}, partsAt(0, 1)...),
		txnOf(0, []int{0, 1}, partsAt(1, 0, 1)...),
		txnOf(2, []int{1, 1}, partsAt(2, 0, 1)...),
		txnOf(3, []int{-1, 1}, partsAt(3, 1, 2)...))
	list := inOrders(c, []int{1, 2}, []int{3, 1, 2, 0}, []int{3})
	list[0] = with(with(list[0], prepareOf(11, update(3, refsIn(list[0])[3], 4))), abortOf(4))
	list[2] = committing(list[2], 7, updatesOf(0, 1)...)
	checkReady(t, "committed by shards only", site{c, list}, 2)
	checkReady(t, "only others", site{c, inOrders(c, []int{1}, []int{3, 1}, []int{3})}, 0)
	checkReady(t, "none is committed by the coordinator", site{coordinator(c.Txns[1], c.Txns[3]), inOrders(c, []int{1, 2}, []int{3, 1, 2, 0}, []int{3})}, 0)
}

func TestP137NoTransaction(t *testing.T) {
	for name, s := range someShards() {
		for known, c := range someCoordinators() {
			if len(c.Order) == 0 {
				checkReady(t, known+", "+name, site{c, []impl.Shard{s, s, s}}, 0)
				checkReady(t, known+", "+name, site{c, []impl.Shard{{}, s, {}}}, 0)
			}
		}
	}
}

func TestP137EachSite(t *testing.T) {
	eachSite(t, 137, 3000, func(n *numbers, s site) {
		checkReady(t, "a site", s, readyIn(s))
		ready := impl.SnapshotReady(s.c, s.list)
		if ready < 0 || ready > len(s.c.Order) {
			t.Fatalf("SnapshotReady(%s, %s) = %d", shown(s.c), shown(s.list), ready)
		}
		for place, txn := range s.c.Order[:min(ready+1, len(s.c.Order))] {
			lacking := slices.ContainsFunc(s.c.Txns[txn].Parts, func(p impl.Part) bool {
				return impl.ShardAsk(s.list[p.Shard], txn) != impl.StateCommitted
			})
			if lacking != (place == ready) {
				t.Fatalf("SnapshotReady(%s, %s) = %d", shown(s.c), shown(s.list), ready)
			}
		}
	})
}

// What is ready stays ready, and the last shard that hears of a commit makes it so.
func TestP137EachStep(t *testing.T) {
	last := 0
	eachStep(t, 237, 40, func(s site) {
		if len(s.c.Txns) == 0 {
			last = 0
		}
		checkReady(t, "a run", s, readyIn(s))
		ready := impl.SnapshotReady(s.c, s.list)
		if ready < last {
			t.Fatalf("SnapshotReady(%s, %s) = %d after %d", shown(s.c), shown(s.list), ready, last)
		}
		last = ready
	})
}

func TestP142NoRecords(t *testing.T) {
	for name, s := range someSites() {
		for _, list := range [][]impl.Shard{{{}, {}, {}}, make([]impl.Shard, 3), {{Records: []impl.Record{}}, {}, {Records: []impl.Record{}}}} {
			checkReady(t, name, site{s.c, list}, 0)
		}
		if ready := impl.SnapshotReady(s.c, s.list); ready > len(s.c.Order) {
			t.Fatalf("%s: SnapshotReady(%s, %s) = %d", name, shown(s.c), shown(s.list), ready)
		}
	}
	eachCoordinator(t, 142, 1000, func(n *numbers, c impl.Coordinator) {
		checkReady(t, "no records", site{c, make([]impl.Shard, 3)}, 0)
	})
}

func TestP142AtMost(t *testing.T) {
	eachSite(t, 242, 1000, func(n *numbers, s site) {
		if ready := impl.SnapshotReady(s.c, s.list); ready < 0 || ready > len(s.c.Order) {
			t.Fatalf("SnapshotReady(%s, %s) = %d", shown(s.c), shown(s.list), ready)
		}
	})
}

func TestP137InvalidCoordinators(t *testing.T) {
	for name, c := range brokenCoordinators() {
		checkReady(t, name, site{c, make([]impl.Shard, 3)}, -1)
		checkReady(t, name+", shards with records", site{c, touchingShards()}, -1)
		checkReady(t, name+", no shards", site{c, nil}, -1)
		checkReady(t, name+", an invalid shard", site{c, []impl.Shard{{}, shard(commitOf(5)), {}}}, -1)
	}
}

func TestP137InvalidShards(t *testing.T) {
	for known, c := range map[string]impl.Coordinator{"touching": touching(), "no transactions": {}, "none is committed": coordinator(txnOf(0, []int{0}, partsAt(0, 0)...)), "no order": ordered(nil, touching().Txns...)} {
		for name, list := range wrongLists(t, touchingShards()) {
			checkReady(t, known+", "+name, site{c, list}, -1)
		}
		for name, broken := range brokenShards() {
			for k := range 3 {
				checkReady(t, known+", "+name, site{c, changed(touchingShards(), k, broken)}, -1)
			}
		}
	}
}

// A shard that is not valid counts also where no transaction has a part for it, and behind one that is not ready.
func TestP137InvalidShardWithoutPart(t *testing.T) {
	for _, shards := range allShardSets() {
		s := site{fifthOnly(shards...), shardsOf(0, 0, 0)}
		for k := range 3 {
			for name, broken := range someBrokenShards(t) {
				checkReady(t, name, site{s.c, changed(s.list, k, broken)}, -1)
			}
		}
	}
}

func TestMemoryOfSnapshotReady(t *testing.T) {
	for name, some := range memorySites(t) {
		s := site{roomyCoordinator(some.c), roomyShards(some.list)}
		before := wholeCoordinator(s.c) + wholeShards(s.list)
		if one, two := impl.SnapshotReady(s.c, s.list), impl.SnapshotReady(s.c, s.list); one != two {
			t.Fatalf("%s: SnapshotReady gives %d, and then %d", name, one, two)
		}
		if after := wholeCoordinator(s.c) + wholeShards(s.list); after != before {
			t.Fatalf("%s: SnapshotReady modified %s to %s", name, before, after)
		}
	}
}
