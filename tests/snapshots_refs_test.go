package tests

import (
	"fmt"
	"slices"
	"testing"

	"loop.example/atomicpush/impl"
)

// none is the refs of a shard without ids.
func none() []int {
	return []int{-1, -1, -1, -1}
}

func TestP138Refs(t *testing.T) {
	s := site{touching(), touchingShards()}
	for many, want := range [][][]int{
		{none(), none(), none()},
		{{-1, 21, 1, -1}, {5, -1, -1, 6}, none()},
		{{-1, 31, 1, -1}, {5, -1, -1, 6}, none()},
		{{13, 14, 1, -1}, {5, -1, -1, 6}, {-1, -1, -1, 15}},
	} {
		checkSnapshot(t, "the ids that shards have recorded", s, many, want)
	}
}

// A shard has committed the same updates in another order: the snapshot has what the order of the coordinator gives.
func TestP138OtherOrder(t *testing.T) {
	list := touchingShards()
	list[0] = shard(
		prepareOf(0, update(0, -1, 13), update(1, -1, 14)), commitOf(0),
		prepareOf(4, update(1, 14, 31)), commitOf(4),
		prepareOf(1, update(1, 31, 21), update(2, -1, 1)), commitOf(1))
	one, two := []int{5, -1, -1, 6}, []int{-1, -1, -1, 15}
	for many, want := range [][][]int{
		{none(), none(), none()},
		{{-1, 21, 1, -1}, one, none()},
		{{-1, 31, 1, -1}, one, none()},
		{{13, 14, 1, -1}, one, two},
	} {
		checkSnapshot(t, "another order", site{touching(), list}, many, want)
	}
	list[0] = shard(
		prepareOf(0, update(0, -1, 13)), prepareOf(1, update(2, -1, 1)), prepareOf(4, update(1, -1, 31)),
		commitOf(0), commitOf(4), commitOf(1))
	for many, want := range [][][]int{
		{none(), none(), none()},
		{{-1, -1, 1, -1}, one, none()},
		{{-1, 31, 1, -1}, one, none()},
		{{13, 31, 1, -1}, one, two},
	} {
		checkSnapshot(t, "votes ahead of all commits", site{touching(), list}, many, want)
	}
}

func TestP138EachOrder(t *testing.T) {
	c := ordered([]int{2, 0, 3, 1}, allCommitted(4, 0, 1, 2).Txns...)
	for _, order := range allOrders([]int{0, 1, 2, 3}) {
		s := site{c, inOrders(c, order, c.Order, reversed(order))}
		for many := range 5 {
			checkSnapshot(t, fmt.Sprintf("the order %v", order), s, many, [][]int{refsAfter(c, 0, many), refsAfter(c, 1, many), refsAfter(c, 2, many)})
		}
	}
}

// A transaction changes the refs only at the shards for which it has a part, whatever others have recorded of it.
func TestP138OwnShardsOnly(t *testing.T) {
	for _, shards := range allShardSets() {
		s := site{fifthOnly(shards...), smallShards(2, 2, 2)}
		want := [][]int{none(), none(), none()}
		for _, k := range shards {
			want[k][k] = 100 + k
		}
		checkSnapshot(t, fmt.Sprintf("all have committed it, and %v have parts", shards), s, 0, [][]int{none(), none(), none()})
		checkSnapshot(t, fmt.Sprintf("all have committed it, and %v have parts", shards), s, 1, want)
		for _, state := range []int{0, 1, 3} {
			states := []int{state, state, state}
			for _, k := range shards {
				states[k] = 2
			}
			checkSnapshot(t, fmt.Sprintf("the states are %v, and %v have parts", states, shards), site{s.c, smallShards(states...)}, 1, want)
		}
	}
}

// What shards have committed, but the coordinator has not, or does not know, is in no snapshot; nor is what they have only voted for.
func TestP138OtherTransactions(t *testing.T) {
	c := ordered([]int{2, 0},
		txnOf(2, []int{1}, partsAt(0, 1)...),
		txnOf(0, []int{0, 1}, partsAt(1, 0, 1)...),
		txnOf(2, []int{1, 1}, partsAt(2, 0, 1)...),
		txnOf(3, []int{-1, 1}, partsAt(3, 1, 2)...))
	s := site{c, []impl.Shard{
		shard(prepareOf(1, update(0, -1, 50)), commitOf(1), prepareOf(2, update(0, 50, 51), update(1, -1, 52)), commitOf(2), prepareOf(11, update(3, -1, 53))),
		shard(prepareOf(3, update(2, -1, 60)), commitOf(3), prepareOf(2, update(2, 60, -1)), commitOf(2), prepareOf(0, update(3, -1, 61)), commitOf(0), abortOf(1)),
		shard(prepareOf(3, update(1, -1, 70)), commitOf(3), prepareOf(9, update(2, -1, 71)), commitOf(9)),
	}}
	checkSnapshot(t, "other transactions", s, 0, [][]int{none(), none(), none()})
	checkSnapshot(t, "other transactions", s, 1, [][]int{{51, 52, -1, -1}, none(), none()})
	checkSnapshot(t, "other transactions", s, 2, [][]int{{51, 52, -1, -1}, {-1, -1, -1, 61}, none()})
	checkNoSnapshot(t, "other transactions", s, 3)
}

// Each ref is set to each kind of id.
func TestP138EachUpdate(t *testing.T) {
	for _, list := range allUpdates(-1, 0, 990) {
		first := []impl.Update{}
		for _, u := range list {
			if u.Old != -1 {
				first = append(first, update(u.Ref, -1, u.Old))
			}
		}
		want := none()
		s := site{coordinator(txnOf(2, []int{1}, partsAt(0, 1)...)), make([]impl.Shard, 3)}
		if len(first) > 0 {
			s.list[1] = committing(shard(), 6, first...)
		}
		s.list[1] = with(with(s.list[1], prepareOf(0, list...)), commitOf(0))
		for _, u := range list {
			want[u.Ref] = u.New
		}
		checkSnapshot(t, "some updates", s, 1, [][]int{none(), want, none()})
	}
}

// SnapshotRefs succeeds up to SnapshotReady, and not after one more, even if the order has more transactions.
func TestP138Numbers(t *testing.T) {
	for name, s := range someSites() {
		ready := impl.SnapshotReady(s.c, s.list)
		for many := range ready + 1 {
			checkSnapshot(t, name, s, many, snapshotIn(s, many))
		}
		for many := ready + 1; many <= 14; many++ {
			checkNoSnapshot(t, name+", more than are ready", s, many)
		}
		for _, many := range slices.Concat(outside(ready), outside(len(s.c.Order))) {
			if many < 0 || many > ready {
				checkNoSnapshot(t, fmt.Sprintf("%s after %d", name, many), s, many)
			}
		}
	}
}

// Each transaction in turn is not ready: then it is in no snapshot, and none behind it.
func TestP138NotReady(t *testing.T) {
	all := following(allCommitted(12, 0, 1, 2))
	for txn := range 12 {
		for _, shards := range allShardSets() {
			s := forgetting(all, txn, shards...)
			for many := range 14 {
				if many <= txn {
					checkSnapshot(t, fmt.Sprintf("%d is not at %v", txn, shards), s, many, snapshotIn(all, many))
				} else {
					checkNoSnapshot(t, fmt.Sprintf("%d is not at %v", txn, shards), s, many)
				}
			}
		}
	}
}

func TestP138EachSite(t *testing.T) {
	eachSite(t, 138, 3000, func(n *numbers, s site) {
		ready := readyIn(s)
		for many := -1; many <= 13; many++ {
			if many >= 0 && many <= ready {
				checkSnapshot(t, "a site", s, many, snapshotIn(s, many))
			} else {
				checkNoSnapshot(t, "a site", s, many)
			}
		}
	})
}

// In a run, the shards have recorded the parts: the snapshots are what the coordinator tells.
func TestP138EachStep(t *testing.T) {
	eachStep(t, 238, 40, func(s site) {
		ready := impl.SnapshotReady(s.c, s.list)
		for many := range ready + 1 {
			checkSnapshot(t, "a run", s, many, [][]int{impl.CoordinatorRefs(s.c, 0, many), impl.CoordinatorRefs(s.c, 1, many), impl.CoordinatorRefs(s.c, 2, many)})
		}
		if ready == len(s.c.Order) {
			want := [][]int{}
			for _, k := range s.list {
				refs, _ := recovered(t, k)
				want = append(want, refs)
			}
			checkSnapshot(t, "a run of which all is ready", s, ready, want)
		}
	})
}

func TestP139NoTransaction(t *testing.T) {
	for name, s := range someSites() {
		checkSnapshot(t, name, s, 0, [][]int{none(), none(), none()})
	}
	for name, s := range someShards() {
		checkSnapshot(t, name, site{touching(), []impl.Shard{s, s, s}}, 0, [][]int{none(), none(), none()})
		checkSnapshot(t, name, site{impl.Coordinator{}, []impl.Shard{{}, s, s}}, 0, [][]int{none(), none(), none()})
	}
	eachSite(t, 139, 1000, func(n *numbers, s site) {
		checkSnapshot(t, "a site", s, 0, [][]int{none(), none(), none()})
	})
}

func TestP143SmallerNumbers(t *testing.T) {
	eachSite(t, 143, 1000, func(n *numbers, s site) {
		before := true
		for many := range 14 {
			got, ok := impl.SnapshotRefs(s.c, s.list, many)
			if ok && !before || ok && len(got) != 3 || !ok && len(got) != 0 {
				t.Fatalf("SnapshotRefs(%s, %s, %d) = %v, %t", shown(s.c), shown(s.list), many, got, ok)
			}
			for _, refs := range got {
				if !impl.RefsValid(refs) {
					t.Fatalf("SnapshotRefs(%s, %s, %d) = %v", shown(s.c), shown(s.list), many, got)
				}
			}
			before = ok
		}
	})
}

func TestP138InvalidCoordinators(t *testing.T) {
	for name, c := range brokenCoordinators() {
		for _, many := range []int{-1, 0, 1, 2, 12} {
			checkNoSnapshot(t, name, site{c, make([]impl.Shard, 3)}, many)
			checkNoSnapshot(t, name+", shards with records", site{c, touchingShards()}, many)
		}
		checkNoSnapshot(t, name+", no shards", site{c, nil}, 0)
		checkNoSnapshot(t, name+", an invalid shard", site{c, []impl.Shard{{}, shard(commitOf(5)), {}}}, 0)
	}
}

func TestP138InvalidShards(t *testing.T) {
	for known, c := range map[string]impl.Coordinator{"touching": touching(), "no transactions": {}, "no order": ordered(nil, touching().Txns...)} {
		for name, list := range wrongLists(t, touchingShards()) {
			for _, many := range []int{-2, -1, 0, 1, 3, 4} {
				checkNoSnapshot(t, known+", "+name, site{c, list}, many)
			}
		}
		for name, broken := range brokenShards() {
			for k := range 3 {
				checkNoSnapshot(t, known+", "+name, site{c, changed(touchingShards(), k, broken)}, 0)
			}
		}
	}
}

// memorySites returns sites that are valid, and some that are not.
func memorySites(t *testing.T) map[string]site {
	t.Helper()
	result := someSites()
	for name, c := range memoryCoordinators() {
		result[name+", with shards"] = site{c, touchingShards()}
	}
	for name, list := range wrongLists(t, touchingShards()) {
		if len(list) < 10 {
			result[name+", of touching"] = site{touching(), list}
		}
	}
	same := touchingShards()[0]
	result["the same shard three times"] = site{allCommitted(2, 0, 1, 2), []impl.Shard{same, same, same}}
	return result
}

func TestMemoryOfSnapshotRefs(t *testing.T) {
	for name, some := range memorySites(t) {
		for _, many := range []int{-1, 0, 1, 2, 3, 12, 13} {
			s := site{roomyCoordinator(some.c), roomyShards(some.list)}
			before := wholeCoordinator(s.c) + wholeShards(s.list)
			one, _ := impl.SnapshotRefs(s.c, s.list, many)
			two, _ := impl.SnapshotRefs(s.c, s.list, many)
			checkApart(t, name, []any{s.c, s.list}, []any{one, two})
			for _, refs := range one {
				for ref := range refs[:cap(refs)] {
					refs[:cap(refs)][ref] = -77
				}
			}
			three, _ := impl.SnapshotRefs(s.c, s.list, many)
			if !slices.EqualFunc(two, three, slices.Equal[[]int]) {
				t.Fatalf("%s: SnapshotRefs gives %v, and then %v", name, two, three)
			}
			if after := wholeCoordinator(s.c) + wholeShards(s.list); after != before {
				t.Fatalf("%s: SnapshotRefs modified %s to %s", name, before, after)
			}
		}
	}
}

// One and the same shard three times: each has refs of its own in the snapshot.
func TestMemoryOfSnapshotRefsTwice(t *testing.T) {
	s := roomyShard(committing(committing(shard(), 0, updatesOf(0, 1)...), 1, updatesOf(2)...))
	list := roomyShards([]impl.Shard{s, s, s})
	for k := range list {
		list[k] = s
	}
	c := allCommitted(2, 0, 1, 2)
	before := wholeShards(list)
	for many := range 3 {
		got, ok := impl.SnapshotRefs(c, list, many)
		checkApart(t, "the same shard", []any{c, list[:1]}, []any{got})
		if !ok || wholeShards(list) != before {
			t.Fatalf("SnapshotRefs(%s, %s, %d) = %v, %t", shown(c), shown(list), many, got, ok)
		}
	}
}
