package tests

import (
	"fmt"
	"math"
	"slices"
	"testing"

	"loop.example/atomicpush/impl"
)

// site is the arguments of SnapshotReady.
type site struct {
	c    impl.Coordinator
	list []impl.Shard
}

// committedAt tells whether all shards of a transaction have committed it.
func committedAt(s site, txn int) bool {
	return !slices.ContainsFunc(s.c.Txns[txn].Parts, func(p impl.Part) bool { return stateIn(s.list[p.Shard], txn) != 2 })
}

// readyIn computes how many first transactions of the order are ready.
func readyIn(s site) int {
	many := 0
	for many < len(s.c.Order) && committedAt(s, s.c.Order[many]) {
		many++
	}
	return many
}

// snapshotIn computes the refs of all shards after the first transactions of the order, by what the shards have recorded.
func snapshotIn(s site, many int) [][]int {
	result := [][]int{}
	for k := range 3 {
		refs := []int{-1, -1, -1, -1}
		for _, txn := range s.c.Order[:many] {
			if placeOf(s.c.Txns[txn], k) != -1 {
				for _, u := range votedIn(s.list[k], txn) {
					refs[u.Ref] = u.New
				}
			}
		}
		result = append(result, refs)
	}
	return result
}

// differingShards computes the shards whose refs differ after two numbers of transactions.
func differingShards(c impl.Coordinator, a int, b int) []int {
	result := []int{}
	for k := range 3 {
		if len(differing(refsAfter(c, k, a), refsAfter(c, k, b))) > 0 {
			result = append(result, k)
		}
	}
	return result
}

// fitting returns updates of the same refs to the same ids, each of the id that the ref has. It leaves out those that would change nothing.
func fitting(refs []int, list []impl.Update) []impl.Update {
	result := []impl.Update{}
	for _, u := range list {
		if refs[u.Ref] != u.New {
			result = append(result, update(u.Ref, refs[u.Ref], u.New))
		}
	}
	return result
}

// committing returns a shard that has also voted for a transaction, with updates that set refs as the given ones do, and committed it.
func committing(s impl.Shard, txn int, list ...impl.Update) impl.Shard {
	return with(with(s, prepareOf(txn, fitting(refsIn(s), list)...)), commitOf(txn))
}

// inOrders returns shards that have committed those of the transactions that have parts for them, each shard in its own order.
func inOrders(c impl.Coordinator, orders ...[]int) []impl.Shard {
	result := []impl.Shard{}
	for k, order := range orders {
		s := impl.Shard{}
		for _, txn := range order {
			if place := placeOf(c.Txns[txn], k); place != -1 {
				s = committing(s, txn, c.Txns[txn].Parts[place].Updates...)
			}
		}
		result = append(result, s)
	}
	return result
}

// following returns the site of a coordinator and shards that have committed all transactions of its order, in this order.
func following(c impl.Coordinator) site {
	return site{c, inOrders(c, c.Order, c.Order, c.Order)}
}

// forgetting returns the site with shards that know nothing of a transaction. Later updates of its refs are made to fit.
func forgetting(s site, txn int, shards ...int) site {
	list := slices.Clone(s.list)
	for _, k := range shards {
		list[k] = impl.Shard{}
		for _, r := range s.list[k].Records {
			if r.Txn != txn {
				list[k] = with(list[k], impl.Record{Kind: r.Kind, Txn: r.Txn, Updates: fitting(refsIn(list[k]), r.Updates)})
			}
		}
	}
	return site{s.c, list}
}

// allCommitted returns a coordinator with transactions that all are committed in the order of their numbers, at the given shards.
func allCommitted(many int, shards ...int) impl.Coordinator {
	txns := []impl.Txn{}
	for txn := range many {
		txns = append(txns, txnOf(2, slices.Repeat([]int{1}, len(shards)), partsAt(txn, shards...)...))
	}
	return coordinator(txns...)
}

// eachShardSet returns a coordinator with a transaction for each list of shards that there can be. Others are not committed. The order is not that of the numbers.
func eachShardSet() impl.Coordinator {
	txns := []impl.Txn{txnOf(3, []int{0, 1}, partsAt(0, 0, 1)...)}
	for _, shards := range allShardSets() {
		txns = append(txns, txnOf(2, slices.Repeat([]int{1}, len(shards)), partsAt(len(txns), shards...)...))
	}
	txns = append(txns, txnOf(0, []int{0, 1, 1}, partsAt(8, 0, 1, 2)...))
	return ordered([]int{4, 1, 7, 2, 6, 3, 5}, txns...)
}

// touchingShards returns shards that have committed the transactions of touching in its order, but have recorded other ids.
func touchingShards() []impl.Shard {
	return []impl.Shard{
		shard(
			prepareOf(1, update(1, -1, 21), update(2, -1, 1)), commitOf(1),
			prepareOf(4, update(1, 21, 31)), commitOf(4),
			prepareOf(0, update(0, -1, 13), update(1, 31, 14)), commitOf(0)),
		shard(prepareOf(1, update(0, -1, 5), update(3, -1, 6)), commitOf(1)),
		shard(prepareOf(0, update(3, -1, 15)), commitOf(0)),
	}
}

// someSites returns sites of valid coordinators and shards.
func someSites() map[string]site {
	none := []impl.Shard{{}, {}, {}}
	result := map[string]site{
		"nothing":                           {impl.Coordinator{}, none},
		"nothing, and shards with records":  {impl.Coordinator{}, []impl.Shard{middle(), longShard(12), shard(abortOf(5))}},
		"none is committed, but shards do":  {coordinator(txnOf(0, []int{0}, partsAt(0, 0)...)), []impl.Shard{committing(shard(), 0, updatesOf(1)...), {}, {}}},
		"other ids than those of the parts": {touching(), touchingShards()},
		"another site's shards":             {mixed(), touchingShards()},
		"the longest shards":                {allCommitted(12, 0, 1, 2), []impl.Shard{longShard(12), longShard(12), longShard(12)}},
	}
	coordinators := someCoordinators()
	coordinators["all at all shards"] = allCommitted(12, 0, 1, 2)
	coordinators["each list of shards"] = eachShardSet()
	for name, c := range coordinators {
		s := following(c)
		result[name] = s
		result[name+", and no records"] = site{c, none}
		result[name+", in another order"] = site{c, inOrders(c, reversed(c.Order), c.Order, reversed(c.Order))}
		for place, txn := range c.Order {
			first, last := c.Txns[txn].Parts[0].Shard, c.Txns[txn].Parts[len(c.Txns[txn].Parts)-1].Shard
			result[fmt.Sprintf("%s, and %d is not at its first shard", name, place)] = forgetting(s, txn, first)
			result[fmt.Sprintf("%s, and %d is not at its last shard", name, place)] = forgetting(s, txn, last)
			result[fmt.Sprintf("%s, and %d is nowhere", name, place)] = forgetting(s, txn, 0, 1, 2)
		}
	}
	return result
}

func reversed(list []int) []int {
	result := slices.Clone(list)
	slices.Reverse(result)
	return result
}

// outside returns numbers of first transactions that an order of the given length does not have.
func outside(all int) []int {
	return []int{-1, -2, -all - 1, -12, all + 1, all + 2, 2*all + 1, 13, 1 << 32, math.MinInt, math.MinInt + 1, math.MinInt + all, math.MaxInt}
}

// wrongLists returns lists of shards that are invalid, in each place, alone or together, and those that have a wrong length.
func wrongLists(t *testing.T, list []impl.Shard) map[string][]impl.Shard {
	t.Helper()
	result := map[string][]impl.Shard{
		"no shards":         nil,
		"an empty slice":    {},
		"one shard":         list[:1:1],
		"two shards":        list[:2:2],
		"two of three":      list[:2],
		"the last two":      list[1:],
		"four shards":       append(slices.Clone(list), impl.Shard{}),
		"four, one again":   append(slices.Clone(list), list[0]),
		"twice all shards":  slices.Repeat(list, 2),
		"very many shards":  slices.Repeat(list, 1000),
		"four, none":        make([]impl.Shard, 4),
		"two, none":         make([]impl.Shard, 2),
		"many invalid ones": slices.Repeat([]impl.Shard{shard(commitOf(-1))}, 1000),
	}
	for name, broken := range someBrokenShards(t) {
		for set := 1; set < 8; set++ {
			some := slices.Clone(list)
			for k := range some {
				if set>>k&1 == 1 {
					some[k] = broken
				}
			}
			result[fmt.Sprintf("%s at the shards %b", name, set)] = some
		}
		result[name+", alone"] = []impl.Shard{broken}
		result[name+", the last one of two"] = []impl.Shard{list[0], broken}
		result[name+", too much"] = append(slices.Clone(list), broken)
		result[name+", and one too much"] = append(changed(list, 1, broken), impl.Shard{})
	}
	return result
}

// committer returns a valid coordinator with many transactions. Most of them are committed, in any order.
func (n *numbers) committer(many int) impl.Coordinator {
	txns := []impl.Txn{}
	for range many {
		t := n.txn()
		if n.below(5) > 0 {
			t = txnOf(2, slices.Repeat([]int{1}, len(t.Parts)), t.Parts...)
		}
		txns = append(txns, t)
	}
	return ordered(n.shuffled(committedOf(txns)), txns...)
}

// recorded returns a shard that has also voted for a transaction and committed it. In one of as many cases as care tells, it has done something else.
func (n *numbers) recorded(s impl.Shard, txn int, care int) impl.Shard {
	outcome := 0
	if n.below(care) == 0 {
		outcome = 1 + n.below(4)
	}
	if outcome == 1 {
		return s
	}
	if outcome == 2 {
		return with(s, abortOf(txn))
	}
	voted := n.votedFor(s, txn)
	if outcome == 3 || stateIn(voted, txn) == 0 {
		return voted
	}
	if outcome == 4 {
		return with(voted, abortOf(txn))
	}
	return with(voted, commitOf(txn))
}

// votedFor returns a shard that has also voted for a transaction. If too many refs are locked for that, it returns the shard.
func (n *numbers) votedFor(s impl.Shard, txn int) impl.Shard {
	for range 20 {
		vote := prepareOf(txn, fitting(refsIn(s), n.updates(refsIn(s)))...)
		if follows(s, vote) {
			return with(s, vote)
		}
	}
	return s
}

// site returns a valid coordinator with valid shards. Their records are of transactions of the order, mostly in this order, and of others.
func (n *numbers) site(many int) site {
	c := n.committer(many)
	list := []impl.Shard{}
	care := []int{4, 20, 1000}[n.below(3)]
	for range 3 {
		all := n.shuffled([]int{0, 1, 2, 3, 4, 5, 6, 7, 8, 9, 10, 11})
		order := c.Order
		switch n.below(4) {
		case 0:
			order = all
		case 1:
			others := slices.DeleteFunc(all, func(txn int) bool { return slices.Contains(c.Order, txn) })
			order = slices.Concat(others[:len(others)/2], c.Order, others[len(others)/2:])
		}
		s := impl.Shard{}
		for _, txn := range order {
			s = n.recorded(s, txn, care)
		}
		list = append(list, s)
	}
	return site{c, list}
}

// eachSite calls check with many valid coordinators and shards. It requires that each kind is met often enough.
func eachSite(t *testing.T, seed int, many int, check func(n *numbers, s site)) {
	t.Helper()
	n, counts := numbers(seed), map[string]int{}
	for i := range many {
		s := n.site(i % 13)
		ready, all := readyIn(s), len(s.c.Order)
		switch {
		case all == 0:
			counts["none is committed"]++
		case ready == all:
			counts["all are ready"]++
		case ready == 0:
			counts["none is ready"]++
		default:
			counts["some are ready"]++
		}
		if ready < all && slices.ContainsFunc(s.c.Order[ready+1:], func(txn int) bool { return committedAt(s, txn) }) {
			counts["a later one is ready"]++
		}
		for k, list := range s.list {
			if ready > 0 && ready == all && !slices.Equal(refsIn(list), snapshotIn(s, ready)[k]) {
				counts["a shard has other refs"]++
			}
		}
		check(&n, s)
	}
	for _, kind := range []string{"none is committed", "all are ready", "none is ready", "some are ready", "a later one is ready", "a shard has other refs"} {
		if counts[kind] < many/20 {
			t.Errorf("of %d sites, %q holds for only %d", many, kind, counts[kind])
		}
	}
}

// eachStep calls check with the site of a run after each of its steps, all of which the functions of the earlier chapters perform.
// The shards hear of the decisions late, each for itself and not in their order.
func eachStep(t *testing.T, seed int, runs int, check func(s site)) {
	t.Helper()
	n, most := numbers(seed), 0
	for range runs {
		s := site{impl.Coordinator{}, []impl.Shard{{}, {}, {}}}
		check(s)
		for range 60 {
			s = n.stepped(t, s)
			check(s)
		}
		most = max(most, readyIn(s))
	}
	if most < 4 {
		t.Errorf("at most %d transactions become ready", most)
	}
}

// stepped returns the site after a step: a transaction begins and all of its shards vote, or one shard hears of one decision.
func (n *numbers) stepped(t *testing.T, s site) site {
	t.Helper()
	c, list := s.c, slices.Clone(s.list)
	if len(c.Txns) == 0 || n.below(3) == 0 {
		parts := n.parts()
		for i, p := range parts {
			refs, _ := recovered(t, list[p.Shard])
			if some := fitting(refs, p.Updates); len(some) > 0 {
				parts[i].Updates = some
			}
		}
		c, done := impl.CoordinatorBegin(c, parts)
		for _, p := range parts {
			if done {
				after, vote := impl.ShardPrepare(list[p.Shard], len(c.Txns)-1, p.Updates)
				list[p.Shard] = after
				c, _ = impl.CoordinatorVote(c, len(c.Txns)-1, p.Shard, vote)
			}
		}
		return site{c, list}
	}
	txn := n.below(len(c.Txns))
	for _, p := range c.Txns[txn].Parts {
		if n.below(2) == 0 && c.Txns[txn].Decision != 0 {
			list[p.Shard], _ = impl.ShardDecide(list[p.Shard], txn, c.Txns[txn].Decision == 2)
		}
	}
	return site{c, list}
}

// checkReady fails if SnapshotReady does not give the number.
func checkReady(t *testing.T, name string, s site, want int) {
	t.Helper()
	if got := impl.SnapshotReady(s.c, s.list); got != want {
		t.Fatalf("%s: SnapshotReady(%s, %s) = %d, not %d", name, shown(s.c), shown(s.list), got, want)
	}
}

// checkSnapshot fails if SnapshotRefs does not give the refs of all shards.
func checkSnapshot(t *testing.T, name string, s site, many int, want [][]int) {
	t.Helper()
	if got, ok := impl.SnapshotRefs(s.c, s.list, many); !ok || !slices.EqualFunc(got, want, slices.Equal[[]int]) {
		t.Fatalf("%s: SnapshotRefs(%s, %s, %d) = %v, %t, not %v, true", name, shown(s.c), shown(s.list), many, got, ok, want)
	}
}

// snapshot returns the refs of all shards that SnapshotRefs gives, and fails if it gives none.
func snapshot(t *testing.T, s site, many int) [][]int {
	t.Helper()
	refs, ok := impl.SnapshotRefs(s.c, s.list, many)
	if !ok || len(refs) != 3 {
		t.Fatalf("SnapshotRefs(%s, %s, %d) = %v, %t", shown(s.c), shown(s.list), many, refs, ok)
	}
	return refs
}

// checkNoSnapshot fails if SnapshotRefs gives anything.
func checkNoSnapshot(t *testing.T, name string, s site, many int) {
	t.Helper()
	if got, ok := impl.SnapshotRefs(s.c, s.list, many); ok || len(got) != 0 {
		t.Fatalf("%s: SnapshotRefs(%s, %s, %d) = %v, %t, not [], false", name, shown(s.c), shown(s.list), many, got, ok)
	}
}

// checkFirst fails if SnapshotFirst does not give the place.
func checkFirst(t *testing.T, name string, c impl.Coordinator, txn int, want int) {
	t.Helper()
	if got := impl.SnapshotFirst(c, txn); got != want {
		t.Fatalf("%s: SnapshotFirst(%s, %d) = %d, not %d", name, shown(c), txn, got, want)
	}
}

// checkSnapshotDiffer fails if SnapshotDiffer does not give the shards, for the numbers in both orders.
func checkSnapshotDiffer(t *testing.T, name string, c impl.Coordinator, a int, b int, want []int) {
	t.Helper()
	if got := impl.SnapshotDiffer(c, a, b); !slices.Equal(got, want) {
		t.Fatalf("%s: SnapshotDiffer(%s, %d, %d) = %v, not %v", name, shown(c), a, b, got, want)
	}
	if got := impl.SnapshotDiffer(c, b, a); !slices.Equal(got, want) {
		t.Fatalf("%s: SnapshotDiffer(%s, %d, %d) = %v, not %v", name, shown(c), b, a, got, want)
	}
}
