package tests

import (
	"fmt"
	"slices"
	"testing"

	"loop.example/atomicpush/impl"
)

func TestP131TermShards(t *testing.T) {
	for _, test := range []struct {
		name   string
		states []int
		record impl.Record
	}{
		{"one of two is committed", []int{2, 1}, commitOf(5)},
		{"the last one is committed", []int{1, 1, 2}, commitOf(5)},
		{"one in the middle is committed", []int{1, 2, 1}, commitOf(5)},
		{"all but one are committed", []int{2, 1, 2}, commitOf(5)},
		{"all are committed", []int{2, 2, 2}, commitOf(5)},
		{"one alone that is committed", []int{2}, commitOf(5)},
		{"one of two is aborted", []int{1, 3}, abortOf(5)},
		{"the first one is aborted", []int{3, 1, 1}, abortOf(5)},
		{"one in the middle is aborted", []int{1, 3, 1}, abortOf(5)},
		{"all are aborted", []int{3, 3, 3}, abortOf(5)},
		{"one alone that is aborted", []int{3}, abortOf(5)},
		{"one of two knows nothing", []int{1, 0}, abortOf(5)},
		{"the first one knows nothing", []int{0, 1, 1}, abortOf(5)},
		{"the last one knows nothing", []int{1, 1, 0}, abortOf(5)},
		{"one alone that knows nothing", []int{0}, abortOf(5)},
		{"no shard has heard of it", []int{0, 0}, abortOf(5)},
		{"none of all shards has heard of it", []int{0, 0, 0}, abortOf(5)},
		{"none, aborted and prepared", []int{0, 3, 1}, abortOf(5)},
	} {
		checkTermShards(t, test.name, shardsOf(test.states...), 5, decidedOf(test.record, test.states...), test.record.Kind)
		for _, s := range decidedOf(test.record, test.states...) {
			checkShardAsk(t, test.name, s, 5, test.record.Kind)
		}
	}
}

func TestP131TermShardsRefs(t *testing.T) {
	got, _ := impl.TermShards(shardsOf(1, 2), 5)
	checkRecover(t, "a commit at the first shard", got[0], []int{100, 101, 102, -1}, []int{-1, -1, -1, -1}, true)
	checkRecover(t, "a commit at the second shard", got[1], []int{-1, 101, -1, 103}, []int{4, -1, -1, -1}, true)
	got, _ = impl.TermShards(shardsOf(1, 0), 5)
	checkRecover(t, "an abort at the first shard", got[0], []int{100, -1, -1, -1}, []int{-1, -1, -1, -1}, true)
	checkRecover(t, "an abort at the second shard", got[1], []int{100, -1, -1, -1}, []int{-1, -1, -1, 11}, true)
}

// All lists of up to five shards, in each state.
func TestP131TermShardsEachList(t *testing.T) {
	for length := range 6 {
		for _, states := range termLists(length, 0, 1, 2, 3) {
			for _, list := range [][]impl.Shard{shardsOf(states...), smallShards(states...)} {
				want, decision, answer := terminated(list, 5)
				checkTermShards(t, answer, list, 5, want, decision)
			}
		}
	}
}

func TestP131TermShardsState(t *testing.T) {
	eachTermination(t, 131, func(list []impl.Shard, txn int) {
		want, d, answer := terminated(list, txn)
		checkTermShards(t, answer, list, txn, want, d)
		got, decision := impl.TermShards(list, txn)
		if len(got) != len(list) || decision != impl.TermBlocked && decision != impl.RecordCommit && decision != impl.RecordAbort {
			t.Fatalf("TermShards(%s, %d) = %s, %d", shown(list), txn, shown(got), decision)
		}
		for i, s := range got {
			checkShardValid(t, answer, s, true)
			if decision != impl.TermBlocked {
				checkShardAsk(t, answer, s, txn, decision)
			}
			if before := statesAt(list[i]); !slices.Equal(without(statesAt(s), txn), without(before, txn)) {
				t.Fatalf("TermShards(%s, %d) changes the states of other transactions", shown(list), txn)
			}
		}
	})
}

// Shards with as many records as there can be have no space, but all of their transactions are decided, too.
func TestP131TermShardsLongest(t *testing.T) {
	long := longShard(12)
	for txn := range 12 {
		state := stateIn(long, txn)
		open := shard(prepareOf(txn, updatesOf(0)...))
		told := with(open, impl.Record{Kind: state, Txn: txn})
		checkTermShards(t, "one alone", []impl.Shard{long}, txn, []impl.Shard{long}, state)
		checkTermShards(t, "all shards", []impl.Shard{long, long, long}, txn, []impl.Shard{long, long, long}, state)
		checkTermShards(t, "beside one that is prepared", []impl.Shard{open, long}, txn, []impl.Shard{told, long}, state)
		checkTermShards(t, "around one that is prepared", []impl.Shard{long, open, long}, txn, []impl.Shard{long, told, long}, state)
		list, want, decision := []impl.Shard{shard(), long}, []impl.Shard{shard(abortOf(txn)), long}, impl.RecordAbort
		if state == 2 {
			want, decision = list, impl.TermBlocked
		}
		checkTermShards(t, "beside one that knows nothing", list, txn, want, decision)
	}
}

// The last record that there can be.
func TestP131TermShardsLastRecord(t *testing.T) {
	s, voted := shard(longShard(12).Records[:23]...), prepareOf(11, updatesOf(1)...)
	checkTermShards(t, "the last commit", []impl.Shard{s, shard(voted, commitOf(11))}, 11, []impl.Shard{with(s, commitOf(11)), shard(voted, commitOf(11))}, impl.RecordCommit)
	checkTermShards(t, "the last abort", []impl.Shard{shard(), s, shard(voted)}, 11, []impl.Shard{shard(abortOf(11)), with(s, abortOf(11)), shard(voted, abortOf(11))}, impl.RecordAbort)
	checkTermShards(t, "no last record", []impl.Shard{s, shard(voted)}, 11, []impl.Shard{s, shard(voted)}, impl.TermBlocked)
	s = longShard(11)
	checkTermShards(t, "the last transaction", []impl.Shard{shard(voted), s}, 11, []impl.Shard{shard(voted, abortOf(11)), with(s, abortOf(11))}, impl.RecordAbort)
}

func TestP131TermShardsUnheard(t *testing.T) {
	for txn := range 12 {
		for many := 1; many <= 3; many++ {
			list := slices.Repeat([]impl.Shard{{}}, many)
			checkTermShards(t, "no records", list, txn, slices.Repeat([]impl.Shard{shard(abortOf(txn))}, many), impl.RecordAbort)
		}
	}
	for name, s := range someShards() {
		for txn := range 12 {
			if stateIn(s, txn) == 0 {
				checkTermShards(t, name, []impl.Shard{s, s}, txn, []impl.Shard{with(s, abortOf(txn)), with(s, abortOf(txn))}, impl.RecordAbort)
			}
		}
	}
}

func TestP132TermShardsFinal(t *testing.T) {
	decided := 0
	eachTermination(t, 132, func(list []impl.Shard, txn int) {
		after, decision := impl.TermShards(list, txn)
		checkTermShards(t, "once more", after, txn, after, decision)
		if decision == impl.TermBlocked {
			return
		}
		decided++
		for _, s := range after {
			checkShardDecide(t, "the other decision", s, txn, decision != impl.RecordCommit, s, false)
		}
		for _, order := range allOrders([]int{0, 1, 2}[:len(after)]) {
			some := []impl.Shard{}
			for _, i := range order {
				some = append(some, after[i])
				checkTermShards(t, "some of them, in another order", some, txn, some, decision)
			}
		}
	})
	if decided < 300 {
		t.Errorf("only %d lists lead to a decision", decided)
	}
}

func TestP133TermShardsBlocked(t *testing.T) {
	for _, states := range append(contraryLists(), []int{1}, []int{1, 1}, []int{1, 1, 1}) {
		for _, list := range [][]impl.Shard{shardsOf(states...), smallShards(states...)} {
			checkTermShards(t, "no decision", list, 5, list, impl.TermBlocked)
		}
	}
	eachTermination(t, 133, func(list []impl.Shard, txn int) {
		if after, decision := impl.TermShards(list, txn); decision == impl.TermBlocked && !sameShards(after, list) {
			t.Fatalf("TermShards(%s, %d) = %s, %d", shown(list), txn, shown(after), decision)
		}
	})
}

func TestP133TermShardsNumber(t *testing.T) {
	for txn := range 12 {
		checkTermShards(t, "no shards", nil, txn, nil, impl.TermBlocked)
		checkTermShards(t, "an empty slice", []impl.Shard{}, txn, nil, impl.TermBlocked)
	}
	for _, states := range termLists(4, 0, 1, 2, 3) {
		checkTermShards(t, "one more than all shards", shardsOf(states...), 5, shardsOf(states...), impl.TermBlocked)
	}
	for _, states := range [][]int{{0}, {1}, {2}, {3}, {1, 2}, {1, 0, 3}, {2, 0}} {
		for _, many := range []int{5, 100, 10000} {
			list := slices.Repeat(smallShards(states...), many)
			checkTermShards(t, "many more than all shards", list, 5, list, impl.TermBlocked)
		}
	}
}

func TestP134TermShardsAbort(t *testing.T) {
	aborted := 0
	eachTermination(t, 134, func(list []impl.Shard, txn int) {
		after, decision := impl.TermShards(list, txn)
		if decision != impl.RecordAbort {
			return
		}
		aborted++
		for i, s := range after {
			refs, locks := recovered(t, list[i])
			open, _ := freed(locks, txn)
			checkRecover(t, "an abort", s, refs, open, true)
			checkLocksOf(t, "an abort", open, txn, nil)
		}
	})
	if aborted < 200 {
		t.Errorf("only %d transactions are aborted", aborted)
	}
}

func TestP134TermShardsFreedRefs(t *testing.T) {
	for _, refs := range allRefSets() {
		voted := shard(prepareOf(5, updatesOf(refs...)...))
		after, _ := impl.TermShards([]impl.Shard{voted, {}}, 5)
		checkRecover(t, "an abort", after[0], []int{-1, -1, -1, -1}, []int{-1, -1, -1, -1}, true)
		checkShardPrepare(t, "what is free", after[0], 4, updatesOf(refs...), with(after[0], prepareOf(4, updatesOf(refs...)...)), true)
	}
}

// One shard that is not valid, in each place beside others that would lead to a decision, or to none.
func TestP133TermShardsInvalidShard(t *testing.T) {
	for name, broken := range brokenShards() {
		for _, txn := range []int{0, 5, 11} {
			checkTermShards(t, name+", alone", []impl.Shard{broken}, txn, nil, impl.TermBlocked)
		}
		for _, states := range [][]int{{1, 2, 1}, {0, 3, 1}} {
			for place := range 3 {
				checkTermShards(t, name, changed(shardsOf(states...), place, broken), 5, nil, impl.TermBlocked)
			}
		}
		checkTermShards(t, name+", as the last one of two", []impl.Shard{shardsOf(2)[0], broken}, 5, nil, impl.TermBlocked)
		checkTermShards(t, name+", as the first one of two", []impl.Shard{broken, shardsOf(2)[0]}, 5, nil, impl.TermBlocked)
	}
}

func TestP133TermShardsInvalidShards(t *testing.T) {
	for name, broken := range someBrokenShards(t) {
		for length := 1; length <= 5; length++ {
			for _, states := range [][]int{{1, 1, 1, 1, 1}, {1, 2, 1, 2, 1}, {0, 1, 3, 0, 1}, {2, 3, 1, 0, 2}} {
				for set := 1; set < 1<<length; set++ {
					list := shardsOf(states[:length]...)
					for i := range list {
						if set>>i&1 == 1 {
							list[i] = broken
						}
					}
					checkTermShards(t, name, list, 5, nil, impl.TermBlocked)
				}
			}
		}
		long := slices.Repeat(shardsOf(1, 2), 500)
		for _, place := range []int{0, 3, 500, 999} {
			checkTermShards(t, name+" of very many", changed(long, place, broken), 5, nil, impl.TermBlocked)
		}
	}
}

func TestP133TermShardsInvalidTransaction(t *testing.T) {
	for _, txn := range wrongTxns() {
		name := fmt.Sprintf("the transaction %d", txn)
		for length := range 5 {
			for _, states := range termLists(length, 0, 1, 2, 3) {
				checkTermShards(t, name, shardsOf(states...), txn, nil, impl.TermBlocked)
			}
		}
		checkTermShards(t, name+" of no records", []impl.Shard{{}, {}}, txn, nil, impl.TermBlocked)
		checkTermShards(t, name+" of the longest shards", []impl.Shard{longShard(12), longShard(12)}, txn, nil, impl.TermBlocked)
		for broken, s := range someBrokenShards(t) {
			for place := range 3 {
				checkTermShards(t, name+" and "+broken, changed(shardsOf(1, 2, 1), place, s), txn, nil, impl.TermBlocked)
			}
			checkTermShards(t, name+" and only "+broken, []impl.Shard{s}, txn, nil, impl.TermBlocked)
		}
	}
}

func TestMemoryOfTermShards(t *testing.T) {
	lists := [][]impl.Shard{nil, {}, {longShard(12), longShard(12)}, slices.Repeat(shardsOf(1, 2), 40)}
	for length := range 5 {
		for _, states := range termLists(length, 0, 1, 2, 3) {
			lists = append(lists, shardsOf(states...), smallShards(states...))
		}
	}
	for _, broken := range someBrokenShards(t) {
		lists = append(lists, []impl.Shard{broken}, []impl.Shard{shardsOf(1)[0], broken, shardsOf(2)[0]})
	}
	for _, some := range lists {
		for _, txn := range []int{0, 5, 11, -1, 12} {
			list := roomyShards(some)
			before := wholeShards(list)
			one, _ := impl.TermShards(list, txn)
			two, _ := impl.TermShards(list, txn)
			checkApart(t, "TermShards", []any{list}, []any{one, two})
			if after := wholeShards(list); after != before {
				t.Fatalf("TermShards modified %s to %s", before, after)
			}
		}
	}
}

// One and the same shard, several times in a list.
func TestMemoryOfTermShardsTwice(t *testing.T) {
	for state := range 4 {
		s := roomyShard(shardsOf(state)[0])
		for many := range 6 {
			list := slices.Repeat([]impl.Shard{s}, many)
			before := wholeShard(s)
			got, _ := impl.TermShards(list, 5)
			checkApart(t, "the same shard", []any{list}, []any{got})
			if after := wholeShard(s); after != before {
				t.Fatalf("TermShards modified %s to %s", before, after)
			}
		}
	}
}
