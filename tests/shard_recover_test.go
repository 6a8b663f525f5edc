package tests

import (
	"slices"
	"testing"

	"loop.example/atomicpush/impl"
)

func TestShardConstants(t *testing.T) {
	if impl.MaxRecords != 30 {
		t.Errorf("MaxRecords is %d", impl.MaxRecords)
	}
	if impl.RecordPrepare != 1 || impl.RecordCommit != 2 || impl.RecordAbort != 3 {
		t.Errorf("the kinds of records are %d, %d and %d", impl.RecordPrepare, impl.RecordCommit, impl.RecordAbort)
	}
	if impl.StateNone != 0 || impl.StatePrepared != 1 || impl.StateCommitted != 2 || impl.StateAborted != 3 {
		t.Errorf("the states are %d, %d, %d and %d", impl.StateNone, impl.StatePrepared, impl.StateCommitted, impl.StateAborted)
	}
}

func TestP104ShardValid(t *testing.T) {
	for name, s := range someShards() {
		checkShardValid(t, name, s, true)
	}
	for name, s := range brokenShards() {
		checkShardValid(t, name, s, false)
	}
}

// Two records for each transaction are all that follow: shards with MaxRecords records, or one less, are never valid.
func TestP104NumberOfRecords(t *testing.T) {
	for many := range 25 {
		checkShardValid(t, "the first records", shard(longShard(12).Records[:many]...), true)
	}
	for _, r := range []impl.Record{prepareOf(0, updatesOf(0)...), commitOf(0), abortOf(0), prepareOf(11, updatesOf(3)...), commitOf(11), abortOf(11)} {
		s := longShard(12)
		for range 10 {
			s = with(s, r)
			checkShardValid(t, "too many records", s, false)
		}
	}
}

// Each record of some kinds, transactions and updates may follow on each shard, or it may not.
func TestP104EachRecord(t *testing.T) {
	lists := [][]impl.Update{nil, {{}}, updatesOf(4), {update(1, 5, 5)}, {update(1, 101, 5)}}
	for _, refs := range allRefSets() {
		lists = append(lists, updatesOf(refs...))
	}
	for name, s := range someShards() {
		for kind := -1; kind <= 5; kind++ {
			for txn := -1; txn <= 12; txn++ {
				for _, list := range lists {
					longer := with(s, impl.Record{Kind: kind, Txn: txn, Updates: list})
					checkShardValid(t, name+" and one more", longer, shardRight(longer))
				}
			}
		}
	}
}

// All shards of at most four of some records.
func TestP104EachShard(t *testing.T) {
	records := []impl.Record{
		prepareOf(0, updatesOf(0)...), prepareOf(0, update(1, -1, 5)), commitOf(0), abortOf(0),
		prepareOf(11, updatesOf(0, 3)...), prepareOf(11, update(0, 100, -1)), commitOf(11), abortOf(11),
		prepareOf(6, update(0, 100, 7), update(2, -1, 7)), commitOf(6), abortOf(12), {Kind: 4, Txn: 6},
	}
	all := []impl.Shard{{}}
	for range 4 {
		longer := []impl.Shard{}
		for _, s := range all {
			for _, r := range records {
				longer = append(longer, with(s, r))
			}
		}
		all = longer
		for _, s := range all {
			if right := shardRight(s); right {
				checkShardValid(t, "some records", s, true)
				checkRecover(t, "some records", s, refsIn(s), locksIn(s), true)
			} else {
				checkShardValid(t, "some records", s, false)
				checkRecover(t, "some records", s, nil, nil, false)
			}
		}
	}
}

func TestP104Recover(t *testing.T) {
	for _, test := range []struct {
		name  string
		s     impl.Shard
		refs  []int
		locks []int
	}{
		{"one vote", shard(prepareOf(5, updatesOf(1, 2)...)), []int{-1, -1, -1, -1}, []int{-1, 5, 5, -1}},
		{"a vote for all refs", shard(prepareOf(11, updatesOf(0, 1, 2, 3)...)), []int{-1, -1, -1, -1}, []int{11, 11, 11, 11}},
		{"a vote of the first transaction", shard(prepareOf(0, updatesOf(0)...)), []int{-1, -1, -1, -1}, []int{0, -1, -1, -1}},
		{"a commit", shard(prepareOf(5, updatesOf(1, 2)...), commitOf(5)), []int{-1, 101, 102, -1}, []int{-1, -1, -1, -1}},
		{"an abort", shard(prepareOf(5, updatesOf(1, 2)...), abortOf(5)), []int{-1, -1, -1, -1}, []int{-1, -1, -1, -1}},
		{"an abort without a vote", shard(abortOf(5)), []int{-1, -1, -1, -1}, []int{-1, -1, -1, -1}},
		{"an abort beside a vote", shard(prepareOf(5, updatesOf(1, 2)...), abortOf(4)), []int{-1, -1, -1, -1}, []int{-1, 5, 5, -1}},
		{"all kinds", middle(), []int{100, -1, -1, -1}, []int{-1, 5, 5, -1}},
		{"three votes", shard(prepareOf(11, updatesOf(3)...), prepareOf(0, updatesOf(0)...), prepareOf(5, updatesOf(1, 2)...)), []int{-1, -1, -1, -1}, []int{0, 5, 5, 11}},
		{"one of three is committed", shard(prepareOf(11, updatesOf(3)...), prepareOf(0, updatesOf(0)...), prepareOf(5, updatesOf(1, 2)...), commitOf(0)), []int{100, -1, -1, -1}, []int{-1, 5, 5, 11}},
		{"one of three is aborted", shard(prepareOf(11, updatesOf(3)...), prepareOf(0, updatesOf(0)...), prepareOf(5, updatesOf(1, 2)...), abortOf(5)), []int{-1, -1, -1, -1}, []int{0, -1, -1, 11}},
		{"a ref without an id again", shard(prepareOf(5, updatesOf(1)...), commitOf(5), prepareOf(4, update(1, 101, -1)), commitOf(4)), []int{-1, -1, -1, -1}, []int{-1, -1, -1, -1}},
		{"the id of a commit, and the next lock", shard(prepareOf(5, updatesOf(1)...), commitOf(5), prepareOf(4, update(1, 101, 0), update(2, -1, 990))), []int{-1, 101, -1, -1}, []int{-1, 4, 4, -1}},
		{"the least and the greatest id", shard(prepareOf(5, update(0, -1, 0), update(3, -1, 990)), commitOf(5)), []int{0, -1, -1, 990}, []int{-1, -1, -1, -1}},
	} {
		checkRecover(t, test.name, test.s, test.refs, test.locks, true)
	}
}

func TestP104FirstRecords(t *testing.T) {
	eachShard(t, 104, 1500, func(n *numbers, s impl.Shard) {
		for many := range len(s.Records) + 1 {
			first := shard(s.Records[:many]...)
			checkShardValid(t, "the first records", first, true)
			checkRecover(t, "the first records", first, refsIn(first), locksIn(first), true)
			_, locks := recovered(t, first)
			for _, txn := range locks {
				if txn != -1 && impl.ShardAsk(first, txn) != impl.StatePrepared {
					t.Fatalf("%d has locks of %s", txn, shown(first))
				}
			}
		}
	})
}

func TestP104InvalidShards(t *testing.T) {
	for name, s := range brokenShards() {
		checkRecover(t, name, s, nil, nil, false)
	}
}

func TestP105NoRecords(t *testing.T) {
	for _, s := range []impl.Shard{{}, {Records: []impl.Record{}}, {Records: middle().Records[:0]}} {
		checkShardValid(t, "no records", s, true)
		checkRecover(t, "no records", s, []int{-1, -1, -1, -1}, []int{-1, -1, -1, -1}, true)
		checkShardCommitted(t, "no records", s, nil)
		for txn := range 12 {
			checkShardAsk(t, "no records", s, txn, impl.StateNone)
		}
	}
}

func TestP106Committed(t *testing.T) {
	for _, test := range []struct {
		name string
		s    impl.Shard
		want []int
	}{
		{"a vote", shard(prepareOf(5, updatesOf(1)...)), nil},
		{"an abort", shard(prepareOf(5, updatesOf(1)...), abortOf(5)), nil},
		{"an abort without a vote", shard(abortOf(5)), nil},
		{"a commit", shard(prepareOf(5, updatesOf(1)...), commitOf(5)), []int{5}},
		{"the first transaction", shard(prepareOf(0, updatesOf(1)...), commitOf(0)), []int{0}},
		{"the last transaction", shard(prepareOf(11, updatesOf(1)...), commitOf(11)), []int{11}},
		{"all kinds", middle(), []int{2}},
		{"one after the other", shard(prepareOf(9, updatesOf(0)...), commitOf(9), prepareOf(4, updatesOf(1)...), commitOf(4)), []int{9, 4}},
		{"in the order of votes", shard(prepareOf(9, updatesOf(0)...), prepareOf(4, updatesOf(1)...), commitOf(9), commitOf(4)), []int{9, 4}},
		{"not in the order of votes", shard(prepareOf(9, updatesOf(0)...), prepareOf(4, updatesOf(1)...), commitOf(4), commitOf(9)), []int{4, 9}},
		{"another order of three", shard(prepareOf(1, updatesOf(0)...), prepareOf(2, updatesOf(1)...), prepareOf(3, updatesOf(2)...), commitOf(2), commitOf(3), commitOf(1)), []int{2, 3, 1}},
		{"most transactions", longShard(12), []int{0, 1, 3, 4, 6, 7, 9, 10}},
	} {
		checkShardCommitted(t, test.name, test.s, test.want)
	}
}

func TestP106EachOnce(t *testing.T) {
	eachShard(t, 106, 3000, func(n *numbers, s impl.Shard) {
		got := impl.ShardCommitted(s)
		checkShardCommitted(t, "a valid shard", s, committedIn(s))
		for txn := range 12 {
			many := len(got) - len(slices.DeleteFunc(slices.Clone(got), func(c int) bool { return c == txn }))
			if committed := impl.ShardAsk(s, txn) == impl.StateCommitted; many > 1 || committed != (many == 1) {
				t.Fatalf("ShardCommitted(%s) = %v", shown(s), got)
			}
		}
	})
}

func TestP106InvalidShards(t *testing.T) {
	for name, s := range brokenShards() {
		checkShardCommitted(t, name, s, nil)
	}
}

func TestP106Ask(t *testing.T) {
	for txn, want := range map[int]int{0: 0, 2: 2, 5: 1, 6: 0, 7: 3, 11: 0, -1: -1, 12: -1} {
		checkShardAsk(t, "all kinds", middle(), txn, want)
	}
	for txn := range 12 {
		checkShardAsk(t, "a vote", shard(prepareOf(txn, updatesOf(1)...)), txn, 1)
		checkShardAsk(t, "a commit", shard(prepareOf(txn, updatesOf(1)...), commitOf(txn)), txn, 2)
		checkShardAsk(t, "an abort", shard(prepareOf(txn, updatesOf(1)...), abortOf(txn)), txn, 3)
		checkShardAsk(t, "an abort without a vote", shard(abortOf(txn)), txn, 3)
	}
	for name, s := range someShards() {
		for txn := range 12 {
			checkShardAsk(t, name, s, txn, stateIn(s, txn))
		}
		for _, txn := range wrongTxns() {
			checkShardAsk(t, name, s, txn, -1)
		}
	}
}

func TestP106AskInvalidShards(t *testing.T) {
	for name, s := range brokenShards() {
		for txn := range 12 {
			checkShardAsk(t, name, s, txn, -1)
		}
		for _, txn := range wrongTxns() {
			checkShardAsk(t, name, s, txn, -1)
		}
	}
}

func TestP107RefsOfCommits(t *testing.T) {
	eachShard(t, 107, 2000, func(n *numbers, s impl.Shard) {
		want := []int{-1, -1, -1, -1}
		for _, txn := range impl.ShardCommitted(s) {
			after, ok := impl.RefsApply(want, votedIn(s, txn))
			if !ok {
				t.Fatalf("the updates of %d do not fit in %s", txn, shown(s))
			}
			want = after
		}
		if refs, _ := recovered(t, s); !slices.Equal(refs, want) {
			t.Fatalf("ShardRecover(%s) has the refs %v, not %v", shown(s), refs, want)
		}
	})
}

func TestP110LocksIfPrepared(t *testing.T) {
	eachShard(t, 110, 2000, func(n *numbers, s impl.Shard) {
		_, locks := recovered(t, s)
		for txn := range 12 {
			want := []int{}
			if impl.ShardAsk(s, txn) == impl.StatePrepared {
				for _, u := range votedIn(s, txn) {
					want = append(want, u.Ref)
				}
			}
			checkLocksOf(t, "a valid shard", locks, txn, want)
		}
	})
}

func TestMemoryOfShardRecover(t *testing.T) {
	all := brokenShards()
	for name, s := range someShards() {
		all[name] = s
	}
	for name, some := range all {
		if len(some.Records) > 100 || slices.ContainsFunc(some.Records, func(r impl.Record) bool { return len(r.Updates) > 100 }) {
			continue
		}
		s := roomyShard(some)
		before := wholeShard(s)
		one, _ := impl.ShardRecover(s)
		two, _ := impl.ShardRecover(s)
		three, four := impl.ShardCommitted(s), impl.ShardCommitted(s)
		checkApart(t, name, []any{s}, []any{one, two, three, four})
		impl.ShardValid(s)
		impl.ShardAsk(s, 5)
		if after := wholeShard(s); after != before {
			t.Fatalf("ShardRecover, ShardCommitted, ShardValid or ShardAsk modified %s to %s", before, after)
		}
	}
}
