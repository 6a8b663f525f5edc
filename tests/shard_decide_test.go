package tests

import (
	"slices"
	"testing"

	"loop.example/atomicpush/impl"
)

func TestP100Commit(t *testing.T) {
	none := []int{-1, -1, -1, -1}
	three := shard(prepareOf(11, updatesOf(3)...), prepareOf(0, updatesOf(0)...), prepareOf(5, updatesOf(1, 2)...))
	for _, test := range []struct {
		name  string
		s     impl.Shard
		txn   int
		refs  []int
		locks []int
	}{
		{"the first ref", shard(prepareOf(4, updatesOf(0)...)), 4, []int{100, -1, -1, -1}, none},
		{"the last ref", shard(prepareOf(4, updatesOf(3)...)), 4, []int{-1, -1, -1, 103}, none},
		{"all refs", shard(prepareOf(4, updatesOf(0, 1, 2, 3)...)), 4, []int{100, 101, 102, 103}, none},
		{"the least and the greatest id", shard(prepareOf(4, update(0, -1, 0), update(3, -1, 990))), 4, []int{0, -1, -1, 990}, none},
		{"the first transaction", shard(prepareOf(0, updatesOf(1)...)), 0, []int{-1, 101, -1, -1}, none},
		{"the last transaction", shard(prepareOf(11, updatesOf(1)...)), 11, []int{-1, 101, -1, -1}, none},
		{"after others", middle(), 5, []int{100, 101, 102, -1}, none},
		{"to no id", shard(prepareOf(2, updatesOf(0)...), commitOf(2), prepareOf(4, update(0, 100, -1))), 4, none, none},
		{"the first vote of three", three, 11, []int{-1, -1, -1, 103}, []int{0, 5, 5, -1}},
		{"the second vote of three", three, 0, []int{100, -1, -1, -1}, []int{-1, 5, 5, 11}},
		{"the last vote of three", three, 5, []int{-1, 101, 102, -1}, []int{0, -1, -1, 11}},
		{"what another one has freed", shard(prepareOf(2, updatesOf(0)...), abortOf(2), prepareOf(4, update(0, -1, 9))), 4, []int{9, -1, -1, -1}, none},
	} {
		after := with(test.s, commitOf(test.txn))
		checkShardDecide(t, test.name, test.s, test.txn, true, after, true)
		checkShardAsk(t, test.name, after, test.txn, impl.StateCommitted)
		checkRecover(t, test.name, after, test.refs, test.locks, true)
	}
}

func TestP100NewIds(t *testing.T) {
	eachDecision(t, 100, func(s impl.Shard, txn int, commit bool) {
		want, ok := decided(s, txn, commit)
		checkShardDecide(t, "valid arguments", s, txn, commit, want, ok)
		if !commit || stateIn(s, txn) != 1 {
			return
		}
		after, _ := impl.ShardDecide(s, txn, true)
		refs, locks := recovered(t, s)
		changed, _ := updated(refs, votedIn(s, txn))
		open, _ := freed(locks, txn)
		checkRecover(t, "a commit", after, changed, open, true)
		checkShardAsk(t, "a commit", after, txn, impl.StateCommitted)
	})
}

func TestP101Abort(t *testing.T) {
	none := []int{-1, -1, -1, -1}
	three := shard(prepareOf(11, updatesOf(3)...), prepareOf(0, updatesOf(0)...), prepareOf(5, updatesOf(1, 2)...))
	for _, test := range []struct {
		name  string
		s     impl.Shard
		txn   int
		locks []int
	}{
		{"one that is prepared", shard(prepareOf(4, updatesOf(1, 2)...)), 4, none},
		{"one that is prepared for all refs", shard(prepareOf(4, updatesOf(0, 1, 2, 3)...)), 4, none},
		{"one without records", shard(), 4, none},
		{"the first transaction without records", shard(), 0, none},
		{"the last transaction without records", shard(), 11, none},
		{"one without records beside others", middle(), 4, []int{-1, 5, 5, -1}},
		{"one that is prepared after others", middle(), 5, none},
		{"the first vote of three", three, 11, []int{0, 5, 5, -1}},
		{"the second vote of three", three, 0, []int{-1, 5, 5, 11}},
		{"the last vote of three", three, 5, []int{0, -1, -1, 11}},
		{"none of three votes", three, 4, []int{0, 5, 5, 11}},
	} {
		after := with(test.s, abortOf(test.txn))
		checkShardDecide(t, test.name, test.s, test.txn, false, after, true)
		checkShardAsk(t, test.name, after, test.txn, impl.StateAborted)
		checkRecover(t, test.name, after, refsIn(test.s), test.locks, true)
	}
}

func TestP101AllOrNothing(t *testing.T) {
	eachDecision(t, 101, func(s impl.Shard, txn int, commit bool) {
		after, done := impl.ShardDecide(s, txn, false)
		if !done {
			return
		}
		refs, locks := recovered(t, s)
		open, _ := freed(locks, txn)
		checkRecover(t, "an abort", after, refs, open, true)
		checkShardAsk(t, "an abort", after, txn, impl.StateAborted)
	})
}

// What an abort frees can be locked by another transaction.
func TestP101FreedRefs(t *testing.T) {
	for _, refs := range allRefSets() {
		for _, commit := range []bool{true, false} {
			s, _ := impl.ShardPrepare(shard(), 4, updatesOf(refs...))
			s, _ = impl.ShardDecide(s, 4, commit)
			list := []impl.Update{}
			for _, ref := range refs {
				list = append(list, update(ref, refsIn(s)[ref], 500))
			}
			checkShardPrepare(t, "what is free", s, 5, list, with(s, prepareOf(5, list...)), true)
		}
	}
}

func TestP102Final(t *testing.T) {
	eachDecision(t, 102, func(s impl.Shard, txn int, commit bool) {
		after, done := impl.ShardDecide(s, txn, commit)
		if !done {
			checkShardDecide(t, "one that fails", s, txn, commit, s, false)
			return
		}
		checkShardDecide(t, "the same again", after, txn, commit, after, true)
		checkShardDecide(t, "the other one", after, txn, !commit, after, false)
	})
}

func TestP102Decided(t *testing.T) {
	for name, s := range someShards() {
		for txn := range 12 {
			switch stateIn(s, txn) {
			case 2:
				checkShardDecide(t, name+", a commit again", s, txn, true, s, true)
				checkShardDecide(t, name+", an abort of a committed one", s, txn, false, s, false)
			case 3:
				checkShardDecide(t, name+", an abort again", s, txn, false, s, true)
				checkShardDecide(t, name+", a commit of an aborted one", s, txn, true, s, false)
			}
		}
	}
}

func TestP103IfAndOnlyIf(t *testing.T) {
	for name, s := range someShards() {
		for txn := range 12 {
			for _, commit := range []bool{true, false} {
				want, ok := decided(s, txn, commit)
				checkShardDecide(t, name, s, txn, commit, want, ok)
			}
		}
	}
	eachDecision(t, 103, func(s impl.Shard, txn int, commit bool) {
		state := impl.ShardAsk(s, txn)
		if _, done := impl.ShardDecide(s, txn, true); done != (state == impl.StateCommitted || state == impl.StatePrepared) {
			t.Fatalf("ShardDecide(%s, %d, true) answers %t", shown(s), txn, done)
		}
	})
}

func TestP103WithoutRecords(t *testing.T) {
	for txn := range 12 {
		checkShardDecide(t, "a commit without records", shard(), txn, true, shard(), false)
		checkShardDecide(t, "an abort without records", shard(), txn, false, shard(abortOf(txn)), true)
	}
	for _, txn := range []int{0, 3, 11} {
		checkShardDecide(t, "a commit of one not known", middle(), txn, true, middle(), false)
		checkShardDecide(t, "an abort of one not known", middle(), txn, false, with(middle(), abortOf(txn)), true)
	}
}

// The last one of all records that there can be.
func TestP103LastRecord(t *testing.T) {
	s := shard(longShard(12).Records[:23]...)
	checkShardDecide(t, "the last commit", s, 11, true, with(s, commitOf(11)), true)
	checkShardDecide(t, "the last abort", s, 11, false, with(s, abortOf(11)), true)
	checkShardDecide(t, "the last abort again", longShard(12), 11, false, longShard(12), true)
	checkShardDecide(t, "a commit after all records", longShard(12), 11, true, longShard(12), false)
	s = longShard(11)
	checkShardDecide(t, "the last transaction", s, 11, false, with(s, abortOf(11)), true)
	checkShardDecide(t, "a commit of the last transaction", s, 11, true, s, false)
}

func TestP103InvalidArguments(t *testing.T) {
	for name, s := range brokenShards() {
		for _, commit := range []bool{true, false} {
			for txn := range 12 {
				checkShardDecide(t, name, s, txn, commit, impl.Shard{}, false)
			}
			for _, txn := range wrongTxns() {
				checkShardDecide(t, name, s, txn, commit, impl.Shard{}, false)
			}
		}
	}
	for name, s := range someShards() {
		for _, txn := range wrongTxns() {
			checkShardDecide(t, name, s, txn, true, impl.Shard{}, false)
			checkShardDecide(t, name, s, txn, false, impl.Shard{}, false)
		}
	}
}

func TestP109OtherTransactions(t *testing.T) {
	eachDecision(t, 109, func(s impl.Shard, txn int, commit bool) {
		before := statesAt(s)
		after, _ := impl.ShardDecide(s, txn, commit)
		if got := statesAt(after); !slices.Equal(before, statesIn(s)) || !slices.Equal(without(got, txn), without(before, txn)) {
			t.Fatalf("ShardDecide(%s, %d, %t) leads from the states %v to %v", shown(s), txn, commit, before, got)
		}
	})
}

func TestP111CommittedAndOneMore(t *testing.T) {
	eachDecision(t, 111, func(s impl.Shard, txn int, commit bool) {
		want := impl.ShardCommitted(s)
		if commit && impl.ShardAsk(s, txn) == impl.StatePrepared {
			want = append(want, txn)
		}
		after, _ := impl.ShardDecide(s, txn, commit)
		checkShardCommitted(t, "a decision", after, want)
	})
}

// Four transactions that are prepared at the same time are committed in each order.
func TestP111EachOrder(t *testing.T) {
	txns := []int{11, 4, 7, 0}
	s := shard()
	for ref, txn := range txns {
		s, _ = impl.ShardPrepare(s, txn, updatesOf(ref))
	}
	for order := range 256 {
		after, want := s, []int{}
		for _, place := range []int{order % 4, order / 4 % 4, order / 16 % 4, order / 64} {
			after, _ = impl.ShardDecide(after, txns[place], true)
			if !slices.Contains(want, txns[place]) {
				want = append(want, txns[place])
			}
			checkShardCommitted(t, "some order", after, want)
		}
	}
}

// A history of votes and decisions, as shards have it.
func TestP111History(t *testing.T) {
	n := numbers(211)
	committed := 0
	for range 400 {
		s, want := impl.Shard{}, impl.Shard{}
		for range 50 {
			txn := n.below(12)
			if n.below(2) == 0 {
				list := n.updates(refsIn(want))
				next, vote, answer := asked(want, txn, list)
				checkShardPrepare(t, answer, s, txn, list, next, vote)
				s, _ = impl.ShardPrepare(s, txn, list)
				want = next
			} else {
				commit := n.below(6) > 0
				next, ok := decided(want, txn, commit)
				checkShardDecide(t, "a history", s, txn, commit, next, ok)
				s, _ = impl.ShardDecide(s, txn, commit)
				want = next
			}
		}
		checkShardValid(t, "a history", s, true)
		checkRecover(t, "a history", s, refsIn(want), locksIn(want), true)
		checkShardCommitted(t, "a history", s, committedIn(want))
		committed += len(committedIn(want))
	}
	if committed < 600 {
		t.Errorf("only %d transactions are committed", committed)
	}
}

func TestMemoryOfShardDecide(t *testing.T) {
	all := someShards()
	for name, s := range wrongLast() {
		if !slices.ContainsFunc(s.Records, func(r impl.Record) bool { return len(r.Updates) > 100 }) {
			all[name] = s
		}
	}
	for name, some := range all {
		for _, commit := range []bool{true, false} {
			for _, txn := range []int{0, 2, 4, 5, 7, 11, -1, 12} {
				s := roomyShard(some)
				before := wholeShard(s)
				one, _ := impl.ShardDecide(s, txn, commit)
				two, _ := impl.ShardDecide(s, txn, commit)
				checkApart(t, name, []any{s}, []any{one, two})
				if after := wholeShard(s); after != before {
					t.Fatalf("ShardDecide modified %s to %s", before, after)
				}
			}
		}
	}
}
