package tests

import (
	"slices"
	"testing"

	"loop.example/atomicpush/impl"
)

func TestP95Prepare(t *testing.T) {
	all := []impl.Update{update(0, 100, -1), update(1, -1, 0), update(2, -1, 990), update(3, -1, 7)}
	freed := shard(prepareOf(2, updatesOf(0)...), commitOf(2), prepareOf(5, updatesOf(1, 2)...), abortOf(5))
	for _, test := range []struct {
		name  string
		s     impl.Shard
		txn   int
		list  []impl.Update
		locks []int
	}{
		{"the first ref of a new shard", shard(), 4, updatesOf(0), []int{4, -1, -1, -1}},
		{"the last ref of a new shard", shard(), 4, updatesOf(3), []int{-1, -1, -1, 4}},
		{"all refs of a new shard", shard(), 4, updatesOf(0, 1, 2, 3), []int{4, 4, 4, 4}},
		{"the first transaction", shard(), 0, updatesOf(1, 2), []int{-1, 0, 0, -1}},
		{"the last transaction", shard(), 11, updatesOf(1, 2), []int{-1, 11, 11, -1}},
		{"the first ref beside another one", middle(), 4, all[:1], []int{4, 5, 5, -1}},
		{"the last ref beside another one", middle(), 4, all[3:], []int{-1, 5, 5, 4}},
		{"both refs beside another one", middle(), 4, []impl.Update{all[0], all[3]}, []int{4, 5, 5, 4}},
		{"the first transaction beside another one", middle(), 0, all[3:], []int{-1, 5, 5, 0}},
		{"the last transaction beside another one", middle(), 11, all[3:], []int{-1, 5, 5, 11}},
		{"what an abort has freed", freed, 4, all[1:3], []int{-1, 4, 4, -1}},
		{"what an abort has freed, and more", freed, 4, all, []int{4, 4, 4, 4}},
		{"what a commit has freed", freed, 4, all[:1], []int{4, -1, -1, -1}},
		{"a third one", with(middle(), prepareOf(9, all[0])), 4, all[3:], []int{9, 5, 5, 4}},
		{"an id again that was there", with(with(middle(), prepareOf(9, all[0])), commitOf(9)), 4, updatesOf(0), []int{4, 5, 5, -1}},
	} {
		after := with(test.s, prepareOf(test.txn, test.list...))
		checkShardPrepare(t, test.name, test.s, test.txn, test.list, after, true)
		checkShardAsk(t, test.name, after, test.txn, impl.StatePrepared)
		checkRecover(t, test.name, after, refsIn(test.s), test.locks, true)
	}
}

func TestP95VotesForIt(t *testing.T) {
	eachAsk(t, 95, func(s impl.Shard, txn int, list []impl.Update) {
		want, vote, answer := asked(s, txn, list)
		checkShardPrepare(t, answer, s, txn, list, want, vote)
		if answer != "for it" {
			return
		}
		after, _ := impl.ShardPrepare(s, txn, list)
		refs, locks := recovered(t, s)
		locked, _ := taken(locks, txn, list)
		checkShardAsk(t, answer, after, txn, impl.StatePrepared)
		checkRecover(t, answer, after, refs, locked, true)
	})
}

// Each transaction votes for the updates of each refs, and is in the way of each other one.
func TestP95EachTransaction(t *testing.T) {
	for txn := range 12 {
		for _, refs := range allRefSets() {
			after := shard(prepareOf(txn, updatesOf(refs...)...))
			checkShardPrepare(t, "a new shard", shard(), txn, updatesOf(refs...), after, true)
			for other := range 12 {
				want, vote := with(after, abortOf(other)), false
				if other == txn {
					want, vote = after, true
				}
				checkShardPrepare(t, "a locked ref", after, other, updatesOf(refs...), want, vote)
			}
		}
	}
}

func TestP96VotesAgainstIt(t *testing.T) {
	eachAsk(t, 96, func(s impl.Shard, txn int, list []impl.Update) {
		if stateIn(s, txn) != 0 {
			return
		}
		after, vote := impl.ShardPrepare(s, txn, list)
		if vote {
			return
		}
		refs, locks := recovered(t, s)
		checkShardAsk(t, "a vote against it", after, txn, impl.StateAborted)
		checkRecover(t, "a vote against it", after, refs, locks, true)
	})
}

func TestP96Refused(t *testing.T) {
	two := shard(prepareOf(2, updatesOf(0)...), commitOf(2), prepareOf(5, update(0, 100, 7), update(1, -1, 7)))
	for _, test := range []struct {
		name string
		s    impl.Shard
		list []impl.Update
	}{
		{"another old id than none", shard(), []impl.Update{update(1, 0, 5)}},
		{"another old id than none, of the last ref", shard(), []impl.Update{update(3, 990, 5)}},
		{"another old id, the first of several", shard(), []impl.Update{update(0, 0, 5), update(1, -1, 5), update(2, -1, 5)}},
		{"another old id, one in the middle", shard(), []impl.Update{update(0, -1, 5), update(1, 0, 5), update(2, -1, 5)}},
		{"another old id, the last of several", shard(), []impl.Update{update(0, -1, 5), update(1, -1, 5), update(2, 0, 5)}},
		{"another old id of all refs", shard(), []impl.Update{update(0, 0, 5), update(1, 0, 5), update(2, 0, 5), update(3, 0, 5)}},
		{"an old id of before", middle(), updatesOf(0)},
		{"an old id of before, and one that fits", middle(), updatesOf(0, 3)},
		{"an old id of another ref", middle(), []impl.Update{update(3, 100, 5)}},
		{"an id of an update that is not performed", middle(), []impl.Update{update(1, 101, 5)}},
		{"a locked ref", middle(), updatesOf(1)},
		{"another locked ref", middle(), updatesOf(2)},
		{"two locked refs", middle(), updatesOf(1, 2)},
		{"a locked ref, the first of two", middle(), updatesOf(2, 3)},
		{"a locked ref, the last of two", middle(), []impl.Update{update(0, 100, 5), update(1, -1, 5)}},
		{"locked refs of all refs", middle(), append([]impl.Update{update(0, 100, 5)}, updatesOf(1, 2, 3)...)},
		{"a locked ref, with the id that it has", two, []impl.Update{update(0, 100, 5)}},
		{"a locked ref, with another old id", middle(), []impl.Update{update(1, 5, 6)}},
		{"a locked ref, with the id that it shall have", two, []impl.Update{update(0, 7, 5)}},
		{"a locked ref, and one with another old id", middle(), []impl.Update{update(1, -1, 6), update(3, 5, 6)}},
		{"one with another old id, and a locked ref", middle(), []impl.Update{update(0, -1, 6), update(1, -1, 6)}},
		{"the same updates as of another one", middle(), votedIn(middle(), 5)},
		{"refs of several other ones", with(middle(), prepareOf(9, updatesOf(3)...)), updatesOf(2, 3)},
	} {
		for _, txn := range []int{0, 4, 11} {
			after := with(test.s, abortOf(txn))
			checkShardPrepare(t, test.name, test.s, txn, test.list, after, false)
			checkShardAsk(t, test.name, after, txn, impl.StateAborted)
			checkRecover(t, test.name, after, refsIn(test.s), locksIn(test.s), true)
			// Once aborted, it stays so, also when the updates fit.
			checkShardPrepare(t, test.name, after, txn, []impl.Update{update(3, -1, 5)}, after, false)
		}
	}
}

// A transaction that is known gets the same answer, whatever its updates are.
func TestP97Known(t *testing.T) {
	lists := append(allUpdates(-1, 990), votedIn(middle(), 2), votedIn(middle(), 5), []impl.Update{update(0, 100, 5)}, []impl.Update{update(1, 101, 5)})
	for _, list := range lists {
		checkShardPrepare(t, "a prepared one", middle(), 5, list, middle(), true)
		checkShardPrepare(t, "a committed one", middle(), 2, list, middle(), false)
		checkShardPrepare(t, "an aborted one", middle(), 7, list, middle(), false)
		for txn := range 12 {
			checkShardPrepare(t, "a shard with all records", longShard(12), txn, list, longShard(12), false)
			last := shard(longShard(12).Records[:23]...)
			checkShardPrepare(t, "a shard with all transactions", last, txn, list, last, txn == 11)
		}
	}
	for name, s := range someShards() {
		for txn := range 12 {
			if state := stateIn(s, txn); state != 0 {
				checkShardPrepare(t, name, s, txn, updatesOf(3), s, state == 1)
				checkShardPrepare(t, name, s, txn, []impl.Update{update(0, 500, 501)}, s, state == 1)
			}
		}
	}
}

func TestP97KnownOrNot(t *testing.T) {
	eachAsk(t, 97, func(s impl.Shard, txn int, list []impl.Update) {
		state := impl.ShardAsk(s, txn)
		after, vote := impl.ShardPrepare(s, txn, list)
		if changed := !sameShard(after, s); changed != (state == impl.StateNone) || !changed && vote != (state == impl.StatePrepared) {
			t.Fatalf("ShardPrepare(%s, %d, %v) = %s, %t", shown(s), txn, list, shown(after), vote)
		}
	})
}

func TestP98Again(t *testing.T) {
	eachAsk(t, 98, func(s impl.Shard, txn int, list []impl.Update) {
		after, vote := impl.ShardPrepare(s, txn, list)
		checkShardPrepare(t, "the same again", after, txn, list, after, vote)
	})
}

// Others that are decided in between do not change the vote.
func TestP98AgainLater(t *testing.T) {
	eachAsk(t, 198, func(s impl.Shard, txn int, list []impl.Update) {
		after, vote := impl.ShardPrepare(s, txn, list)
		for other := range 12 {
			if other != txn {
				after, _ = impl.ShardDecide(after, other, other%2 == 0)
			}
		}
		checkShardPrepare(t, "the same again later", after, txn, list, after, vote)
	})
}

// All updates of some ids, with all locks of two transactions.
func TestP99IfAndOnlyIf(t *testing.T) {
	before := shard(prepareOf(9, update(1, -1, 0), update(2, -1, 990)), commitOf(9))
	lists := allUpdates(-1, 0, 990)
	for _, s := range []impl.Shard{
		shard(),
		before,
		with(before, prepareOf(0, update(0, -1, 5))),
		with(before, prepareOf(0, update(1, 0, 5), update(3, -1, 5))),
		with(with(before, prepareOf(0, update(0, -1, 0))), prepareOf(11, update(2, 990, -1))),
		with(before, prepareOf(0, update(0, -1, 5), update(1, 0, 5), update(2, 990, 5), update(3, -1, 5))),
	} {
		refs, locks := recovered(t, s)
		for _, list := range lists {
			_, fits := updated(refs, list)
			if fits && !anyLocked(locks, list) {
				checkShardPrepare(t, "updates that fit", s, 4, list, with(s, prepareOf(4, list...)), true)
			} else {
				checkShardPrepare(t, "updates that do not fit", s, 4, list, with(s, abortOf(4)), false)
			}
		}
	}
}

func TestP99AnyShard(t *testing.T) {
	eachAsk(t, 99, func(s impl.Shard, txn int, list []impl.Update) {
		if stateIn(s, txn) != 0 {
			return
		}
		refs, locks := recovered(t, s)
		_, fits := updated(refs, list)
		if _, vote := impl.ShardPrepare(s, txn, list); vote != (fits && !anyLocked(locks, list)) {
			t.Fatalf("ShardPrepare(%s, %d, %v) votes %t", shown(s), txn, list, vote)
		}
	})
}

func TestP99InvalidShards(t *testing.T) {
	for name, s := range brokenShards() {
		for txn := range 12 {
			checkShardPrepare(t, name, s, txn, updatesOf(3), impl.Shard{}, false)
		}
		checkShardPrepare(t, name, s, 5, updatesOf(1, 2), impl.Shard{}, false)
	}
}

func TestP99InvalidTransactions(t *testing.T) {
	for name, s := range someShards() {
		for _, txn := range wrongTxns() {
			for _, refs := range allRefSets() {
				checkShardPrepare(t, name, s, txn, updatesOf(refs...), impl.Shard{}, false)
			}
		}
	}
}

// The answer is that of invalid updates also for a transaction that is known.
func TestP99InvalidUpdates(t *testing.T) {
	for name, list := range brokenUpdates([]int{100, -1, -1, -1}) {
		for txn := range 12 {
			checkShardPrepare(t, name, shard(), txn, list, impl.Shard{}, false)
			checkShardPrepare(t, name, middle(), txn, list, impl.Shard{}, false)
			checkShardPrepare(t, name, longShard(12), txn, list, impl.Shard{}, false)
		}
	}
}

func TestP99SeveralInvalidArguments(t *testing.T) {
	broken := brokenUpdates([]int{-1, -1, -1, -1})
	for name, s := range brokenShards() {
		for _, txn := range wrongTxns() {
			checkShardPrepare(t, name, s, txn, updatesOf(3), impl.Shard{}, false)
			checkShardPrepare(t, name, s, txn, nil, impl.Shard{}, false)
		}
		for _, list := range [][]impl.Update{nil, {}, {{}}, updatesOf(4), updatesOf(3, 2), {update(3, 5, 5)}, {update(3, -1, 991)}} {
			checkShardPrepare(t, name, s, 5, list, impl.Shard{}, false)
		}
	}
	for name, list := range broken {
		for _, txn := range wrongTxns() {
			checkShardPrepare(t, name, middle(), txn, list, impl.Shard{}, false)
			checkShardPrepare(t, name, shard(commitOf(5)), txn, list, impl.Shard{}, false)
		}
	}
}

func TestP108OtherTransactions(t *testing.T) {
	eachAsk(t, 108, func(s impl.Shard, txn int, list []impl.Update) {
		before := statesAt(s)
		after, _ := impl.ShardPrepare(s, txn, list)
		if got := statesAt(after); !slices.Equal(before, statesIn(s)) || !slices.Equal(without(got, txn), without(before, txn)) {
			t.Fatalf("ShardPrepare(%s, %d, %v) leads from the states %v to %v", shown(s), txn, list, before, got)
		}
	})
}

func TestMemoryOfShardPrepare(t *testing.T) {
	lists := [][]impl.Update{nil, {}, updatesOf(4), updatesOf(2, 1), updatesOf(1), updatesOf(3), updatesOf(0, 1, 2, 3), {update(0, 100, 5), update(3, -1, 6)}}
	all := someShards()
	for name, s := range wrongLast() {
		if !slices.ContainsFunc(s.Records, func(r impl.Record) bool { return len(r.Updates) > 100 }) {
			all[name] = s
		}
	}
	for name, some := range all {
		for _, someUpdates := range lists {
			for _, txn := range []int{0, 4, 5, 11, -1, 12} {
				s, list := roomyShard(some), roomyUpdates(someUpdates)
				before := wholeShard(s) + wholeUpdates(list)
				one, _ := impl.ShardPrepare(s, txn, list)
				two, _ := impl.ShardPrepare(s, txn, list)
				checkApart(t, name, []any{s, list}, []any{one, two})
				if after := wholeShard(s) + wholeUpdates(list); after != before {
					t.Fatalf("ShardPrepare modified %s to %s", before, after)
				}
			}
		}
	}
}
