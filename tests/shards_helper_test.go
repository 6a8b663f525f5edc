package tests

import (
	"fmt"
	"math"
	"slices"
	"testing"

	"loop.example/atomicpush/impl"
)

func prepareOf(txn int, list ...impl.Update) impl.Record {
	return impl.Record{Kind: 1, Txn: txn, Updates: list}
}

func commitOf(txn int) impl.Record {
	return impl.Record{Kind: 2, Txn: txn}
}

func abortOf(txn int) impl.Record {
	return impl.Record{Kind: 3, Txn: txn}
}

func shard(records ...impl.Record) impl.Shard {
	return impl.Shard{Records: records}
}

// with returns a shard with one more record, in memory of its own.
func with(s impl.Shard, r impl.Record) impl.Shard {
	return shard(append(slices.Clone(s.Records), r)...)
}

// sameRecord compares records; updates that are nil and updates that are empty are the same.
func sameRecord(a impl.Record, b impl.Record) bool {
	return a.Kind == b.Kind && a.Txn == b.Txn && slices.Equal(a.Updates, b.Updates)
}

func sameShard(a impl.Shard, b impl.Shard) bool {
	return slices.EqualFunc(a.Records, b.Records, sameRecord)
}

// stateIn computes the state of a transaction: the kind of its last record.
func stateIn(s impl.Shard, txn int) int {
	state := 0
	for _, r := range s.Records {
		if r.Txn == txn {
			state = r.Kind
		}
	}
	return state
}

// votedIn returns the updates for which a shard has voted, and none if it has not voted for the transaction.
func votedIn(s impl.Shard, txn int) []impl.Update {
	for _, r := range s.Records {
		if r.Kind == 1 && r.Txn == txn {
			return r.Updates
		}
	}
	return nil
}

// committedIn computes the transactions that are committed, in the order of their records.
func committedIn(s impl.Shard) []int {
	result := []int{}
	for _, r := range s.Records {
		if r.Kind == 2 {
			result = append(result, r.Txn)
		}
	}
	return result
}

// refsIn computes the refs: in the order in which the transactions are committed, their updates set the new ids.
func refsIn(s impl.Shard) []int {
	refs := []int{-1, -1, -1, -1}
	for _, txn := range committedIn(s) {
		for _, u := range votedIn(s, txn) {
			refs[u.Ref] = u.New
		}
	}
	return refs
}

// locksIn computes the locks: those of the refs of all transactions that are prepared.
func locksIn(s impl.Shard) []int {
	locks := []int{-1, -1, -1, -1}
	for txn := range 12 {
		if stateIn(s, txn) != 1 {
			continue
		}
		for _, u := range votedIn(s, txn) {
			locks[u.Ref] = txn
		}
	}
	return locks
}

// statesIn returns the states of all transactions.
func statesIn(s impl.Shard) []int {
	result := []int{}
	for txn := range 12 {
		result = append(result, stateIn(s, txn))
	}
	return result
}

// follows tells as chapter 21 does whether a record of a transaction in range may follow on those of a valid shard.
func follows(s impl.Shard, r impl.Record) bool {
	state := stateIn(s, r.Txn)
	switch r.Kind {
	case 1:
		if state != 0 || !updatesRight(r.Updates) {
			return false
		}
		_, fits := updated(refsIn(s), r.Updates)
		return fits && !anyLocked(locksIn(s), r.Updates)
	case 2:
		return len(r.Updates) == 0 && state == 1
	case 3:
		return len(r.Updates) == 0 && (state == 0 || state == 1)
	}
	return false
}

// shardRight tells whether a shard is valid.
func shardRight(s impl.Shard) bool {
	for i, r := range s.Records {
		if r.Txn < 0 || r.Txn > 11 || !follows(shard(s.Records[:i]...), r) {
			return false
		}
	}
	return len(s.Records) <= 30
}

// asked computes what ShardPrepare gives for valid arguments, and why it answers so.
func asked(s impl.Shard, txn int, list []impl.Update) (impl.Shard, bool, string) {
	switch stateIn(s, txn) {
	case 1:
		return s, true, "prepared"
	case 2:
		return s, false, "committed"
	case 3:
		return s, false, "aborted"
	}
	_, fits := updated(refsIn(s), list)
	locked := anyLocked(locksIn(s), list)
	switch {
	case fits && !locked:
		return with(s, prepareOf(txn, list...)), true, "for it"
	case fits:
		return with(s, abortOf(txn)), false, "locked"
	case locked:
		return with(s, abortOf(txn)), false, "another old id and locked"
	}
	return with(s, abortOf(txn)), false, "another old id"
}

// decided computes what ShardDecide gives for valid arguments.
func decided(s impl.Shard, txn int, commit bool) (impl.Shard, bool) {
	state, r := stateIn(s, txn), abortOf(txn)
	if commit {
		r = commitOf(txn)
	}
	switch {
	case state == r.Kind:
		return s, true
	case state == 1 || state == 0 && !commit:
		return with(s, r), true
	}
	return s, false
}

// shard returns a valid shard with many records at most. Its transactions come in any order, and most of them fit.
func (n *numbers) shard(many int) impl.Shard {
	s := impl.Shard{}
	for attempts := 0; attempts < 6*many && len(s.Records) < many; attempts++ {
		txn := n.below(12)
		r := prepareOf(txn, n.updates(refsIn(s))...)
		if n.below(3) > 0 {
			r = impl.Record{Kind: 2 + n.below(5)/4, Txn: txn}
		}
		// An abort without a vote ahead of it uses up a transaction: most of them shall vote.
		if r.Kind == 3 && stateIn(s, txn) == 0 && n.below(4) > 0 {
			continue
		}
		if follows(s, r) {
			s = with(s, r)
		}
	}
	return s
}

// txnOf returns a transaction, often one that a shard knows.
func (n *numbers) txnOf(s impl.Shard) int {
	if len(s.Records) > 0 && n.below(2) == 0 {
		return s.Records[n.below(len(s.Records))].Txn
	}
	return n.below(12)
}

// updatesFor returns updates for a transaction: those of its vote, if there is one, or others.
func (n *numbers) updatesFor(s impl.Shard, txn int) []impl.Update {
	if list := votedIn(s, txn); len(list) > 0 && n.below(2) == 0 {
		return list
	}
	return n.updates(refsIn(s))
}

// eachShard calls check with many valid shards, of which some have no records and some have a record of each transaction.
func eachShard(t *testing.T, seed int, many int, check func(n *numbers, s impl.Shard)) {
	t.Helper()
	n := numbers(seed)
	longest, prepared, committed := 0, 0, 0
	for i := range many {
		s := n.shard(i % 25)
		longest = max(longest, len(s.Records))
		for txn := range 12 {
			switch stateIn(s, txn) {
			case 1:
				prepared++
			case 2:
				committed++
			}
		}
		check(&n, s)
	}
	if longest < 20 || prepared < many/2 || committed < many {
		t.Errorf("the longest of %d shards has %d records, %d transactions are prepared and %d committed", many, longest, prepared, committed)
	}
}

// eachAsk calls check with many valid arguments of ShardPrepare. It requires that each answer is given often enough.
func eachAsk(t *testing.T, seed int, check func(s impl.Shard, txn int, list []impl.Update)) {
	t.Helper()
	counts := map[string]int{}
	eachShard(t, seed, 4000, func(n *numbers, s impl.Shard) {
		txn := n.txnOf(s)
		list := n.updatesFor(s, txn)
		_, _, answer := asked(s, txn, list)
		counts[answer]++
		check(s, txn, list)
	})
	for _, answer := range []string{"prepared", "committed", "aborted", "for it", "locked", "another old id", "another old id and locked"} {
		if counts[answer] < 40 {
			t.Errorf("%q is the answer in only %d cases", answer, counts[answer])
		}
	}
}

// eachDecision calls check with many valid arguments of ShardDecide. It requires that each state is met often enough.
func eachDecision(t *testing.T, seed int, check func(s impl.Shard, txn int, commit bool)) {
	t.Helper()
	counts := [4]int{}
	eachShard(t, seed, 3000, func(n *numbers, s impl.Shard) {
		txn := n.txnOf(s)
		counts[stateIn(s, txn)]++
		check(s, txn, true)
		check(s, txn, false)
	})
	for state, count := range counts {
		if count < 200 {
			t.Errorf("the state is %d in only %d cases", state, count)
		}
	}
}

// middle returns a valid shard: transaction 2 is committed, 5 is prepared, 7 is aborted, and others are not known.
// Its refs are 100, -1, -1 and -1, and its locks -1, 5, 5 and -1.
func middle() impl.Shard {
	return shard(prepareOf(2, updatesOf(0)...), commitOf(2), prepareOf(5, updatesOf(1, 2)...), abortOf(7))
}

// longShard returns a valid shard with two records for each of the first transactions: each one is prepared, and then committed or aborted.
func longShard(txns int) impl.Shard {
	s := impl.Shard{}
	for txn := range txns {
		s = with(s, prepareOf(txn, update(txn%4, refsIn(s)[txn%4], 200+txn)))
		if txn%3 == 2 {
			s = with(s, abortOf(txn))
		} else {
			s = with(s, commitOf(txn))
		}
	}
	return s
}

// someShards returns valid shards: without records, with few and with all that there can be.
func someShards() map[string]impl.Shard {
	return map[string]impl.Shard{
		"no records":                     {},
		"an empty slice":                 {Records: []impl.Record{}},
		"one vote":                       shard(prepareOf(5, updatesOf(1, 2)...)),
		"the first transaction":          shard(prepareOf(0, updatesOf(0)...)),
		"the last transaction":           shard(prepareOf(11, updatesOf(3)...)),
		"a vote for all refs":            shard(prepareOf(5, updatesOf(0, 1, 2, 3)...)),
		"a commit":                       shard(prepareOf(5, updatesOf(1, 2)...), commitOf(5)),
		"an abort":                       shard(prepareOf(5, updatesOf(1, 2)...), abortOf(5)),
		"an abort without a vote":        shard(abortOf(5)),
		"empty updates of an abort":      shard(impl.Record{Kind: 3, Txn: 5, Updates: []impl.Update{}}),
		"empty updates of a commit":      shard(prepareOf(5, updatesOf(1)...), impl.Record{Kind: 2, Txn: 5, Updates: []impl.Update{}}),
		"several votes":                  shard(prepareOf(11, updatesOf(3)...), prepareOf(0, updatesOf(0)...), prepareOf(5, updatesOf(1, 2)...)),
		"all kinds":                      middle(),
		"commits in another order":       shard(prepareOf(9, updatesOf(0)...), prepareOf(4, updatesOf(1)...), commitOf(4), commitOf(9)),
		"a lock that another one had":    shard(prepareOf(5, updatesOf(1, 2)...), abortOf(5), prepareOf(4, updatesOf(2, 3)...)),
		"an id that another one set":     shard(prepareOf(5, updatesOf(1)...), commitOf(5), prepareOf(4, update(1, 101, -1)), commitOf(4), prepareOf(0, update(1, -1, 990))),
		"aborts of all transactions":     shard(abortOf(3), abortOf(0), abortOf(11), abortOf(1), abortOf(2), abortOf(4), abortOf(10), abortOf(9), abortOf(8), abortOf(7), abortOf(6), abortOf(5)),
		"two records of all but one":     longShard(11),
		"all records that there can be":  longShard(12),
		"all records but the last one":   shard(longShard(12).Records[:23]...),
		"all records but the last three": shard(longShard(12).Records[:21]...),
	}
}

// wrongKinds are numbers that no kind of a record has.
func wrongKinds() []int {
	return []int{0, -1, -2, -3, 4, 5, 6, 257, 258, 259, 1<<32 + 1, 1<<32 + 2, 1<<32 + 3, math.MinInt, math.MinInt + 2, math.MaxInt}
}

// wrongAlone returns records that follow on nothing. But for one thing, each could follow on any that do not have transaction 3 and ref 3.
func wrongAlone() map[string]impl.Record {
	result := map[string]impl.Record{
		"the zero value":                        {},
		"the zero value of another transaction": {Txn: 3},
		"a vote without updates":                prepareOf(3),
		"a vote with empty updates":             {Kind: 1, Txn: 3, Updates: []impl.Update{}},
		"an abort with updates":                 {Kind: 3, Txn: 3, Updates: updatesOf(3)},
		"an abort with invalid updates":         {Kind: 3, Txn: 3, Updates: []impl.Update{{}}},
		"another old id":                        prepareOf(3, update(3, 0, 5)),
		"another old id, the greatest":          prepareOf(3, update(3, 990, 5)),
		"another old id and an invalid kind":    {Kind: 4, Txn: 3, Updates: []impl.Update{update(3, 0, 5)}},
	}
	for _, kind := range wrongKinds() {
		result[fmt.Sprintf("the kind %d", kind)] = impl.Record{Kind: kind, Txn: 3}
		result[fmt.Sprintf("the kind %d with updates", kind)] = impl.Record{Kind: kind, Txn: 3, Updates: updatesOf(3)}
	}
	for _, txn := range wrongTxns() {
		result[fmt.Sprintf("a vote of %d", txn)] = prepareOf(txn, updatesOf(3)...)
		result[fmt.Sprintf("a commit of %d", txn)] = commitOf(txn)
		result[fmt.Sprintf("an abort of %d", txn)] = abortOf(txn)
		result[fmt.Sprintf("%d with the kind 0", txn)] = impl.Record{Kind: 0, Txn: txn}
		result[fmt.Sprintf("a vote of %d without updates", txn)] = prepareOf(txn)
	}
	for name, list := range brokenUpdates([]int{-1, -1, -1, -1}) {
		result[name+" as a vote"] = prepareOf(3, list...)
	}
	return result
}

// wrongLast returns shards that are valid but for the last record.
func wrongLast() map[string]impl.Shard {
	result := map[string]impl.Shard{
		"a commit at first":                    shard(commitOf(5)),
		"a commit with updates at first":       shard(impl.Record{Kind: 2, Txn: 5, Updates: updatesOf(1)}),
		"a commit of a transaction not known":  with(middle(), commitOf(3)),
		"a commit of one after an abort":       with(middle(), commitOf(7)),
		"a commit of one after a commit":       with(middle(), commitOf(2)),
		"an abort of one after a commit":       with(middle(), abortOf(2)),
		"an abort of one after an abort":       with(middle(), abortOf(7)),
		"a vote after a vote":                  with(middle(), prepareOf(5, updatesOf(3)...)),
		"the same vote after a vote":           with(middle(), prepareOf(5, updatesOf(1, 2)...)),
		"a vote after a commit":                with(middle(), prepareOf(2, updatesOf(3)...)),
		"a vote after an abort":                with(middle(), prepareOf(7, updatesOf(3)...)),
		"a commit with updates":                with(middle(), impl.Record{Kind: 2, Txn: 5, Updates: updatesOf(1, 2)}),
		"a commit with other updates":          with(middle(), impl.Record{Kind: 2, Txn: 5, Updates: updatesOf(3)}),
		"a commit with invalid updates":        with(middle(), impl.Record{Kind: 2, Txn: 5, Updates: []impl.Update{{}}}),
		"an abort with updates":                with(middle(), impl.Record{Kind: 3, Txn: 5, Updates: updatesOf(1, 2)}),
		"a locked ref":                         with(middle(), prepareOf(3, updatesOf(1)...)),
		"another locked ref":                   with(middle(), prepareOf(3, updatesOf(2)...)),
		"a locked ref, the first of two":       with(middle(), prepareOf(3, updatesOf(2, 3)...)),
		"a locked ref, the last of two":        with(middle(), prepareOf(3, update(0, 100, 5), update(1, -1, 5))),
		"a locked ref with the id that is due": with(middle(), prepareOf(3, update(1, 101, 5))),
		"a locked ref with another old id":     with(middle(), prepareOf(3, update(1, 0, 5))),
		"an old id that was changed":           with(middle(), prepareOf(3, updatesOf(0)...)),
		"another old id, the first of two":     with(middle(), prepareOf(3, update(0, 99, 5), update(3, -1, 5))),
		"another old id, the last of two":      with(middle(), prepareOf(3, update(0, 100, 5), update(3, 0, 5))),
		"a lock of one that aborted at first":  shard(abortOf(4), prepareOf(4, updatesOf(0)...)),
		"a commit of one that aborted first":   shard(abortOf(4), commitOf(4)),
		"a new id of one that is aborted":      shard(prepareOf(4, updatesOf(0)...), abortOf(4), prepareOf(3, update(0, 100, 5))),
		"two aborts without a vote":            shard(abortOf(4), abortOf(4)),
		"a commit, then an abort":              shard(prepareOf(4, updatesOf(0)...), commitOf(4), abortOf(4)),
		"an abort, then a commit":              shard(prepareOf(4, updatesOf(0)...), abortOf(4), commitOf(4)),
		"a commit twice":                       shard(prepareOf(0, updatesOf(0)...), commitOf(0), commitOf(0)),
		"all refs, of which one is locked":     shard(prepareOf(11, updatesOf(2)...), prepareOf(0, updatesOf(0, 1, 2, 3)...)),
		"one more than there can be":           with(longShard(12), abortOf(5)),
		"one more than there can be, a commit": with(longShard(12), commitOf(11)),
		"one more than there can be, a vote":   with(longShard(12), prepareOf(11, update(3, refsIn(longShard(12))[3], 5))),
	}
	for _, kind := range wrongKinds() {
		result[fmt.Sprintf("the kind %d after a vote", kind)] = with(middle(), impl.Record{Kind: kind, Txn: 5})
		result[fmt.Sprintf("the kind %d with the updates of a vote", kind)] = with(middle(), impl.Record{Kind: kind, Txn: 5, Updates: updatesOf(1, 2)})
	}
	for name, r := range wrongAlone() {
		result[name+", alone"] = shard(r)
		result[name+", as the last one"] = with(middle(), r)
	}
	return result
}

// brokenShards returns shards that are invalid, each for another reason.
func brokenShards() map[string]impl.Shard {
	result := wrongLast()
	for name, s := range wrongLast() {
		result[name+", in the middle"] = with(s, abortOf(9))
	}
	for name, r := range wrongAlone() {
		result[name+", at first"] = shard(append([]impl.Record{r}, middle().Records...)...)
		result[name+", after two"] = shard(slices.Insert(middle().Records, 2, r)...)
	}
	for _, many := range []int{25, 28, 29, 30, 31, 32, 60, 10000} {
		result[fmt.Sprintf("%d records", many)] = shard(slices.Repeat([]impl.Record{abortOf(5)}, many)...)
		result[fmt.Sprintf("%d records, most of them right", many)] = shard(append(longShard(12).Records, slices.Repeat([]impl.Record{commitOf(9)}, many-24)...)...)
	}
	return result
}

// checkShardValid fails if ShardValid gives another answer.
func checkShardValid(t *testing.T, name string, s impl.Shard, want bool) {
	t.Helper()
	if got := impl.ShardValid(s); got != want {
		t.Fatalf("%s: ShardValid(%s) = %t", name, shown(s), got)
	}
}

// checkRecover fails if ShardRecover does not give the refs and locks.
func checkRecover(t *testing.T, name string, s impl.Shard, refs []int, locks []int, ok bool) {
	t.Helper()
	if got, done := impl.ShardRecover(s); !slices.Equal(got.Refs, refs) || !slices.Equal(got.Locks, locks) || done != ok {
		t.Fatalf("%s: ShardRecover(%s) = %v, %t, not %v, %v, %t", name, shown(s), got, done, refs, locks, ok)
	}
}

// checkShardAsk fails if ShardAsk gives another state.
func checkShardAsk(t *testing.T, name string, s impl.Shard, txn int, want int) {
	t.Helper()
	if got := impl.ShardAsk(s, txn); got != want {
		t.Fatalf("%s: ShardAsk(%s, %d) = %d, not %d", name, shown(s), txn, got, want)
	}
}

// checkShardPrepare fails if ShardPrepare does not give the shard and the vote.
func checkShardPrepare(t *testing.T, name string, s impl.Shard, txn int, list []impl.Update, want impl.Shard, vote bool) {
	t.Helper()
	if got, yes := impl.ShardPrepare(s, txn, list); !sameShard(got, want) || yes != vote {
		t.Fatalf("%s: ShardPrepare(%s, %d, %s) = %s, %t, not %s, %t", name, shown(s), txn, shown(list), shown(got), yes, shown(want), vote)
	}
}

// checkShardDecide fails if ShardDecide does not give the shard.
func checkShardDecide(t *testing.T, name string, s impl.Shard, txn int, commit bool, want impl.Shard, ok bool) {
	t.Helper()
	if got, done := impl.ShardDecide(s, txn, commit); !sameShard(got, want) || done != ok {
		t.Fatalf("%s: ShardDecide(%s, %d, %t) = %s, %t, not %s, %t", name, shown(s), txn, commit, shown(got), done, shown(want), ok)
	}
}

// checkShardCommitted fails if ShardCommitted does not give the transactions.
func checkShardCommitted(t *testing.T, name string, s impl.Shard, want []int) {
	t.Helper()
	if got := impl.ShardCommitted(s); !slices.Equal(got, want) {
		t.Fatalf("%s: ShardCommitted(%s) = %v, not %v", name, shown(s), got, want)
	}
}

// statesAt asks a shard for the states of all transactions.
func statesAt(s impl.Shard) []int {
	result := []int{}
	for txn := range 12 {
		result = append(result, impl.ShardAsk(s, txn))
	}
	return result
}

// recovered returns the refs and locks that ShardRecover gives, and fails if it gives none.
func recovered(t *testing.T, s impl.Shard) ([]int, []int) {
	t.Helper()
	state, ok := impl.ShardRecover(s)
	if !ok || !impl.RefsValid(state.Refs) || !impl.LocksValid(state.Locks) {
		t.Fatalf("ShardRecover(%s) = %v, %t", shown(s), state, ok)
	}
	return state.Refs, state.Locks
}

// roomyShard returns the shard in slices with space behind them.
func roomyShard(s impl.Shard) impl.Shard {
	records := make([]impl.Record, 0, len(s.Records)+3)
	for _, r := range append(slices.Clone(s.Records), abortOf(8), prepareOf(-77, update(-77, -78, -79))) {
		records = append(records, impl.Record{Kind: r.Kind, Txn: r.Txn, Updates: roomyUpdates(r.Updates)})
	}
	return shard(records[:len(s.Records)]...)
}

// wholeShard describes all memory of a shard, also the space behind its slices.
func wholeShard(s impl.Shard) string {
	result := fmt.Sprint(s.Records == nil, len(s.Records))
	for _, r := range s.Records[:cap(s.Records)] {
		result += fmt.Sprintf(" %d %d %s", r.Kind, r.Txn, wholeUpdates(r.Updates))
	}
	return result
}
