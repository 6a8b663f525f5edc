package tests

import (
	"fmt"
	"math"
	"slices"
	"testing"

	"loop.example/atomicpush/impl"
)

func partFor(shard int, list ...impl.Update) impl.Part {
	return impl.Part{Shard: shard, Updates: list}
}

// partsAt returns parts of some shards. The ids tell which transaction and which shard they are of.
func partsAt(txn int, shards ...int) []impl.Part {
	result := []impl.Part{}
	for _, shard := range shards {
		id := 100 + (10*txn+shard)%300
		list := []impl.Update{update(txn%4, -1, id)}
		if txn%4 < 3 {
			list = append(list, update(3, 990, id+500))
		}
		result = append(result, partFor(shard, list...))
	}
	return result
}

func txnOf(decision int, votes []int, parts ...impl.Part) impl.Txn {
	return impl.Txn{Parts: parts, Votes: votes, Decision: decision}
}

// ordered returns a coordinator with committed transactions in the given order.
func ordered(order []int, txns ...impl.Txn) impl.Coordinator {
	return impl.Coordinator{Txns: txns, Order: order}
}

// coordinator returns a coordinator with committed transactions in the order of their numbers.
func coordinator(txns ...impl.Txn) impl.Coordinator {
	return ordered(committedOf(txns), txns...)
}

// committedOf returns the numbers of committed transactions, ascending.
func committedOf(txns []impl.Txn) []int {
	result := []int{}
	for txn, t := range txns {
		if t.Decision == 2 {
			result = append(result, txn)
		}
	}
	return result
}

func samePart(a impl.Part, b impl.Part) bool {
	return a.Shard == b.Shard && slices.Equal(a.Updates, b.Updates)
}

// sameTxn compares transactions; slices that are nil and slices that are empty are the same.
func sameTxn(a impl.Txn, b impl.Txn) bool {
	return slices.EqualFunc(a.Parts, b.Parts, samePart) && slices.Equal(a.Votes, b.Votes) && a.Decision == b.Decision
}

func sameTxns(a []impl.Txn, b []impl.Txn) bool {
	return slices.EqualFunc(a, b, sameTxn)
}

func sameCoordinator(a impl.Coordinator, b impl.Coordinator) bool {
	return sameTxns(a.Txns, b.Txns) && slices.Equal(a.Order, b.Order)
}

// partsRight tells as chapter 22 does whether parts are valid.
func partsRight(parts []impl.Part) bool {
	for i, p := range parts {
		if p.Shard < 0 || p.Shard > 2 || !updatesRight(p.Updates) || i > 0 && parts[i-1].Shard >= p.Shard {
			return false
		}
	}
	return len(parts) > 0
}

// votesOf returns how many votes of a kind there are.
func votesOf(votes []int, kind int) int {
	count := 0
	for _, vote := range votes {
		if vote == kind {
			count++
		}
	}
	return count
}

// txnRight tells as chapter 22 does whether a transaction is valid.
func txnRight(t impl.Txn) bool {
	all, yes, no, missing := len(t.Votes), votesOf(t.Votes, 1), votesOf(t.Votes, -1), votesOf(t.Votes, 0)
	if !partsRight(t.Parts) || all != len(t.Parts) || yes+no+missing != all {
		return false
	}
	switch t.Decision {
	case 2:
		return yes == all
	case 3:
		return yes != all
	case 0:
		return no == 0 && missing > 0
	}
	return false
}

// coordinatorRight tells as chapter 22 does whether a coordinator is valid.
func coordinatorRight(c impl.Coordinator) bool {
	for _, t := range c.Txns {
		if !txnRight(t) {
			return false
		}
	}
	return len(c.Txns) <= 12 && slices.Equal(slices.Sorted(slices.Values(c.Order)), committedOf(c.Txns))
}

// existsIn tells whether there is a transaction with a number.
func existsIn(c impl.Coordinator, txn int) bool {
	return txn >= 0 && txn < len(c.Txns)
}

// placeOf returns the index of the part of a shard, or -1.
func placeOf(t impl.Txn, shard int) int {
	return slices.IndexFunc(t.Parts, func(p impl.Part) bool { return p.Shard == shard })
}

// begun computes what CoordinatorBegin gives for valid arguments.
func begun(c impl.Coordinator, parts []impl.Part) (impl.Coordinator, bool) {
	if len(c.Txns) == 12 {
		return c, false
	}
	return ordered(c.Order, append(slices.Clone(c.Txns), txnOf(0, make([]int, len(parts)), parts...))...), true
}

// votedOn computes what CoordinatorVote gives for a valid coordinator, and why. The reasons of failures begin with "no".
func votedOn(c impl.Coordinator, txn int, shard int, yes bool) (impl.Coordinator, bool, string) {
	if !existsIn(c, txn) {
		return c, false, "no such transaction"
	}
	t := c.Txns[txn]
	place := placeOf(t, shard)
	switch {
	case place == -1:
		return c, false, "no such part"
	case t.Decision == 2:
		return c, false, "no, it is committed"
	case t.Decision == 3 && t.Votes[place] != 0:
		return c, false, "no, it is aborted and has the vote"
	case t.Decision == 3:
		return c, false, "no, it is aborted"
	case t.Votes[place] != 0:
		return c, false, "no, it has the vote"
	case !yes:
		after := txnOf(3, changed(t.Votes, place, -1), t.Parts...)
		return ordered(c.Order, changed(c.Txns, txn, after)...), true, "against it"
	case votesOf(t.Votes, 0) == 1:
		after := txnOf(2, changed(t.Votes, place, 1), t.Parts...)
		return ordered(append(slices.Clone(c.Order), txn), changed(c.Txns, txn, after)...), true, "for it, the last one"
	}
	after := txnOf(0, changed(t.Votes, place, 1), t.Parts...)
	return ordered(c.Order, changed(c.Txns, txn, after)...), true, "for it"
}

// timedOut computes what CoordinatorTimeout gives for a valid coordinator, and why.
func timedOut(c impl.Coordinator, txn int) (impl.Coordinator, bool, string) {
	if !existsIn(c, txn) {
		return c, false, "no such transaction"
	}
	t := c.Txns[txn]
	switch {
	case t.Decision == 2:
		return c, false, "no, it is committed"
	case t.Decision == 3:
		return c, false, "no, it is aborted"
	}
	after := ordered(c.Order, changed(c.Txns, txn, txnOf(3, t.Votes, t.Parts...))...)
	if votesOf(t.Votes, 1) == 0 {
		return after, true, "before any vote"
	}
	return after, true, "after a vote"
}

// waitedIn computes the shards whose votes are missing.
func waitedIn(c impl.Coordinator, txn int) []int {
	result := []int{}
	if existsIn(c, txn) && c.Txns[txn].Decision == 0 {
		for i, p := range c.Txns[txn].Parts {
			if c.Txns[txn].Votes[i] == 0 {
				result = append(result, p.Shard)
			}
		}
	}
	return result
}

// refsAfter computes the refs of a shard after the first transactions of the order: the last one that sets a ref counts.
func refsAfter(c impl.Coordinator, shard int, many int) []int {
	refs := []int{-1, -1, -1, -1}
	for ref := range refs {
		for i := 0; i < many; i++ {
			for _, p := range c.Txns[c.Order[i]].Parts {
				for _, u := range p.Updates {
					if p.Shard == shard && u.Ref == ref {
						refs[ref] = u.New
					}
				}
			}
		}
	}
	return refs
}

// shuffled returns the numbers of a list in any order.
func (n *numbers) shuffled(list []int) []int {
	result := slices.Clone(list)
	for i := range result {
		j := i + n.below(len(result)-i)
		result[i], result[j] = result[j], result[i]
	}
	return result
}

// parts returns valid parts of any shards.
func (n *numbers) parts() []impl.Part {
	result := []impl.Part{}
	set := 1 + n.below(7)
	for shard := range 3 {
		if set>>shard&1 == 1 {
			result = append(result, partFor(shard, n.updates(n.refs())...))
		}
	}
	return result
}

// txn returns a valid transaction with any decision, and with any votes that are right for it.
func (n *numbers) txn() impl.Txn {
	parts := n.parts()
	decision := []int{0, 0, 2, 3}[n.below(4)]
	for {
		votes := []int{}
		for range parts {
			votes = append(votes, n.below(3)-1)
		}
		if t := txnOf(decision, votes, parts...); txnRight(t) {
			return t
		}
	}
}

// coordinator returns a valid coordinator with many transactions, of which the committed ones are in any order.
func (n *numbers) coordinator(many int) impl.Coordinator {
	txns := []impl.Txn{}
	for range many {
		txns = append(txns, n.txn())
	}
	return ordered(n.shuffled(committedOf(txns)), txns...)
}

// txnIn returns the number of a transaction, mostly of one that exists.
func (n *numbers) txnIn(c impl.Coordinator) int {
	if len(c.Txns) == 0 || n.below(8) == 0 {
		return n.below(16) - 2
	}
	return n.below(len(c.Txns))
}

// eachCoordinator calls check with many valid coordinators, of which some have no transactions and some have as many as there can be.
func eachCoordinator(t *testing.T, seed int, many int, check func(n *numbers, c impl.Coordinator)) {
	t.Helper()
	n := numbers(seed)
	decisions, full := [4]int{}, 0
	for i := range many {
		c := n.coordinator(i % 13)
		for _, txn := range c.Txns {
			decisions[txn.Decision]++
		}
		if len(c.Txns) == 12 {
			full++
		}
		check(&n, c)
	}
	if decisions[0] < many/2 || decisions[2] < many/2 || decisions[3] < many/2 || full < many/20 {
		t.Errorf("%d coordinators have transactions with the decisions %v, and %d have as many as there can be", many, decisions, full)
	}
}

// eachBallot calls check with many valid coordinators and votes. It requires that each answer is given often enough.
func eachBallot(t *testing.T, seed int, check func(c impl.Coordinator, txn int, shard int, yes bool)) {
	t.Helper()
	counts := map[string]int{}
	eachCoordinator(t, seed, 4000, func(n *numbers, c impl.Coordinator) {
		txn, shard, yes := n.txnIn(c), n.below(3), n.below(3) > 0
		if n.below(10) == 0 {
			shard = n.below(8) - 3
		}
		_, _, answer := votedOn(c, txn, shard, yes)
		counts[answer]++
		check(c, txn, shard, yes)
	})
	for _, answer := range []string{"no such transaction", "no such part", "no, it is committed", "no, it is aborted and has the vote", "no, it is aborted", "no, it has the vote", "against it", "for it, the last one", "for it"} {
		if counts[answer] < 60 {
			t.Errorf("%q is the answer in only %d cases", answer, counts[answer])
		}
	}
}

// eachTimeout calls check with many valid coordinators and transactions. It requires that each answer is given often enough.
func eachTimeout(t *testing.T, seed int, check func(c impl.Coordinator, txn int)) {
	t.Helper()
	counts := map[string]int{}
	eachCoordinator(t, seed, 3000, func(n *numbers, c impl.Coordinator) {
		txn := n.txnIn(c)
		_, _, answer := timedOut(c, txn)
		counts[answer]++
		check(c, txn)
	})
	for _, answer := range []string{"no such transaction", "no, it is committed", "no, it is aborted", "before any vote", "after a vote"} {
		if counts[answer] < 60 {
			t.Errorf("%q is the answer in only %d cases", answer, counts[answer])
		}
	}
}

// mixed returns a valid coordinator with transactions of all kinds, of which 6, 0 and 3 are committed in this order.
func mixed() impl.Coordinator {
	return ordered([]int{6, 0, 3},
		txnOf(2, []int{1, 1}, partsAt(0, 0, 2)...),
		txnOf(0, []int{1, 0, 0}, partsAt(1, 0, 1, 2)...),
		txnOf(3, []int{0, -1}, partsAt(2, 1, 2)...),
		txnOf(2, []int{1}, partsAt(3, 1)...),
		txnOf(3, []int{1, 0, 1}, partsAt(4, 0, 1, 2)...),
		txnOf(0, []int{0}, partsAt(5, 2)...),
		txnOf(2, []int{1, 1, 1}, partsAt(6, 0, 1, 2)...),
		txnOf(0, []int{0, 1}, partsAt(7, 0, 1)...),
		txnOf(3, []int{-1, -1, -1}, partsAt(8, 0, 1, 2)...),
	)
}

// manyTxns returns transactions of all kinds.
func manyTxns(many int) []impl.Txn {
	result := []impl.Txn{}
	for txn := range many {
		kinds := []impl.Txn{
			txnOf(2, []int{1, 1}, partsAt(txn, 1, 2)...),
			txnOf(0, []int{0, 1, 0}, partsAt(txn, 0, 1, 2)...),
			txnOf(3, []int{-1}, partsAt(txn, 0)...),
			txnOf(0, []int{0}, partsAt(txn, txn%3)...),
			txnOf(3, []int{0, 0}, partsAt(txn, 0, 2)...),
		}
		result = append(result, kinds[txn%5])
	}
	return result
}

// committedTxns returns transactions that all are committed.
func committedTxns(many int) []impl.Txn {
	result := []impl.Txn{}
	for txn := range many {
		result = append(result, txnOf(2, []int{1}, partsAt(txn, txn%3)...))
	}
	return result
}

// someCoordinators returns valid coordinators: without transactions, with few and with as many as there can be.
func someCoordinators() map[string]impl.Coordinator {
	return map[string]impl.Coordinator{
		"no transactions":                    {},
		"empty slices":                       {Txns: []impl.Txn{}, Order: []int{}},
		"one without votes":                  coordinator(txnOf(0, []int{0, 0}, partsAt(0, 0, 2)...)),
		"one with a part, without votes":     coordinator(txnOf(0, []int{0}, partsAt(0, 1)...)),
		"one with a vote":                    coordinator(txnOf(0, []int{0, 1}, partsAt(0, 1, 2)...)),
		"one that is committed":              coordinator(txnOf(2, []int{1}, partsAt(0, 2)...)),
		"one that is committed everywhere":   coordinator(txnOf(2, []int{1, 1, 1}, partsAt(0, 0, 1, 2)...)),
		"one that is aborted by a vote":      coordinator(txnOf(3, []int{1, -1, 0}, partsAt(0, 0, 1, 2)...)),
		"one that is aborted by a timeout":   coordinator(txnOf(3, []int{1, 1, 0}, partsAt(0, 0, 1, 2)...)),
		"one that is aborted without votes":  coordinator(txnOf(3, []int{0}, partsAt(0, 0)...)),
		"one that all votes are against":     coordinator(txnOf(3, []int{-1, -1}, partsAt(0, 0, 1)...)),
		"all kinds":                          mixed(),
		"another order":                      ordered([]int{2, 0, 1}, committedTxns(3)...),
		"committed ones around others":       ordered([]int{2, 0}, committedTxns(1)[0], txnOf(0, []int{0}, partsAt(1, 1)...), txnOf(2, []int{1}, partsAt(2, 1)...)),
		"as many as there can be":            coordinator(manyTxns(12)...),
		"one less than there can be":         coordinator(manyTxns(11)...),
		"all are committed":                  coordinator(committedTxns(12)...),
		"all are committed, the last first":  ordered([]int{11, 10, 9, 8, 7, 6, 5, 4, 3, 2, 1, 0}, committedTxns(12)...),
		"all but the last one are committed": coordinator(append(committedTxns(11), txnOf(0, []int{0, 1}, partsAt(11, 0, 1)...))...),
	}
}

// wrongShards are numbers that no shard has.
func wrongShards() []int {
	return []int{-1, -2, -3, 3, 4, 6, 12, 1 << 32, 1<<32 + 1, math.MinInt, math.MinInt + 1, math.MaxInt}
}

// wrongVotes are numbers that no vote has.
func wrongVotes() []int {
	return []int{-2, -3, 2, 3, 255, 256, 257, 1 << 32, 1<<32 + 1, 1<<32 - 1, math.MinInt, math.MinInt + 1, math.MaxInt}
}

// wrongDecisions are numbers that no decision has.
func wrongDecisions() []int {
	return []int{1, -1, -2, -3, 4, 5, 256, 258, 259, 1 << 32, 1<<32 + 2, 1<<32 + 3, math.MinInt, math.MinInt + 2, math.MaxInt}
}

// brokenParts returns parts that are invalid, each for another reason.
func brokenParts() map[string][]impl.Part {
	all := partsAt(1, 0, 1, 2)
	result := map[string][]impl.Part{
		"no parts":                     nil,
		"an empty slice":               {},
		"the zero value":               {{}},
		"descending":                   {all[2], all[1], all[0]},
		"two that are descending":      {all[1], all[0]},
		"the last ones descending":     {all[0], all[2], all[1]},
		"the first ones descending":    {all[1], all[0], all[2]},
		"a shard twice, not in a row":  {all[0], all[1], all[0]},
		"all shards twice":             slices.Concat(all, all),
		"all shards, and one too many": append(slices.Clone(all), partFor(3, updatesOf(1)...)),
		"a shard -1 ahead of all":      append([]impl.Part{partFor(-1, updatesOf(1)...)}, all...),
		"many parts":                   slices.Repeat(all, 10000),
		"many parts of one shard":      slices.Repeat(all[:1], 10000),
		"wrong shards and updates":     {partFor(-1), partFor(3)},
		"a wrong order and updates":    {all[1], partFor(0)},
	}
	for i, p := range all {
		result[fmt.Sprintf("part %d twice", i)] = slices.Insert(slices.Clone(all), i, p)
		result[fmt.Sprintf("part %d alone twice", i)] = []impl.Part{p, p}
		result[fmt.Sprintf("shard %d twice with other refs", i)] = []impl.Part{partFor(i, updatesOf(0)...), partFor(i, updatesOf(2)...)}
		for _, shard := range wrongShards() {
			result[fmt.Sprintf("part %d of shard %d", i, shard)] = changed(all, i, partFor(shard, p.Updates...))
			result[fmt.Sprintf("part %d alone of shard %d", i, shard)] = []impl.Part{partFor(shard, p.Updates...)}
		}
		for name, list := range brokenUpdates([]int{-1, 0, 500, 990}) {
			if len(list) < 100 {
				result[fmt.Sprintf("%s in part %d", name, i)] = changed(all, i, partFor(i, list...))
				result[fmt.Sprintf("%s in part %d alone", name, i)] = []impl.Part{partFor(i, list...)}
			}
		}
	}
	return result
}

// brokenTxns returns transactions that are invalid, each for another reason.
func brokenTxns() map[string]impl.Txn {
	parts := partsAt(1, 0, 1, 2)
	result := map[string]impl.Txn{
		"the zero value":             {},
		"the zero value, committed":  {Decision: 2},
		"the zero value, aborted":    {Decision: 3},
		"votes without parts":        txnOf(0, []int{0}),
		"no votes, committed":        txnOf(2, nil, parts...),
		"no votes, not decided":      txnOf(0, nil, parts...),
		"no votes, aborted":          txnOf(3, nil, parts...),
		"a vote less, committed":     txnOf(2, []int{1, 1}, parts...),
		"a vote less, not decided":   txnOf(0, []int{0, 0}, parts...),
		"a vote less, aborted":       txnOf(3, []int{-1, 0}, parts...),
		"a vote more, committed":     txnOf(2, []int{1, 1, 1, 1}, parts...),
		"a vote more, not decided":   txnOf(0, []int{0, 0, 0, 0}, parts...),
		"a vote more, aborted":       txnOf(3, []int{-1, 0, 0, 0}, parts...),
		"many votes":                 txnOf(0, make([]int, 100000), parts...),
		"many votes, committed":      txnOf(2, slices.Repeat([]int{1}, 100000), parts...),
		"one more vote than one":     txnOf(2, []int{1, 1}, parts[1]),
		"a missing vote, one part":   txnOf(2, []int{0}, parts[2]),
		"a vote against, one part":   txnOf(2, []int{-1}, parts[2]),
		"not decided after a vote":   txnOf(0, []int{1}, parts[0]),
		"not decided after a no":     txnOf(0, []int{-1}, parts[0]),
		"not decided after all":      txnOf(0, []int{1, 1, 1}, parts...),
		"aborted after all":          txnOf(3, []int{1, 1, 1}, parts...),
		"aborted after one":          txnOf(3, []int{1}, parts[1]),
		"aborted after two":          txnOf(3, []int{1, 1}, parts[:2]...),
		"all wrong":                  txnOf(7, []int{9, 9}, partFor(5)),
		"a missing part and a no":    txnOf(2, []int{1, -1}, parts[0]),
		"a no and no missing vote":   txnOf(0, []int{1, -1, 1}, parts...),
		"all votes against":          txnOf(0, []int{-1, -1, -1}, parts...),
		"all votes against, done":    txnOf(2, []int{-1, -1, -1}, parts...),
		"all votes missing, done":    txnOf(2, []int{0, 0, 0}, parts...),
		"a no and an updates' error": txnOf(0, []int{-1, 0}, partFor(0), partFor(1, updatesOf(1)...)),
	}
	for i := range 3 {
		result[fmt.Sprintf("vote %d is missing", i)] = txnOf(2, changed([]int{1, 1, 1}, i, 0), parts...)
		result[fmt.Sprintf("vote %d is against it", i)] = txnOf(2, changed([]int{1, 1, 1}, i, -1), parts...)
		result[fmt.Sprintf("vote %d of none is against it", i)] = txnOf(0, changed([]int{0, 0, 0}, i, -1), parts...)
		for _, vote := range wrongVotes() {
			result[fmt.Sprintf("vote %d is %d, committed", i, vote)] = txnOf(2, changed([]int{1, 1, 1}, i, vote), parts...)
			result[fmt.Sprintf("vote %d is %d, not decided", i, vote)] = txnOf(0, changed([]int{0, 0, 0}, i, vote), parts...)
			result[fmt.Sprintf("vote %d is %d, aborted", i, vote)] = txnOf(3, changed([]int{-1, -1, -1}, i, vote), parts...)
			result[fmt.Sprintf("vote %d is %d, aborted by a timeout", i, vote)] = txnOf(3, changed([]int{0, 0, 0}, i, vote), parts...)
		}
	}
	for _, decision := range wrongDecisions() {
		for _, votes := range [][]int{{1, 1, 1}, {0, 0, 0}, {-1, -1, -1}, {1, 0, -1}} {
			result[fmt.Sprintf("the decision %d after %v", decision, votes)] = txnOf(decision, votes, parts...)
		}
	}
	for name, some := range brokenParts() {
		if len(some) > 100 {
			continue
		}
		result[name+", not decided"] = txnOf(0, make([]int, len(some)), some...)
		result[name+", committed"] = txnOf(2, slices.Repeat([]int{1}, len(some)), some...)
		result[name+", aborted"] = txnOf(3, make([]int, len(some)), some...)
	}
	return result
}

// brokenOrders returns orders that are invalid for mixed, each for another reason.
func brokenOrders() map[string][]int {
	result := map[string][]int{
		"no order":                       nil,
		"an empty order":                 {},
		"the first one is missing":       {0, 3},
		"one in the middle is missing":   {6, 3},
		"the last one is missing":        {6, 0},
		"only one":                       {3},
		"one twice":                      {6, 0, 3, 6},
		"one twice in a row":             {6, 0, 0, 3},
		"one twice, and one is missing":  {6, 0, 0},
		"one three times":                {0, 0, 0},
		"all twice":                      {6, 0, 3, 6, 0, 3},
		"one that is not decided":        {6, 0, 3, 1},
		"one that is not decided, first": {5, 6, 0, 3},
		"one not decided for another":    {6, 0, 1},
		"one that is aborted":            {6, 0, 3, 2},
		"one aborted for another":        {4, 0, 3},
		"one aborted, in the middle":     {6, 8, 0, 3},
		"only others":                    {1, 2, 4},
		"all transactions":               {0, 1, 2, 3, 4, 5, 6, 7, 8},
		"one twice and one not decided":  {6, 0, 0, 5},
		"one twice and one too great":    {6, 0, 3, 3, 9},
		"all of it":                      {6, 6, 1, 2, 9, -1},
		"many":                           slices.Repeat([]int{6, 0, 3}, 10000),
		"many of one":                    slices.Repeat([]int{6}, 10000),
	}
	for _, txn := range append(wrongTxns(), 9, 10, 11) {
		result[fmt.Sprintf("%d too", txn)] = []int{6, 0, 3, txn}
		result[fmt.Sprintf("%d first", txn)] = []int{txn, 6, 0, 3}
		result[fmt.Sprintf("%d for another", txn)] = []int{6, txn, 3}
	}
	return result
}

// brokenCoordinators returns coordinators that are invalid, each for another reason.
func brokenCoordinators() map[string]impl.Coordinator {
	two := committedTxns(2)
	result := map[string]impl.Coordinator{
		"one too many":                   coordinator(manyTxns(13)...),
		"two too many":                   coordinator(manyTxns(14)...),
		"one too many, all committed":    coordinator(committedTxns(13)...),
		"many":                           coordinator(manyTxns(1000)...),
		"many, all committed":            coordinator(committedTxns(1000)...),
		"many, in no order":              ordered(nil, manyTxns(1000)...),
		"an order without transactions":  ordered([]int{0}),
		"no order":                       ordered(nil, two...),
		"transactions from 1 on":         ordered([]int{1, 2}, two...),
		"a last one that does not exist": ordered([]int{0, 1, 2}, two...),
		"one too many and another order": ordered([]int{0}, manyTxns(13)...),
		"twelve, and 12 in the order":    ordered([]int{0, 1, 2, 3, 4, 5, 6, 7, 8, 9, 10, 11, 12}, committedTxns(12)...),
		"twelve, and 12 for another":     ordered([]int{0, 1, 2, 3, 4, 5, 6, 7, 8, 9, 10, 12}, committedTxns(12)...),
		"not in the order, not decided":  ordered([]int{0}, txnOf(0, []int{0}, partsAt(0, 0)...)),
		"not in the order, aborted":      ordered([]int{0}, txnOf(3, []int{0}, partsAt(0, 0)...)),
	}
	for name, order := range brokenOrders() {
		result[name+" of all kinds"] = ordered(order, mixed().Txns...)
	}
	for name, t := range brokenTxns() {
		result[name+", alone"] = coordinator(t)
		result[name+", at first"] = coordinator(append([]impl.Txn{t}, two...)...)
		result[name+", in the middle"] = coordinator(slices.Insert(slices.Clone(two), 1, t)...)
		result[name+", as the last one"] = coordinator(append(mixed().Txns, t)...)
		result[name+", as the last one that there can be"] = coordinator(append(manyTxns(11), t)...)
	}
	result["a wrong transaction and order"] = ordered([]int{0, 0}, two[0], brokenTxns()["all wrong"])
	result["a wrong transaction, and too many"] = coordinator(append(manyTxns(12), brokenTxns()["all wrong"])...)
	result["a wrong vote, and no order"] = ordered(nil, two[0], txnOf(2, []int{0}, partsAt(1, 1)...))
	return result
}

// checkCoordinatorValid fails if CoordinatorValid gives another answer.
func checkCoordinatorValid(t *testing.T, name string, c impl.Coordinator, want bool) {
	t.Helper()
	if got := impl.CoordinatorValid(c); got != want {
		t.Fatalf("%s: CoordinatorValid(%s) = %t", name, shown(c), got)
	}
}

// checkBegin fails if CoordinatorBegin does not give the coordinator.
func checkBegin(t *testing.T, name string, c impl.Coordinator, parts []impl.Part, want impl.Coordinator, ok bool) {
	t.Helper()
	if got, done := impl.CoordinatorBegin(c, parts); !sameCoordinator(got, want) || done != ok {
		t.Fatalf("%s: CoordinatorBegin(%s, %s) = %s, %t, not %s, %t", name, shown(c), shown(parts), shown(got), done, shown(want), ok)
	}
}

// checkVote fails if CoordinatorVote does not give the coordinator.
func checkVote(t *testing.T, name string, c impl.Coordinator, txn int, shard int, yes bool, want impl.Coordinator, ok bool) {
	t.Helper()
	if got, done := impl.CoordinatorVote(c, txn, shard, yes); !sameCoordinator(got, want) || done != ok {
		t.Fatalf("%s: CoordinatorVote(%s, %d, %d, %t) = %s, %t, not %s, %t", name, shown(c), txn, shard, yes, shown(got), done, shown(want), ok)
	}
}

// checkTimeout fails if CoordinatorTimeout does not give the coordinator.
func checkTimeout(t *testing.T, name string, c impl.Coordinator, txn int, want impl.Coordinator, ok bool) {
	t.Helper()
	if got, done := impl.CoordinatorTimeout(c, txn); !sameCoordinator(got, want) || done != ok {
		t.Fatalf("%s: CoordinatorTimeout(%s, %d) = %s, %t, not %s, %t", name, shown(c), txn, shown(got), done, shown(want), ok)
	}
}

// checkWaits fails if CoordinatorWaits does not give the shards.
func checkWaits(t *testing.T, name string, c impl.Coordinator, txn int, want []int) {
	t.Helper()
	if got := impl.CoordinatorWaits(c, txn); !slices.Equal(got, want) {
		t.Fatalf("%s: CoordinatorWaits(%s, %d) = %v, not %v", name, shown(c), txn, got, want)
	}
}

// checkCoordinatorRefs fails if CoordinatorRefs does not give the refs.
func checkCoordinatorRefs(t *testing.T, name string, c impl.Coordinator, shard int, many int, want []int) {
	t.Helper()
	if got := impl.CoordinatorRefs(c, shard, many); !slices.Equal(got, want) {
		t.Fatalf("%s: CoordinatorRefs(%s, %d, %d) = %v, not %v", name, shown(c), shard, many, got, want)
	}
}

// roomyParts returns the parts in slices with space behind them.
func roomyParts(parts []impl.Part) []impl.Part {
	result := make([]impl.Part, 0, len(parts)+3)
	for _, p := range append(slices.Clone(parts), partFor(1, updatesOf(2)...), partFor(-77)) {
		result = append(result, partFor(p.Shard, roomyUpdates(p.Updates)...))
	}
	return result[:len(parts)]
}

// roomyCoordinator returns the coordinator in slices with space behind them.
func roomyCoordinator(c impl.Coordinator) impl.Coordinator {
	txns := make([]impl.Txn, 0, len(c.Txns)+3)
	for _, t := range append(slices.Clone(c.Txns), txnOf(0, []int{0}, partsAt(3, 0)...), txnOf(-77, nil)) {
		txns = append(txns, txnOf(t.Decision, roomy(t.Votes), roomyParts(t.Parts)...))
	}
	return ordered(roomy(c.Order), txns[:len(c.Txns)]...)
}

// wholeParts describes all memory of parts, also the space behind their slices.
func wholeParts(parts []impl.Part) string {
	result := fmt.Sprint(parts == nil, len(parts))
	for _, p := range parts[:cap(parts)] {
		result += fmt.Sprintf(" %d %s", p.Shard, wholeUpdates(p.Updates))
	}
	return result
}

// wholeCoordinator describes all memory of a coordinator, also the space behind its slices.
func wholeCoordinator(c impl.Coordinator) string {
	result := fmt.Sprint(c.Txns == nil, len(c.Txns), whole(c.Order))
	for _, t := range c.Txns[:cap(c.Txns)] {
		result += fmt.Sprintf(" %s %s %d", wholeParts(t.Parts), whole(t.Votes), t.Decision)
	}
	return result
}
