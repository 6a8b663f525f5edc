package tests

import (
	"fmt"
	"math"
	"slices"
	"testing"

	"loop.example/atomicpush/impl"
)

// How concluded explains that nothing is decided; the other explanations are "commit" and "abort".
const (
	noShards  = "no shards"
	tooMany   = "too many shards"
	noState   = "a number that is no state"
	notAgreed = "states that do not agree"
	blocked   = "all are prepared"
)

// concluded computes as chapter 23 does to which decision states lead, and why.
func concluded(states []int) (int, string) {
	prepared, committed := votesOf(states, 1), votesOf(states, 2)
	against := votesOf(states, 0) + votesOf(states, 3)
	switch {
	case len(states) == 0:
		return 0, noShards
	case len(states) > 3:
		return 0, tooMany
	case prepared+committed+against != len(states):
		return 0, noState
	case committed > 0 && against > 0:
		return 0, notAgreed
	case committed > 0:
		return 2, "commit"
	case against > 0:
		return 3, "abort"
	}
	return 0, blocked
}

// agreed tells as chapter 23 does whether states agree.
func agreed(states []int) bool {
	_, answer := concluded(states)
	return slices.Contains([]string{"commit", "abort", blocked}, answer)
}

// termStates returns the states of a transaction at shards.
func termStates(list []impl.Shard, txn int) []int {
	result := []int{}
	for _, s := range list {
		result = append(result, stateIn(s, txn))
	}
	return result
}

// terminated computes what TermShards gives for valid arguments, and why.
func terminated(list []impl.Shard, txn int) ([]impl.Shard, int, string) {
	decision, answer := concluded(termStates(list, txn))
	if decision == 0 {
		return list, 0, answer
	}
	result := []impl.Shard{}
	for _, s := range list {
		after, _ := decided(s, txn, decision == 2)
		result = append(result, after)
	}
	return result, decision, answer
}

// termLists returns all lists of the given length of some elements.
func termLists[E any](length int, elements ...E) [][]E {
	result := [][]E{{}}
	for range length {
		longer := [][]E{}
		for _, list := range result {
			for _, e := range elements {
				longer = append(longer, append(slices.Clone(list), e))
			}
		}
		result = longer
	}
	return result
}

// agreedLists returns all lists of states that agree.
func agreedLists() [][]int {
	result := [][]int{}
	for length := 1; length <= 3; length++ {
		for _, states := range termLists(length, 0, 1, 2, 3) {
			if agreed(states) {
				result = append(result, states)
			}
		}
	}
	return result
}

// contraryLists returns all lists of one to three states that do not agree.
func contraryLists() [][]int {
	result := [][]int{}
	for length := 1; length <= 3; length++ {
		for _, states := range termLists(length, 0, 1, 2, 3) {
			if !agreed(states) {
				result = append(result, states)
			}
		}
	}
	return result
}

// wrongStates are numbers that are no state.
func wrongStates() []int {
	return []int{-1, -2, -3, 4, 5, 6, 255, 256, 257, 258, 259, 1 << 32, 1<<32 + 1, 1<<32 + 2, 1<<32 + 3, math.MinInt, math.MinInt + 1, math.MinInt + 2, math.MaxInt}
}

// wrongStateLists returns lists of one to three numbers of which at least one is no state.
func wrongStateLists() [][]int {
	result := [][]int{}
	for _, wrong := range wrongStates() {
		for length := 1; length <= 3; length++ {
			for _, states := range termLists(length, 0, 1, 2, 3, wrong) {
				if slices.Contains(states, wrong) {
					result = append(result, states)
				}
			}
		}
	}
	return append(result, []int{-1, 4}, []int{4, -1}, []int{-1, 4, 5}, []int{2, 4, -1}, []int{-1, 2, 4})
}

// longStateLists returns lists of more than three states.
func longStateLists() [][]int {
	result := append(termLists(4, 0, 1, 2, 3), termLists(5, 1, 2, 3)...)
	for _, states := range [][]int{{0}, {1}, {2}, {3}, {1, 2}, {1, 0, 3}} {
		for _, many := range []int{6, 12, 999, 30000} {
			result = append(result, slices.Repeat(states, many))
		}
	}
	return result
}

// shardIn returns a valid shard that has a transaction in a state.
func (n *numbers) shardIn(state int, txn int) impl.Shard {
	for {
		s := n.shard(n.below(20))
		if vote := prepareOf(txn, n.updates(refsIn(s))...); state > 0 && follows(s, vote) {
			s = with(s, vote)
		}
		if last := (impl.Record{Kind: state, Txn: txn}); state > 1 && follows(s, last) {
			s = with(s, last)
		}
		if stateIn(s, txn) == state {
			return s
		}
	}
}

// shardsIn returns valid shards that have a transaction in the given states.
func (n *numbers) shardsIn(states []int, txn int) []impl.Shard {
	result := []impl.Shard{}
	for _, state := range states {
		result = append(result, n.shardIn(state, txn))
	}
	return result
}

// eachTermination calls check with many valid arguments of TermShards. It requires that each answer is given often enough.
func eachTermination(t *testing.T, seed int, check func(list []impl.Shard, txn int)) {
	t.Helper()
	n, counts := numbers(seed), map[string]int{}
	// Of three states in any order, most do not agree: some of the choices leave states out.
	choices := [][]int{{0, 1, 2, 3}, {1, 2}, {1, 2}, {0, 1, 3}, {0, 3}, {1}, {2, 3}, {0, 2}}
	for range 1200 {
		choice, states := choices[n.below(len(choices))], []int{}
		for range n.below(5) {
			states = append(states, choice[n.below(len(choice))])
		}
		txn := n.below(12)
		list := n.shardsIn(states, txn)
		_, _, answer := terminated(list, txn)
		counts[answer]++
		check(list, txn)
	}
	for _, answer := range []string{noShards, tooMany, notAgreed, blocked, "commit", "abort"} {
		if counts[answer] < 60 {
			t.Errorf("%q is the answer in only %d cases", answer, counts[answer])
		}
	}
}

// shardsOf returns shards that have transaction 5 in each of the states: by its index. Each knows other transactions, too.
func shardsOf(states ...int) []impl.Shard {
	all := [4]impl.Shard{
		shard(prepareOf(2, updatesOf(0)...), commitOf(2), prepareOf(11, updatesOf(3)...), abortOf(7)),
		middle(),
		shard(prepareOf(4, updatesOf(0)...), prepareOf(5, updatesOf(1, 3)...), commitOf(5), abortOf(0)),
		shard(prepareOf(0, updatesOf(2)...), prepareOf(5, updatesOf(1)...), abortOf(5), prepareOf(4, updatesOf(1)...)),
	}
	result := []impl.Shard{}
	for _, state := range states {
		result = append(result, shard(slices.Clone(all[state].Records)...))
	}
	return result
}

// decidedOf returns the shards of shardsOf with one more record of transaction 5 at each that does not have it as its last state.
func decidedOf(r impl.Record, states ...int) []impl.Shard {
	result := shardsOf(states...)
	for i, state := range states {
		if state != r.Kind {
			result[i] = with(result[i], r)
		}
	}
	return result
}

// smallShards returns shards that have transaction 5 in each of the states, and know nothing else.
func smallShards(states ...int) []impl.Shard {
	result := []impl.Shard{}
	for i, state := range states {
		vote := prepareOf(5, updatesOf(i%4)...)
		result = append(result, []impl.Shard{shard(), shard(vote), shard(vote, commitOf(5)), shard(abortOf(5))}[state])
	}
	return result
}

// someBrokenShards returns a few shards that are invalid, each for another reason.
func someBrokenShards(t *testing.T) map[string]impl.Shard {
	t.Helper()
	all, result := brokenShards(), map[string]impl.Shard{}
	for _, name := range []string{
		"a commit at first", "an abort of one after a commit", "the same vote after a vote", "a commit with updates", "a locked ref",
		"another old id, the last of two", "one more than there can be", "the zero value, alone", "a vote without updates, alone",
		"the kind 4, as the last one", "a vote of 12, alone", "an abort of -1, as the last one", "29 records", "30 records", "31 records", "30 records, most of them right",
	} {
		s, ok := all[name]
		if !ok {
			t.Fatalf("brokenShards has no shard %q", name)
		}
		result[name] = s
	}
	return result
}

func sameShards(a []impl.Shard, b []impl.Shard) bool {
	return slices.EqualFunc(a, b, sameShard)
}

// checkTermAgree fails if TermAgree gives another answer.
func checkTermAgree(t *testing.T, name string, states []int, want bool) {
	t.Helper()
	if got := impl.TermAgree(states); got != want {
		t.Fatalf("%s: TermAgree(%s) = %t", name, shownStates(states), got)
	}
}

// checkTermDecide fails if TermDecide gives another decision.
func checkTermDecide(t *testing.T, name string, states []int, want int) {
	t.Helper()
	if got := impl.TermDecide(states); got != want {
		t.Fatalf("%s: TermDecide(%s) = %d, not %d", name, shownStates(states), got, want)
	}
}

// shownStates describes states, of which there may be very many.
func shownStates(states []int) string {
	if len(states) > 20 {
		return fmt.Sprintf("%d states, of which the first ones are %v", len(states), states[:20])
	}
	return fmt.Sprint(states)
}

// checkTermShards fails if TermShards does not give the shards and the decision.
func checkTermShards(t *testing.T, name string, list []impl.Shard, txn int, want []impl.Shard, decision int) {
	t.Helper()
	if got, d := impl.TermShards(list, txn); !sameShards(got, want) || d != decision {
		t.Fatalf("%s: TermShards(%s, %d) = %s, %d, not %s, %d", name, shown(list), txn, shown(got), d, shown(want), decision)
	}
}

// roomyShards returns the shards in slices with space behind them.
func roomyShards(list []impl.Shard) []impl.Shard {
	result := make([]impl.Shard, 0, len(list)+3)
	for _, s := range append(slices.Clone(list), shard(abortOf(5)), shard(commitOf(-77))) {
		result = append(result, roomyShard(s))
	}
	return result[:len(list)]
}

// wholeShards describes all memory of shards, also the space behind their slices.
func wholeShards(list []impl.Shard) string {
	result := fmt.Sprint(list == nil, len(list))
	for _, s := range list[:cap(list)] {
		result += " " + wholeShard(s)
	}
	return result
}

// spoilShards overwrites all that shards have, also in the space behind their slices.
func spoilShards(list []impl.Shard) {
	for i, s := range list[:cap(list)] {
		for j, r := range s.Records[:cap(s.Records)] {
			for k := range r.Updates[:cap(r.Updates)] {
				r.Updates[:cap(r.Updates)][k] = update(-80, -81, -82)
			}
			s.Records[:cap(s.Records)][j] = commitOf(-83)
		}
		list[:cap(list)][i] = shard(abortOf(-84))
	}
}
