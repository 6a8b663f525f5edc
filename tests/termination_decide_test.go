package tests

import (
	"slices"
	"testing"

	"loop.example/atomicpush/impl"
)

func TestTermConstants(t *testing.T) {
	if impl.TermBlocked != 0 {
		t.Errorf("TermBlocked is %d", impl.TermBlocked)
	}
}

func TestP128TermAgree(t *testing.T) {
	for _, test := range []struct {
		name   string
		states []int
		want   bool
	}{
		{"one that knows nothing", []int{0}, true},
		{"one that is prepared", []int{1}, true},
		{"one that is committed", []int{2}, true},
		{"one that is aborted", []int{3}, true},
		{"all know nothing", []int{0, 0, 0}, true},
		{"all are prepared", []int{1, 1, 1}, true},
		{"all are committed", []int{2, 2, 2}, true},
		{"all are aborted", []int{3, 3, 3}, true},
		{"committed beside prepared", []int{2, 1}, true},
		{"committed after prepared", []int{1, 1, 2}, true},
		{"aborted beside none", []int{3, 0}, true},
		{"none beside aborted", []int{0, 3}, true},
		{"aborted, prepared and none", []int{3, 1, 0}, true},
		{"committed beside aborted", []int{2, 3}, false},
		{"aborted beside committed", []int{3, 2}, false},
		{"committed beside none", []int{2, 0}, false},
		{"none beside committed", []int{0, 2}, false},
		{"committed, prepared and aborted", []int{2, 1, 3}, false},
		{"aborted, prepared and committed", []int{3, 1, 2}, false},
		{"committed, prepared and none", []int{2, 1, 0}, false},
		{"none, prepared and committed", []int{0, 1, 2}, false},
		{"prepared ahead of a contradiction", []int{1, 2, 3}, false},
		{"prepared after a contradiction", []int{0, 2, 1}, false},
		{"one against two that are committed", []int{2, 2, 3}, false},
		{"two against one that is committed", []int{0, 3, 2}, false},
		{"no states", nil, false},
		{"an empty slice", []int{}, false},
		{"one more than there are shards", []int{1, 1, 1, 1}, false},
	} {
		checkTermAgree(t, test.name, test.states, test.want)
	}
}

func TestP128TermAgreeEachList(t *testing.T) {
	for length := range 6 {
		for _, states := range termLists(length, -1, 0, 1, 2, 3, 4) {
			checkTermAgree(t, "some states", states, agreed(states))
		}
	}
	for _, states := range wrongStateLists() {
		checkTermAgree(t, "no state", states, false)
	}
	for _, states := range longStateLists() {
		checkTermAgree(t, "more than all shards", states, false)
	}
}

func TestP128TermAgreeContrary(t *testing.T) {
	for length := 1; length <= 3; length++ {
		for _, states := range termLists(length, 0, 1, 2, 3) {
			contrary := slices.Contains(states, 2) && (slices.Contains(states, 3) || slices.Contains(states, 0))
			checkTermAgree(t, "states", states, !contrary)
		}
	}
}

func TestP128TermAgreeEachOrder(t *testing.T) {
	for _, states := range slices.Concat(agreedLists(), contraryLists(), [][]int{{1, 4, 0}, {-1, 2, 3}}) {
		want := impl.TermAgree(states)
		for _, order := range allOrders(states) {
			checkTermAgree(t, "another order", order, want)
		}
	}
}

func TestP129TermDecide(t *testing.T) {
	for _, test := range []struct {
		name   string
		states []int
		want   int
	}{
		{"one that knows nothing", []int{0}, impl.RecordAbort},
		{"one that is prepared", []int{1}, impl.TermBlocked},
		{"one that is committed", []int{2}, impl.RecordCommit},
		{"one that is aborted", []int{3}, impl.RecordAbort},
		{"two that are prepared", []int{1, 1}, impl.TermBlocked},
		{"all are prepared", []int{1, 1, 1}, impl.TermBlocked},
		{"all are committed", []int{2, 2, 2}, impl.RecordCommit},
		{"all are aborted", []int{3, 3, 3}, impl.RecordAbort},
		{"all know nothing", []int{0, 0, 0}, impl.RecordAbort},
		{"the first one is committed", []int{2, 1, 1}, impl.RecordCommit},
		{"the second one is committed", []int{1, 2, 1}, impl.RecordCommit},
		{"the last one is committed", []int{1, 1, 2}, impl.RecordCommit},
		{"the first one is aborted", []int{3, 1, 1}, impl.RecordAbort},
		{"the second one is aborted", []int{1, 3, 1}, impl.RecordAbort},
		{"the last one is aborted", []int{1, 1, 3}, impl.RecordAbort},
		{"the first one has not voted", []int{0, 1, 1}, impl.RecordAbort},
		{"the second one has not voted", []int{1, 0, 1}, impl.RecordAbort},
		{"the last one has not voted", []int{1, 1, 0}, impl.RecordAbort},
		{"aborted beside none", []int{3, 0}, impl.RecordAbort},
		{"aborted, prepared and none", []int{3, 1, 0}, impl.RecordAbort},
	} {
		checkTermDecide(t, test.name, test.states, test.want)
	}
}

func TestP129TermDecideEachList(t *testing.T) {
	for _, states := range agreedLists() {
		want := impl.TermBlocked
		switch {
		case slices.Contains(states, impl.StateCommitted):
			want = impl.RecordCommit
		case slices.Contains(states, impl.StateAborted) || slices.Contains(states, impl.StateNone):
			want = impl.RecordAbort
		}
		for _, order := range allOrders(states) {
			checkTermDecide(t, "states that agree", order, want)
		}
	}
}

func TestP130TermDecideSome(t *testing.T) {
	decided := 0
	for _, states := range agreedLists() {
		for set := 1; set < 1<<len(states); set++ {
			some := []int{}
			for i, state := range states {
				if set>>i&1 == 1 {
					some = append(some, state)
				}
			}
			if decision := impl.TermDecide(some); decision != impl.TermBlocked {
				decided++
				checkTermDecide(t, "more states", states, decision)
			}
		}
	}
	if decided < 100 {
		t.Errorf("only %d lists lead to a decision", decided)
	}
}

func TestP135TermDecidePrepared(t *testing.T) {
	for many := 1; many <= 3; many++ {
		prepared := slices.Repeat([]int{1}, many)
		checkTermDecide(t, "prepared ones", prepared, impl.TermBlocked)
		want := impl.RecordCommit
		if many == 3 {
			// With one more there are more than all shards.
			want = impl.TermBlocked
		}
		for place := range many + 1 {
			checkTermDecide(t, "one more that is committed", slices.Insert(slices.Clone(prepared), place, 2), want)
		}
	}
}

func TestP136TermDecideContrary(t *testing.T) {
	for _, states := range contraryLists() {
		checkTermDecide(t, "states that do not agree", states, impl.TermBlocked)
	}
	for length := range 6 {
		for _, states := range termLists(length, -1, 0, 1, 2, 3, 4) {
			want, answer := concluded(states)
			checkTermDecide(t, answer, states, want)
			if !impl.TermAgree(states) {
				checkTermDecide(t, answer, states, impl.TermBlocked)
			}
		}
	}
}

func TestP136TermDecideInvalid(t *testing.T) {
	checkTermDecide(t, "no states", nil, impl.TermBlocked)
	checkTermDecide(t, "an empty slice", []int{}, impl.TermBlocked)
	for _, states := range wrongStateLists() {
		checkTermDecide(t, "no state", states, impl.TermBlocked)
	}
	for _, states := range longStateLists() {
		checkTermDecide(t, "more than all shards", states, impl.TermBlocked)
	}
}

func TestMemoryOfTermDecide(t *testing.T) {
	for _, some := range slices.Concat(agreedLists(), contraryLists(), [][]int{nil, {}, {4}, {2, -1, 0}, {2, 1, 1, 1}}) {
		states := roomy(some)
		before := whole(states)
		impl.TermDecide(states)
		impl.TermAgree(states)
		if after := whole(states); after != before {
			t.Fatalf("TermDecide or TermAgree modified %s to %s", before, after)
		}
	}
}
