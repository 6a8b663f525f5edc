package tests

import (
	"slices"
	"testing"

	"loop.example/atomicpush/impl"
)

func TestP89Discard(t *testing.T) {
	store := plain(t, 10, 20)
	two, five, nine := area(2, plain(t, 30)), area(5, plain(t, 5, 15, 50)), area(9, plain(t, 20, 60))
	zero, eleven := area(0, plain(t, 1)), area(11, plain(t, 990))
	three, four := quarantine(store, two, five, nine), quarantine(store, zero, two, five, eleven)
	full := plain(t, idsFrom(100, 16)...)
	for _, test := range []struct {
		name string
		q    impl.Quarantine
		txn  int
		want impl.Quarantine
	}{
		{"the only area", quarantine(store, two), 2, quarantine(store)},
		{"the only area, and no store", quarantine(nil, five), 5, quarantine(nil)},
		{"the first area", three, 2, quarantine(store, five, nine)},
		{"the middle area", three, 5, quarantine(store, two, nine)},
		{"the last area", three, 9, quarantine(store, two, five)},
		{"the first transaction", quarantine(store, zero, five), 0, quarantine(store, five)},
		{"the last transaction", quarantine(store, five, eleven), 11, quarantine(store, five)},
		{"the first of four areas", four, 0, quarantine(store, two, five, eleven)},
		{"the second of four areas", four, 2, quarantine(store, zero, five, eleven)},
		{"the third of four areas", four, 5, quarantine(store, zero, two, eleven)},
		{"the last of four areas", four, 11, quarantine(store, zero, two, five)},
		{"what the store has", quarantine(store, two, area(5, store)), 5, quarantine(store, two)},
		{"what another area has", quarantine(store, two, area(5, two.Objects)), 5, quarantine(store, two)},
		{"what contradicts the store", quarantine(store, two, area(5, others(t, 10, 20))), 5, quarantine(store, two)},
		{"what contradicts another area", quarantine(store, two, area(5, others(t, 30))), 2, quarantine(store, area(5, others(t, 30)))},
		{"what is too much for the store", quarantine(full, two, area(5, plain(t, idsFrom(500, 16)...))), 5, quarantine(full, two)},
		{"all of a full store", quarantine(full, area(5, full)), 5, quarantine(full)},
	} {
		checkDiscard(t, test.name, test.q, test.txn, test.want, true)
	}
}

func TestP89Hidden(t *testing.T) {
	done, refused := 0, 0
	eachQuarantine(t, 89, 6000, func(n *numbers, p pool, q impl.Quarantine, txn int) {
		want, ok := discarded(q, txn)
		checkDiscard(t, "valid arguments", q, txn, want, ok)
		after, _ := impl.QuarantineDiscard(q, txn)
		if !impl.QuarantineValid(after) || !sameStore(after.Main, q.Main) || areaIn(after, txn) != nil || !sameAreas(after.Areas, otherAreas(q, txn)) {
			t.Fatalf("QuarantineDiscard(%s, %d) = %s", shown(q), txn, shown(after))
		}
		checkDiscard(t, "a second time", after, txn, after, false)
		if ok {
			done++
		} else {
			refused++
		}
	})
	if done < 1500 || refused < 1500 {
		t.Errorf("areas are discarded in %d cases, and there are none in %d", done, refused)
	}
}

// Of all areas, those of each set are discarded, and the others stay.
func TestP89EachSet(t *testing.T) {
	txns := []int{0, 4, 7, 11}
	q := quarantine(plain(t, 10, 20))
	for i, txn := range txns {
		q.Areas = append(q.Areas, area(txn, plain(t, 10+10*i, 60+i)))
	}
	for set := range 16 {
		after, left := q, []impl.Area{}
		for i, txn := range txns {
			if set>>i&1 == 1 {
				after, _ = impl.QuarantineDiscard(after, txn)
			} else {
				left = append(left, q.Areas[i])
			}
		}
		if !sameQuarantine(after, quarantine(q.Main, left...)) {
			t.Fatalf("QuarantineDiscard of the set %d gives %s", set, shown(after))
		}
	}
}

func TestP89InvalidArguments(t *testing.T) {
	for name, q := range brokenQuarantines(t) {
		for txn := range 12 {
			checkDiscard(t, name, q, txn, impl.Quarantine{}, false)
		}
		for _, txn := range wrongTxns() {
			checkDiscard(t, name, q, txn, impl.Quarantine{}, false)
		}
	}
	full := fullStore(t)
	for _, txn := range wrongTxns() {
		for _, q := range []impl.Quarantine{quarantine(nil), quarantine(full), quarantine(plain(t, 10), area(0, plain(t, 20)), area(11, plain(t, 30))), quarantine(full, area(5, plain(t, 1)))} {
			checkDiscard(t, "a wrong transaction", q, txn, impl.Quarantine{}, false)
		}
	}
}

func TestP90PutThenDiscard(t *testing.T) {
	restored := 0
	eachPut(t, 90, func(q impl.Quarantine, txn int, list []impl.Object) {
		after, done := impl.QuarantinePut(q, txn, list)
		if !done {
			return
		}
		want, _ := discarded(q, txn)
		checkDiscard(t, "what was put", after, txn, want, true)
		if len(areaIn(q, txn)) == 0 {
			checkDiscard(t, "what was put into a new area", after, txn, q, true)
			restored++
		}
	})
	if restored < 1000 {
		t.Errorf("quarantines are restored in only %d cases", restored)
	}
}

func TestP90EachTransaction(t *testing.T) {
	for _, q := range []impl.Quarantine{quarantine(nil), quarantine(plain(t, 10, 20)), quarantine(plain(t, 10, 20), area(3, plain(t, 30)), area(8, others(t, 20, 40)))} {
		for txn := range 12 {
			if len(areaIn(q, txn)) > 0 {
				continue
			}
			for _, list := range [][]impl.Object{plain(t, 50), plain(t, 10, 30, 50), plain(t, idsFrom(500, 14)...), q.Main} {
				if len(list) == 0 {
					continue
				}
				after, ok := impl.QuarantinePut(q, txn, list)
				if !ok {
					t.Fatalf("QuarantinePut(%s, %d, %s) fails", shown(q), txn, shown(list))
				}
				checkDiscard(t, "what was put", after, txn, q, true)
			}
		}
	}
}

func TestP93QuarantineValid(t *testing.T) {
	full := fullStore(t)
	one := plain(t, 30)
	for name, q := range map[string]impl.Quarantine{
		"the zero value":              {},
		"empty slices":                {Main: []impl.Object{}, Areas: []impl.Area{}},
		"a store":                     quarantine(plain(t, 10, 20)),
		"a full store":                quarantine(full),
		"one area":                    quarantine(nil, area(5, one)),
		"a full area":                 quarantine(nil, area(5, full)),
		"a full store and area":       quarantine(full, area(5, full)),
		"the first transaction":       quarantine(one, area(0, one)),
		"the last transaction":        quarantine(one, area(11, one)),
		"four areas":                  quarantine(one, manyAreas(t, 4, 4)...),
		"the first four transactions": quarantine(nil, manyAreas(t, 0, 4)...),
		"the last four transactions":  quarantine(nil, manyAreas(t, 8, 4)...),
		"four full areas":             quarantine(full, area(0, full), area(1, full), area(10, full), area(11, full)),
		"an area that contradicts":    quarantine(one, area(5, others(t, 30))),
		"areas that contradict":       quarantine(nil, area(5, one), area(6, others(t, 30))),
		"an area that is too large":   quarantine(full, area(5, plain(t, idsFrom(500, 16)...))),
	} {
		checkQuarantineValid(t, name, q, true)
		for i := range q.Areas {
			checkQuarantineValid(t, name+", without an area", quarantine(q.Main, without(q.Areas, i)...), true)
		}
	}
}

func TestP93WithoutOneArea(t *testing.T) {
	eachQuarantine(t, 93, 3000, func(n *numbers, p pool, q impl.Quarantine, _ int) {
		checkQuarantineValid(t, "a quarantine", q, true)
		for i, a := range q.Areas {
			checkQuarantineValid(t, "without one area", quarantine(q.Main, without(q.Areas, i)...), true)
			checkQuarantineValid(t, "the first areas", quarantine(q.Main, q.Areas[:i]...), true)
			checkQuarantineValid(t, "one area twice", quarantine(q.Main, slices.Insert(slices.Clone(q.Areas), i, a)...), false)
			checkQuarantineValid(t, "an area without objects", quarantine(q.Main, changed(q.Areas, i, area(a.Txn))...), false)
		}
	})
}

// Three areas of all transactions at and beyond the ends of the range.
func TestP93Transactions(t *testing.T) {
	some := []int{-2, -1, 0, 1, 5, 10, 11, 12, 13}
	one := plain(t, 30)
	for _, a := range some {
		checkQuarantineValid(t, "one area", quarantine(one, area(a, one)), a >= 0 && a <= 11)
		for _, b := range some {
			checkQuarantineValid(t, "two areas", quarantine(nil, area(a, one), area(b, one)), a >= 0 && a < b && b <= 11)
			for _, c := range some {
				checkQuarantineValid(t, "three areas", quarantine(nil, area(a, one), area(b, one), area(c, one)), a >= 0 && a < b && b < c && c <= 11)
			}
		}
	}
	for txn := -20; txn <= 1000; txn++ {
		checkQuarantineValid(t, "one transaction", quarantine(nil, area(txn, one)), txn >= 0 && txn <= 11)
	}
}

func TestP93InvalidQuarantines(t *testing.T) {
	for name, q := range brokenQuarantines(t) {
		checkQuarantineValid(t, name, q, false)
	}
	for many := range 14 {
		checkQuarantineValid(t, "some areas", quarantine(nil, manyAreas(t, 0, many)...), many <= 4)
	}
	for i, o := range invalidObjects() {
		checkQuarantineValid(t, "an invalid object", quarantine([]impl.Object{o}), false)
		checkQuarantineValid(t, "an invalid object in an area", quarantine(nil, area(i%12, []impl.Object{o})), false)
	}
}

func TestNumberOfAreas(t *testing.T) {
	if impl.MaxAreas != 4 {
		t.Errorf("MaxAreas is %d", impl.MaxAreas)
	}
}

func TestMemoryOfQuarantinePromoteAndDiscard(t *testing.T) {
	full := fullStore(t)
	links := merged([]impl.Object{commit("fix", 0, 500, 990), tree(0, 5)})
	for _, some := range []impl.Quarantine{
		{},
		quarantine(links),
		quarantine(links, area(5, links)),
		quarantine(nil, area(5, links)),
		quarantine(links, area(0, links), area(5, plain(t, 1)), area(11, links)),
		quarantine(links, area(0, plain(t, 1)), area(2, links), area(5, links), area(11, plain(t, 2))),
		quarantine(plain(t, 10), area(5, others(t, 10)), area(7, links)),
		quarantine(full, area(0, full), area(5, links)),
		quarantine(links, area(5)),
		quarantine(links, area(7, links), area(5, links)),
		quarantine(links, area(5, links), area(12, links)),
		quarantine([]impl.Object{commit("x")}, area(5, links)),
	} {
		for _, txn := range []int{0, 2, 4, 5, 11, -1, 12} {
			q := roomyQuarantine(some)
			before := wholeQuarantine(q)
			one, _ := impl.QuarantinePromote(q, txn)
			two, _ := impl.QuarantinePromote(q, txn)
			three, _ := impl.QuarantineDiscard(q, txn)
			four, _ := impl.QuarantineDiscard(q, txn)
			checkApart(t, "QuarantinePromote and QuarantineDiscard", []any{q}, []any{one, two, three, four})
			impl.QuarantineValid(q)
			if after := wholeQuarantine(q); after != before {
				t.Fatalf("QuarantinePromote, QuarantineDiscard or QuarantineValid modified %s to %s", before, after)
			}
		}
	}
}
