package tests

import (
	"slices"
	"testing"

	"loop.example/atomicpush/impl"
)

// linked is an object with an id and links.
func linked(t *testing.T, id int, links ...int) impl.Object {
	t.Helper()
	return objectWithId(t, id, links)
}

func TestP91Missing(t *testing.T) {
	main := []impl.Object{linked(t, 100, 200), linked(t, 400, 500), linked(t, 700, 100, 710)}
	waiting := []impl.Object{linked(t, 200, 300, 400), linked(t, 600, 610, 700), linked(t, 800, 810, 820, 830, 840)}
	q := quarantine(main, area(3, []impl.Object{linked(t, 300), linked(t, 500)}), area(6, waiting), area(9, waiting[:1]))
	for _, test := range []struct {
		name string
		txn  int
		from []int
		want []int
	}{
		{"nothing", 6, nil, nil},
		{"no ids", 6, []int{}, nil},
		{"an id that nobody has", 6, []int{50}, []int{50}},
		{"ids that nobody has", 6, []int{0, 50, 989, 990}, []int{0, 50, 989, 990}},
		{"through the store only", 6, []int{400}, []int{500}},
		{"through the area only", 6, []int{800}, []int{810, 820, 830, 840}},
		{"from the store into the area and back", 6, []int{100}, []int{300, 500}},
		{"from the area into the store", 6, []int{600}, []int{300, 500, 610, 710}},
		{"all that is reached from both", 6, []int{600, 700, 800}, []int{300, 500, 610, 710, 810, 820, 830, 840}},
		{"and ids that nobody has", 6, []int{0, 100, 990}, []int{0, 300, 500, 990}},
		{"the last of three areas", 9, []int{100}, []int{300, 500}},
		{"the last of three areas, without objects of another one", 9, []int{100, 600}, []int{300, 500, 600}},
		{"the first of three areas", 3, []int{100, 400}, []int{200}},
		{"the first of three areas, all there", 3, []int{300, 400, 500}, nil},
		{"the first transaction, without an area", 0, []int{100, 400}, []int{200, 500}},
		{"the last transaction, without an area", 11, []int{100, 600}, []int{200, 600}},
		{"between others, without an area", 7, []int{700, 800}, []int{200, 710, 800}},
	} {
		checkMissing(t, test.name, q, test.txn, test.from, test.want)
	}
}

// With and without a store and an area, ids that are reached are missing or there.
func TestP91AreaAndStore(t *testing.T) {
	from, both := []int{100, 200}, []impl.Object{linked(t, 100, 200), linked(t, 200, 0, 990)}
	other := area(4, plain(t, 0, 990))
	for _, test := range []struct {
		name string
		q    impl.Quarantine
		want []int
	}{
		{"nothing", quarantine(nil), []int{100, 200}},
		{"another area", quarantine(nil, other), []int{100, 200}},
		{"in the store", quarantine(both), []int{0, 990}},
		{"in the area", quarantine(nil, area(5, both)), []int{0, 990}},
		{"in both", quarantine(both, area(5, both)), []int{0, 990}},
		{"in both, beside another area", quarantine(both, other, area(5, both)), []int{0, 990}},
		{"one in each", quarantine(both[:1], area(5, both[1:])), []int{0, 990}},
		{"one in each, the other way round", quarantine(both[1:], area(5, both[:1])), []int{0, 990}},
		{"one in another area", quarantine(both[:1], area(4, both[1:])), []int{200}},
		{"all there", quarantine(both, area(5, plain(t, 0, 990))), nil},
		{"all but the last", quarantine(both, area(5, plain(t, 0))), []int{990}},
		{"all but the first", quarantine(plain(t, 990), area(5, both)), []int{0}},
	} {
		checkMissing(t, test.name, test.q, 5, from, test.want)
	}
}

// If both have an object with an id, what that of the store links to is reached, and what that of the area links to is not.
func TestP91Contradictions(t *testing.T) {
	one, two := []impl.Object{linked(t, 100, 200, 300)}, []impl.Object{linked(t, 100, 300, 400)}
	checkMissing(t, "one counts", quarantine(one, area(5, two)), 5, []int{100}, []int{200, 300})
	checkMissing(t, "two counts", quarantine(two, area(5, one)), 5, []int{100}, []int{300, 400})
	checkMissing(t, "another area", quarantine(one, area(4, two)), 5, []int{100}, []int{200, 300})
	checkMissing(t, "a blob counts", quarantine(plain(t, 100), area(5, two)), 5, []int{100}, nil)
	checkMissing(t, "a blob does not count", quarantine(two, area(5, plain(t, 100))), 5, []int{100}, []int{300, 400})
	waiting := []impl.Object{linked(t, 50, 100), two[0], linked(t, 200, 500)}
	checkMissing(t, "through the area", quarantine(one, area(5, waiting)), 5, []int{50}, []int{300, 500})
	checkMissing(t, "through the area alone", quarantine(nil, area(5, waiting)), 5, []int{50}, []int{300, 400})
	main := []impl.Object{linked(t, 10, 20), linked(t, 20, 30), linked(t, 30, 1)}
	waiting = []impl.Object{linked(t, 10, 2), linked(t, 20, 3), linked(t, 30, 4), linked(t, 40, 10, 20, 30)}
	checkMissing(t, "all of the store count", quarantine(main, area(5, waiting)), 5, []int{40}, []int{1})
	checkMissing(t, "all of the area count", quarantine(waiting[:3], area(5, main)), 5, []int{10, 20, 30}, []int{2, 3, 4})
}

// Objects that link to each other, from the store into the area and back, are reached once.
func TestP91Circles(t *testing.T) {
	q := quarantine([]impl.Object{linked(t, 100, 200), linked(t, 300, 300, 400)}, area(5, []impl.Object{linked(t, 200, 100, 250), linked(t, 400, 300, 400)}))
	checkMissing(t, "a circle", q, 5, []int{100}, []int{250})
	checkMissing(t, "a circle from its other side", q, 5, []int{200}, []int{250})
	checkMissing(t, "objects that link to themselves", q, 5, []int{300}, nil)
	checkMissing(t, "both circles", q, 5, []int{100, 200, 300, 400}, []int{250})
}

// The store and the area have 32 objects together, in a chain through both. Each of them also links to three missing ids.
func TestP91MoreThanAStore(t *testing.T) {
	for _, swapped := range []bool{false, true} {
		main, waiting, missing := []impl.Object{}, []impl.Object{}, []int{}
		for i := range 32 {
			links := []int{100 + i, 200 + i, 300 + i, 501 + 10*i}
			o := linked(t, 500+10*i, links[:3]...)
			missing = append(missing, links[:3]...)
			if i < 31 {
				links[3] = 510 + 10*i
				o = linked(t, 500+10*i, links...)
			}
			if i%2 == 0 {
				main = append(main, o)
			} else {
				waiting = append(waiting, o)
			}
		}
		if swapped {
			main, waiting = waiting, main
		}
		slices.Sort(missing)
		q := quarantine(main, area(5, waiting))
		checkMissing(t, "a chain", q, 5, []int{500}, missing)
		checkMissing(t, "a chain, and more", q, 5, []int{0, 500, 660, 810}, append([]int{0}, missing...))
		checkMissing(t, "the end of a chain", q, 5, []int{810}, []int{131, 231, 331})
		if len(missing) != 96 {
			t.Fatalf("%d ids are missing", len(missing))
		}
	}
}

// Of all ids, those that neither the store nor the area has are missing.
func TestP91EachId(t *testing.T) {
	main, waiting := plain(t, idsFrom(0, 16)...), plain(t, idsFrom(975, 16)...)
	q := quarantine(main, area(5, waiting), area(6, plain(t, 500)))
	for id := range 991 {
		want := []int{id}
		if id < 16 || id >= 975 {
			want = nil
		}
		checkMissing(t, "one id", q, 5, []int{id}, want)
	}
}

func TestP91NeitherHere(t *testing.T) {
	mixed, contradictions, large := 0, 0, 0
	eachQuarantine(t, 91, 6000, func(n *numbers, p pool, q impl.Quarantine, txn int) {
		from, all := n.anyFrom(p), together(q, txn)
		_, want := closure(all, from)
		checkMissing(t, "valid arguments", q, txn, from, want)
		got := impl.QuarantineMissing(q, txn, from)
		if !ascending(got) {
			t.Fatalf("QuarantineMissing(%s, %d, %v) = %v", shown(q), txn, from, got)
		}
		for _, id := range got {
			if holdsId(q.Main, id) || holdsId(areaIn(q, txn), id) {
				t.Fatalf("QuarantineMissing(%s, %d, %v) = %v", shown(q), txn, from, got)
			}
		}
		if _, alone := closure(q.Main, from); !slices.Equal(alone, want) {
			mixed++
		}
		if _, other := closure(together(impl.Quarantine{Main: areaIn(q, txn), Areas: []impl.Area{area(txn, q.Main)}}, txn), from); !slices.Equal(other, want) {
			contradictions++
		}
		if len(all) > 16 {
			large++
		}
	})
	if mixed < 500 || contradictions < 100 || large < 300 {
		t.Errorf("the area counts in %d cases, contradictions in %d, and the store would be too large in %d", mixed, contradictions, large)
	}
}

func TestP91InvalidArguments(t *testing.T) {
	full := fullStore(t)
	for _, q := range []impl.Quarantine{quarantine(nil), quarantine(plain(t, 10, 20), area(0, plain(t, 30)), area(5, plain(t, 40)), area(11, plain(t, 50))), quarantine(full, area(5, full))} {
		for _, from := range wrongFroms() {
			for _, txn := range []int{0, 5, 7, 11, -1, 12} {
				checkMissing(t, "wrong ids", q, txn, from, nil)
			}
		}
		for _, txn := range wrongTxns() {
			for _, from := range [][]int{nil, {0}, {10}, {5, 30, 50, 990}} {
				checkMissing(t, "a wrong transaction", q, txn, from, nil)
			}
		}
	}
	for name, q := range brokenQuarantines(t) {
		for _, txn := range []int{0, 2, 5, 7, 11, -1, 12} {
			for _, from := range [][]int{nil, {0}, {10}, {30}, {5, 30, 50, 990}, {991}, {10, 10}} {
				checkMissing(t, name, q, txn, from, nil)
			}
		}
	}
}

func TestP92PromoteThenMissing(t *testing.T) {
	done, some := 0, 0
	eachQuarantine(t, 92, 12000, func(n *numbers, p pool, q impl.Quarantine, txn int) {
		after, ok := impl.QuarantinePromote(q, txn)
		if !ok {
			return
		}
		done++
		for range 5 {
			from := n.anyFrom(p)
			want := impl.StoreMissing(after.Main, from)
			checkMissing(t, "ahead of promotion", q, txn, from, want)
			checkMissing(t, "after promotion", after, txn, from, want)
			if len(want) > 0 {
				some++
			}
		}
	})
	if done < 1000 || some < 1000 {
		t.Errorf("areas are promoted in %d cases, and ids are missing in %d", done, some)
	}
}

// A history of commits is pushed: nothing is missing when all of it waits, and also when it is promoted.
func TestP92Push(t *testing.T) {
	text := blob("a")
	folder := tree(digest(text))
	first := commit("one", digest(folder))
	head := []int{digest(first)}
	q := quarantine([]impl.Object{text})
	checkMissing(t, "ahead of the push", q, 4, head, head)
	q, _ = impl.QuarantinePut(q, 4, []impl.Object{first})
	checkMissing(t, "without the tree", q, 4, head, []int{digest(folder)})
	checkMissing(t, "for another transaction", q, 3, head, head)
	q, _ = impl.QuarantinePut(q, 4, []impl.Object{folder})
	checkMissing(t, "after the push", q, 4, head, nil)
	checkMissing(t, "still hidden", q, 3, head, head)
	if got := impl.StoreMissing(q.Main, head); !slices.Equal(got, head) {
		t.Errorf("StoreMissing ahead of promotion is %v", got)
	}
	q, ok := impl.QuarantinePromote(q, 4)
	if got := impl.StoreMissing(q.Main, head); !ok || len(got) != 0 {
		t.Errorf("StoreMissing after promotion is %v, %t", got, ok)
	}
	checkMissing(t, "for all then", q, 3, head, nil)
}

func TestMemoryOfQuarantineMissing(t *testing.T) {
	full := fullStore(t)
	links := merged([]impl.Object{commit("fix", 0, 500, 990), tree(0, 5)})
	for _, some := range []impl.Quarantine{
		{},
		quarantine(links),
		quarantine(nil, area(5, links)),
		quarantine(links, area(5, links)),
		quarantine(links, area(0, links), area(5, plain(t, 0, 500)), area(11, links)),
		quarantine(full, area(0, full), area(5, links)),
		quarantine(links, area(7, links), area(5, links)),
		quarantine(links, area(12, links)),
	} {
		for _, ids := range [][]int{nil, {}, {0}, {digest(links[0]), digest(links[1])}, {1, 2, 3, 990}, {991}, {5, 5}} {
			for _, txn := range []int{0, 4, 5, 11, -1, 12} {
				q, from := roomyQuarantine(some), roomy(ids)
				before := wholeQuarantine(q) + whole(from)
				checkApart(t, "QuarantineMissing", []any{q, from}, []any{impl.QuarantineMissing(q, txn, from), impl.QuarantineMissing(q, txn, from)})
				if after := wholeQuarantine(q) + whole(from); after != before {
					t.Fatalf("QuarantineMissing modified %s to %s", before, after)
				}
			}
		}
	}
}
