package tests

import (
	"slices"
	"testing"

	"loop.example/atomicpush/impl"
)

func TestP85Put(t *testing.T) {
	store := plain(t, 10, 20)
	two, five, nine := area(2, plain(t, 30)), area(5, plain(t, 40, 50)), area(9, plain(t, 60))
	three := quarantine(store, two, five, nine)
	eleven := area(11, plain(t, 70))
	for _, test := range []struct {
		name string
		q    impl.Quarantine
		txn  int
		list []impl.Object
		want []impl.Area
	}{
		{"into nothing", quarantine(nil), 2, plain(t, 30), []impl.Area{two}},
		{"several objects into nothing", quarantine(nil), 5, plain(t, 40, 50), []impl.Area{five}},
		{"the first area", quarantine(store), 2, plain(t, 30), []impl.Area{two}},
		{"the first transaction", quarantine(store), 0, plain(t, 40, 50), []impl.Area{area(0, plain(t, 40, 50))}},
		{"the last transaction", quarantine(store), 11, plain(t, 70), []impl.Area{eleven}},
		{"the first transaction ahead of others", three, 0, plain(t, 70), []impl.Area{area(0, plain(t, 70)), two, five, nine}},
		{"right ahead of others", three, 1, plain(t, 70), []impl.Area{area(1, plain(t, 70)), two, five, nine}},
		{"behind the first one", three, 3, plain(t, 70), []impl.Area{two, area(3, plain(t, 70)), five, nine}},
		{"ahead of the last one", three, 8, plain(t, 70), []impl.Area{two, five, area(8, plain(t, 70)), nine}},
		{"right behind others", three, 10, plain(t, 70), []impl.Area{two, five, nine, area(10, plain(t, 70))}},
		{"the last transaction behind others", three, 11, plain(t, 70), []impl.Area{two, five, nine, eleven}},
		{"more into the first area", three, 2, plain(t, 70), []impl.Area{area(2, plain(t, 30, 70)), five, nine}},
		{"more into the middle area", three, 5, plain(t, 45), []impl.Area{two, area(5, plain(t, 40, 45, 50)), nine}},
		{"more into the last area", three, 9, plain(t, 0, 990), []impl.Area{two, five, area(9, plain(t, 0, 60, 990))}},
		{"one that the area has", three, 5, plain(t, 50), []impl.Area{two, five, nine}},
		{"all that the area has", three, 5, plain(t, 40, 50), []impl.Area{two, five, nine}},
		{"some that the area has", three, 5, plain(t, 35, 40, 55), []impl.Area{two, area(5, plain(t, 35, 40, 50, 55)), nine}},
		{"one that the store has", three, 5, plain(t, 10), []impl.Area{two, area(5, plain(t, 10, 40, 50)), nine}},
		{"all that the store has", three, 11, store, []impl.Area{two, five, nine, area(11, store)}},
		{"some that the store has", three, 2, plain(t, 5, 10, 25), []impl.Area{area(2, plain(t, 5, 10, 25, 30)), five, nine}},
		{"what another area has", three, 2, plain(t, 40, 60), []impl.Area{area(2, plain(t, 30, 40, 60)), five, nine}},
		{"what contradicts another area", three, 2, others(t, 40), []impl.Area{area(2, plain(t, 30), others(t, 40)), five, nine}},
		{"into the first of four areas", quarantine(store, two, five, nine, eleven), 2, plain(t, 80), []impl.Area{area(2, plain(t, 30, 80)), five, nine, eleven}},
		{"into the last of four areas", quarantine(store, two, five, nine, eleven), 11, plain(t, 80), []impl.Area{two, five, nine, area(11, plain(t, 70, 80))}},
		{"nothing new into one of four areas", quarantine(store, two, five, nine, eleven), 5, plain(t, 40), []impl.Area{two, five, nine, eleven}},
	} {
		checkPut(t, test.name, test.q, test.txn, test.list, quarantine(test.q.Main, test.want...), true)
	}
}

// Objects of all kinds are quarantined, also with ids of links that nobody has.
func TestP85Kinds(t *testing.T) {
	list := merged([]impl.Object{blob("a"), blob(""), tree(), tree(0, 990), commit("", 5), commit("12345678", 0, 1, 2, 990)})
	checkPut(t, "all kinds", quarantine(nil), 4, list, quarantine(nil, area(4, list)), true)
	for _, o := range list {
		checkPut(t, "one object", quarantine(list), 4, []impl.Object{o}, quarantine(list, area(4, []impl.Object{o})), true)
	}
}

// An area has at most 16 objects, and the store would have at most 16 with them.
func TestP85LargestAreas(t *testing.T) {
	full := plain(t, idsFrom(100, 16)...)
	fresh := plain(t, 500)
	for _, test := range []struct {
		name  string
		store []impl.Object
		had   []impl.Object
		list  []impl.Object
		want  []impl.Object
		ok    bool
	}{
		{"16 objects at once", nil, nil, full, full, true},
		{"16 objects of a full store", full, nil, full, full, true},
		{"16 objects of a full area", nil, full, full, full, true},
		{"16 objects of both", full, full, full, full, true},
		{"the sixteenth object", nil, full[1:], full[:1], full, true},
		{"the sixteenth object, and others again", nil, full[:15], full[10:], full, true},
		{"the seventeenth object", nil, full, fresh, full, false},
		{"the seventeenth object beside others that are there", nil, full, merged(full[:5], fresh), full, false},
		{"ten and seven objects", nil, full[:10], plain(t, idsFrom(500, 7)...), full[:10], false},
		{"ten and six objects", nil, full[:10], plain(t, idsFrom(500, 6)...), merged(full[:10], plain(t, idsFrom(500, 6)...)), true},
		{"one more than a full store", full, nil, fresh, nil, false},
		{"one more than a full store and an area", full, full[:3], fresh, full[:3], false},
		{"one more beside those of a full store", full, nil, merged(full[:5], fresh), nil, false},
		{"one of a full store", full, nil, full[7:8], full[7:8], true},
		{"one more of a full store", full, full[:7], full[7:8], full[:8], true},
		{"the store would have 16", full[:10], full[10:12], full[12:], full[10:], true},
		{"the store would have 16 by one", full[:15], nil, full[15:], full[15:], true},
		{"the store would have 16, with common ones", full[:12], full[8:13], full[13:], full[8:], true},
		{"the store would have 17", full[:10], full[10:12], merged(full[12:], fresh), full[10:12], false},
		{"the store would have 17 by one", full[:15], full[15:], fresh, full[15:], false},
		{"the store would have 17, with common ones", full[:12], full[8:], fresh, full[8:], false},
		{"an area with which the store has 17 already", full[:15], merged(full[15:], fresh), fresh, merged(full[15:], fresh), false},
		{"an area that is too large for the store already, by one", full, fresh, full[:1], fresh, false},
	} {
		areas, want := []impl.Area{area(3, others(t, 100))}, []impl.Area{area(3, others(t, 100))}
		if len(test.had) > 0 {
			areas = append(areas, area(6, test.had))
		}
		if len(test.want) > 0 {
			want = append(want, area(6, test.want))
		}
		checkPut(t, test.name, quarantine(test.store, areas...), 6, test.list, quarantine(test.store, want...), test.ok)
	}
}

// All numbers of objects of the store, of the area and of the list, without common ones.
func TestP85EachSize(t *testing.T) {
	store, had, list := plain(t, idsFrom(100, 16)...), plain(t, idsFrom(200, 16)...), plain(t, idsFrom(300, 16)...)
	for i := range 17 {
		for j := range 17 {
			for k := 1; k <= 16; k++ {
				before, after := quarantine(store[:i]), quarantine(store[:i], area(6, had[:j], list[:k]))
				if j > 0 {
					before = quarantine(store[:i], area(6, had[:j]))
				}
				if i+j+k > 16 {
					after = before
				}
				checkPut(t, "some sizes", before, 6, list[:k], after, i+j+k <= 16)
			}
		}
	}
}

func TestP85Contradictions(t *testing.T) {
	store, had := plain(t, 10, 20, 30), plain(t, 40, 50, 60)
	q := quarantine(store, area(3, others(t, 70)), area(6, had), area(8, others(t, 10, 40)))
	for _, test := range []struct {
		name string
		list []impl.Object
	}{
		{"the first one of the area", others(t, 40)},
		{"one in between of the area", others(t, 50)},
		{"the last one of the area", others(t, 60)},
		{"all of the area", others(t, 40, 50, 60)},
		{"the first one of the store", others(t, 10)},
		{"one in between of the store", others(t, 20)},
		{"the last one of the store", others(t, 30)},
		{"all of the store", others(t, 10, 20, 30)},
		{"one of the area, behind a new one", merged(plain(t, 5), others(t, 40))},
		{"one of the area, ahead of a new one", merged(others(t, 40), plain(t, 80))},
		{"one of the area, among its others", merged(plain(t, 40), others(t, 50), plain(t, 60))},
		{"one of the store, behind a new one", merged(plain(t, 5), others(t, 10))},
		{"one of the store, ahead of a new one", merged(others(t, 30), plain(t, 80))},
		{"one of the store, among its others", merged(plain(t, 10), others(t, 20), plain(t, 30))},
		{"one of the store and one of the area", others(t, 20, 50)},
	} {
		checkPut(t, test.name, q, 6, test.list, q, false)
	}
	checkPut(t, "one of the store, by an area of its own", q, 1, others(t, 20), q, false)
	checkPut(t, "ids of the area, but none of it", q, 1, others(t, 50), quarantine(store, area(1, others(t, 50)), q.Areas[0], q.Areas[1], q.Areas[2]), true)
}

// A quarantine is valid also if an area contradicts the store. Such an area takes nothing more, and others do.
func TestP85AreaThatContradicts(t *testing.T) {
	q := quarantine(plain(t, 10, 20), area(3, others(t, 20), plain(t, 30)), area(6, plain(t, 40)))
	for _, list := range [][]impl.Object{plain(t, 10), others(t, 20), plain(t, 20), plain(t, 30), plain(t, 50), q.Areas[0].Objects, q.Main} {
		checkPut(t, "an area that contradicts", q, 3, list, q, false)
	}
	checkPut(t, "another area", q, 6, plain(t, 20), quarantine(q.Main, q.Areas[0], area(6, plain(t, 20, 40))), true)
	checkPut(t, "a new area", q, 7, plain(t, 20), quarantine(q.Main, q.Areas[0], q.Areas[1], area(7, plain(t, 20))), true)
}

// Two objects with one id that differ only in the kind, the text or the links contradict each other.
func TestP85SameId(t *testing.T) {
	for _, pair := range [][2]impl.Object{{blob(""), blob("\xa5")}, {tree(0, 1, 2, 3), blob("\xff")}, {tree(0, 900), tree(1, 287)}} {
		one, two := []impl.Object{pair[0]}, []impl.Object{pair[1]}
		checkPut(t, "in the area", quarantine(nil, area(4, one)), 4, two, quarantine(nil, area(4, one)), false)
		checkPut(t, "in the store", quarantine(one), 4, two, quarantine(one), false)
		checkPut(t, "in another area", quarantine(nil, area(3, one)), 4, two, quarantine(nil, area(3, one), area(4, two)), true)
	}
}

// Links that are nil and links that are empty make equal objects.
func TestP85EmptyLinks(t *testing.T) {
	one, two := []impl.Object{{Kind: 1, Text: "a"}}, []impl.Object{{Kind: 1, Text: "a", Links: []int{}}}
	for _, pair := range [][2][]impl.Object{{one, two}, {two, one}} {
		q := quarantine(pair[0], area(4, pair[1]))
		checkPut(t, "one that is there", q, 4, pair[0], q, true)
		checkPut(t, "one that is there, also as an area", quarantine(pair[0]), 4, pair[1], q, true)
	}
}

func TestP85FourAreas(t *testing.T) {
	for _, txns := range [][]int{{0, 1, 2, 3}, {8, 9, 10, 11}, {0, 4, 7, 11}, {1, 3, 5, 10}} {
		q := quarantine(plain(t, 10, 20))
		for i, txn := range txns {
			q.Areas = append(q.Areas, area(txn, plain(t, 30+i)))
		}
		for txn := range 12 {
			at := slices.Index(txns, txn)
			for _, list := range [][]impl.Object{plain(t, 50), plain(t, 10), plain(t, 10, 50)} {
				if at < 0 {
					checkPut(t, "a fifth area", q, txn, list, q, false)
					continue
				}
				after := quarantine(q.Main, changed(q.Areas, at, area(txn, merged(list, plain(t, 30+at))))...)
				checkPut(t, "one of four areas", q, txn, list, after, true)
			}
		}
	}
}

func TestP85EachTransaction(t *testing.T) {
	list := plain(t, 50)
	for txn := range 12 {
		checkPut(t, "a new area", quarantine(nil), txn, list, quarantine(nil, area(txn, list)), true)
		for other := range 12 {
			areas := []impl.Area{area(other, plain(t, 40))}
			switch {
			case other < txn:
				areas = append(areas, area(txn, list))
			case other > txn:
				areas = append([]impl.Area{area(txn, list)}, areas...)
			default:
				areas = []impl.Area{area(txn, plain(t, 40, 50))}
			}
			checkPut(t, "a second area", quarantine(nil, area(other, plain(t, 40))), txn, list, quarantine(nil, areas...), true)
		}
	}
}

func TestP85Hidden(t *testing.T) {
	eachPut(t, 85, func(q impl.Quarantine, txn int, list []impl.Object) {
		want, failure := quarantined(q, txn, list)
		checkPut(t, failure, q, txn, list, want, failure == "")
		after, done := impl.QuarantinePut(q, txn, list)
		if !impl.QuarantineValid(after) || !sameStore(after.Main, q.Main) || !sameAreas(otherAreas(after, txn), otherAreas(q, txn)) {
			t.Fatalf("QuarantinePut(%s, %d, %s) = %s", shown(q), txn, shown(list), shown(after))
		}
		for _, o := range append(slices.Clone(list), areaIn(q, txn)...) {
			if done && !holds(areaIn(after, txn), o) {
				t.Fatalf("QuarantinePut(%s, %d, %s) = %s lacks %#v", shown(q), txn, shown(list), shown(after), o)
			}
		}
	})
}

func TestP85InvalidList(t *testing.T) {
	full := fullStore(t)
	four := quarantine(plain(t, 10), manyAreas(t, 4, 4)...)
	for name, list := range brokenLists(t) {
		for _, q := range []impl.Quarantine{quarantine(nil), quarantine(plain(t, 10, 20), area(5, plain(t, 30))), quarantine(full, area(5, full)), four} {
			for _, txn := range []int{0, 5, 11} {
				checkPut(t, name, q, txn, list, impl.Quarantine{}, false)
			}
		}
	}
}

// The answer is that of an invalid argument also where the objects could not be put, and where they are there.
func TestP85InvalidTransaction(t *testing.T) {
	full := fullStore(t)
	four := quarantine(plain(t, 10), manyAreas(t, 4, 4)...)
	for _, txn := range wrongTxns() {
		for _, q := range []impl.Quarantine{quarantine(nil), quarantine(plain(t, 10, 20), area(0, plain(t, 30)), area(11, plain(t, 30))), quarantine(full, area(5, full)), four} {
			for _, list := range [][]impl.Object{plain(t, 10), others(t, 10), plain(t, 30), plain(t, 500)} {
				checkPut(t, "a wrong transaction", q, txn, list, impl.Quarantine{}, false)
			}
		}
	}
}

func TestP85InvalidQuarantine(t *testing.T) {
	for name, q := range brokenQuarantines(t) {
		for _, txn := range []int{0, 2, 5, 7, 11} {
			for _, list := range [][]impl.Object{plain(t, 10), plain(t, 30), others(t, 30), plain(t, 500)} {
				checkPut(t, name, q, txn, list, impl.Quarantine{}, false)
			}
		}
	}
}

func TestP85SeveralInvalidArguments(t *testing.T) {
	right := quarantine(plain(t, 10, 20), area(5, plain(t, 30)))
	lists := brokenLists(t)
	for name, q := range brokenQuarantines(t) {
		for _, txn := range wrongTxns() {
			checkPut(t, name, q, txn, right.Main, impl.Quarantine{}, false)
		}
		for other, list := range lists {
			checkPut(t, name+" and "+other, q, 5, list, impl.Quarantine{}, false)
			checkPut(t, name+" and "+other, q, 12, list, impl.Quarantine{}, false)
		}
	}
	for name, list := range lists {
		for _, txn := range wrongTxns() {
			checkPut(t, name, right, txn, list, impl.Quarantine{}, false)
		}
	}
}

func TestP86PutTwice(t *testing.T) {
	done := 0
	eachPut(t, 86, func(q impl.Quarantine, txn int, list []impl.Object) {
		once, ok := impl.QuarantinePut(q, txn, list)
		if !ok {
			checkPut(t, "what is refused", once, txn, list, q, false)
			return
		}
		done++
		checkPut(t, "the same objects again", once, txn, list, once, true)
		checkPut(t, "all of the area again", once, txn, areaIn(once, txn), once, true)
		for _, o := range list {
			checkPut(t, "one of the objects again", once, txn, []impl.Object{o}, once, true)
		}
	})
	if done < 1500 {
		t.Errorf("objects are put twice in only %d cases", done)
	}
}

// Objects that are put one after the other are in the area as those that are put at once.
func TestP86OneByOne(t *testing.T) {
	eachPut(t, 186, func(q impl.Quarantine, txn int, list []impl.Object) {
		want, ok := impl.QuarantinePut(q, txn, list)
		if !ok {
			return
		}
		after := q
		for _, o := range slices.Backward(list) {
			after, ok = impl.QuarantinePut(after, txn, []impl.Object{o})
			if !ok {
				t.Fatalf("QuarantinePut(%s, %d, %#v) fails", shown(after), txn, o)
			}
		}
		if !sameQuarantine(after, want) {
			t.Fatalf("QuarantinePut of %s, one by one, into %s is %s", shown(list), shown(q), shown(after))
		}
	})
}

func TestMemoryOfQuarantinePut(t *testing.T) {
	full := fullStore(t)
	links := merged([]impl.Object{commit("fix", 0, 500, 990), tree(0, 5)})
	quarantines := []impl.Quarantine{
		{},
		quarantine(links),
		quarantine(links, area(5, links)),
		quarantine(links, area(0, links), area(5, links), area(11, links)),
		quarantine(links, area(1, links), area(2, links), area(3, links), area(4, links)),
		quarantine(plain(t, 10), area(5, others(t, 10))),
		quarantine(full, area(5, full)),
		quarantine(links, area(5)),
		quarantine(links, area(7, links), area(5, links)),
		quarantine(links, area(12, links)),
	}
	lists := [][]impl.Object{nil, {}, links, plain(t, 50), plain(t, 10), others(t, 10), full, full[:15], {blob("123456789")}}
	for _, some := range quarantines {
		for _, someObjects := range lists {
			for _, txn := range []int{0, 5, 11, -1, 12} {
				q, list := roomyQuarantine(some), roomyObjects(someObjects)
				before := wholeQuarantine(q) + wholeObjects(list)
				one, _ := impl.QuarantinePut(q, txn, list)
				two, _ := impl.QuarantinePut(q, txn, list)
				checkApart(t, "QuarantinePut", []any{q, list}, []any{one, two})
				if after := wholeQuarantine(q) + wholeObjects(list); after != before {
					t.Fatalf("QuarantinePut modified %s to %s", before, after)
				}
			}
		}
	}
}

// The store, an area, and the list may be one piece of memory; the answer has one for each.
func TestMemoryOfQuarantinePutShared(t *testing.T) {
	links := roomyObjects(merged([]impl.Object{commit("fix", 0, 500, 990), tree(0, 5)}))
	q := quarantine(links, area(3, links), area(5, links))
	for _, txn := range []int{3, 4, 5, 6} {
		after, ok := impl.QuarantinePut(q, txn, links)
		if !ok {
			t.Fatalf("QuarantinePut fails")
		}
		checkApart(t, "QuarantinePut", []any{q, links}, []any{after})
	}
}
