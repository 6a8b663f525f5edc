package tests

import (
	"testing"

	"loop.example/atomicpush/impl"
)

func TestP87Promote(t *testing.T) {
	store := plain(t, 10, 20)
	two, five, nine := area(2, plain(t, 30)), area(5, plain(t, 5, 15, 50)), area(9, plain(t, 20, 60))
	three := quarantine(store, two, five, nine)
	zero, eleven := area(0, plain(t, 1)), area(11, plain(t, 990))
	full := plain(t, idsFrom(100, 16)...)
	for _, test := range []struct {
		name string
		q    impl.Quarantine
		txn  int
		want impl.Quarantine
	}{
		{"the only area", quarantine(store, two), 2, quarantine(plain(t, 10, 20, 30))},
		{"the only area, into nothing", quarantine(nil, two), 2, quarantine(plain(t, 30))},
		{"several objects, into nothing", quarantine(nil, five), 5, quarantine(five.Objects)},
		{"the first area", three, 2, quarantine(plain(t, 10, 20, 30), five, nine)},
		{"the middle area", three, 5, quarantine(plain(t, 5, 10, 15, 20, 50), two, nine)},
		{"the last area", three, 9, quarantine(plain(t, 10, 20, 60), two, five)},
		{"the first transaction", quarantine(store, zero, two, eleven), 0, quarantine(plain(t, 1, 10, 20), two, eleven)},
		{"the last transaction", quarantine(store, zero, two, eleven), 11, quarantine(plain(t, 10, 20, 990), zero, two)},
		{"the first of four areas", quarantine(store, zero, two, five, eleven), 0, quarantine(plain(t, 1, 10, 20), two, five, eleven)},
		{"the third of four areas", quarantine(store, zero, two, five, eleven), 5, quarantine(plain(t, 5, 10, 15, 20, 50), zero, two, eleven)},
		{"the last of four areas", quarantine(store, zero, two, five, eleven), 11, quarantine(plain(t, 10, 20, 990), zero, two, five)},
		{"the store", quarantine(store, two, area(5, store)), 5, quarantine(store, two)},
		{"one that the store has", quarantine(store, area(5, plain(t, 20))), 5, quarantine(store)},
		{"what two areas have", quarantine(store, two, area(5, plain(t, 20, 30, 40))), 5, quarantine(plain(t, 10, 20, 30, 40), two)},
		{"what contradicts another area", quarantine(store, area(3, others(t, 10, 30)), area(5, plain(t, 30))), 5, quarantine(plain(t, 10, 20, 30), area(3, others(t, 10, 30)))},
		{"beside an area that is too large", quarantine(full[:15], area(3, plain(t, 1, 2)), area(5, full[15:])), 5, quarantine(full, area(3, plain(t, 1, 2)))},
		{"16 objects into nothing", quarantine(nil, two, area(5, full)), 5, quarantine(full, two)},
		{"16 objects of a full store", quarantine(full, area(5, full)), 5, quarantine(full)},
		{"one of a full store", quarantine(full, area(5, full[9:10])), 5, quarantine(full)},
		{"the sixteenth object", quarantine(full[1:], area(5, full[:1])), 5, quarantine(full)},
		{"six objects for ten", quarantine(full[:10], area(5, full[10:])), 5, quarantine(full)},
		{"16 objects with common ones", quarantine(full[:12], area(5, full[8:])), 5, quarantine(full)},
	} {
		checkPromote(t, test.name, test.q, test.txn, test.want, true)
	}
}

func TestP87Refused(t *testing.T) {
	store, right := plain(t, 10, 20, 30), area(3, plain(t, 30, 40))
	full := plain(t, idsFrom(100, 16)...)
	for _, test := range []struct {
		name    string
		store   []impl.Object
		objects []impl.Object
	}{
		{"the first one of the store contradicts", store, others(t, 10)},
		{"one in between contradicts", store, others(t, 20)},
		{"the last one of the store contradicts", store, others(t, 30)},
		{"all contradict", store, others(t, 10, 20, 30)},
		{"one contradicts, behind new ones", store, merged(plain(t, 5, 6), others(t, 10))},
		{"one contradicts, ahead of new ones", store, merged(others(t, 30), plain(t, 40, 50))},
		{"one contradicts, among others that are there", store, merged(plain(t, 10, 30), others(t, 20))},
		{"one contradicts in a full store", full, others(t, 107)},
		{"one more than 16 objects", full, plain(t, 500)},
		{"16 and 16 objects", full, plain(t, idsFrom(500, 16)...)},
		{"ten and seven objects", full[:10], plain(t, idsFrom(500, 7)...)},
		{"one and 16 objects", full[:1], plain(t, idsFrom(500, 16)...)},
		{"one more beside those that are there", full, merged(full[3:9], plain(t, 500))},
		{"one more than 16, with common ones", full[:12], merged(full[8:], plain(t, 500))},
	} {
		q := quarantine(test.store, right, area(5, test.objects), area(7, test.objects))
		checkPromote(t, test.name, q, 5, q, false)
		checkPromote(t, test.name+", in the last area", q, 7, q, false)
		q = quarantine(test.store, area(5, test.objects))
		checkPromote(t, test.name+", in the only area", q, 5, q, false)
	}
}

// All numbers of objects of the store and of the area, with and without common ones.
func TestP87EachSize(t *testing.T) {
	objects := plain(t, idsFrom(100, 32)...)
	for i := range 17 {
		for j := 1; j <= 16; j++ {
			for common := range min(i, j) + 1 {
				q := quarantine(objects[:i], area(4, objects[i-common:i-common+j]))
				want := q
				if i+j-common <= 16 {
					want = quarantine(objects[:i+j-common])
				}
				checkPromote(t, "some sizes", q, 4, want, i+j-common <= 16)
			}
		}
	}
}

func TestP87SameId(t *testing.T) {
	for _, pair := range [][2]impl.Object{{blob(""), blob("\xa5")}, {tree(0, 1, 2, 3), blob("\xff")}, {tree(0, 900), tree(1, 287)}} {
		q := quarantine(pair[:1], area(4, pair[1:]), area(6, pair[:1]))
		checkPromote(t, "another object", q, 4, q, false)
		checkPromote(t, "the same object", q, 6, quarantine(pair[:1], q.Areas[0]), true)
	}
	one, two := []impl.Object{{Kind: 1, Text: "a"}}, []impl.Object{{Kind: 1, Text: "a", Links: []int{}}}
	checkPromote(t, "no links and empty links", quarantine(one, area(4, two)), 4, quarantine(one), true)
	checkPromote(t, "empty links and no links", quarantine(two, area(4, one)), 4, quarantine(one), true)
}

func TestP87AllInTheStore(t *testing.T) {
	done, refused := 0, map[string]int{}
	eachQuarantine(t, 87, 6000, func(n *numbers, p pool, q impl.Quarantine, txn int) {
		want, failure := promoted(q, txn)
		checkPromote(t, failure, q, txn, want, failure == "")
		after, ok := impl.QuarantinePromote(q, txn)
		if !impl.QuarantineValid(after) {
			t.Fatalf("QuarantinePromote(%s, %d) = %s", shown(q), txn, shown(after))
		}
		if !ok {
			refused[failure]++
			return
		}
		done++
		for _, list := range [][]impl.Object{q.Main, areaIn(q, txn)} {
			for _, o := range list {
				if got, found := impl.StoreGet(after.Main, digest(o)); !found || !sameObject(got, o) {
					t.Fatalf("QuarantinePromote(%s, %d) = %s lacks %#v", shown(q), txn, shown(after), o)
				}
			}
		}
		if areaIn(after, txn) != nil || !sameAreas(after.Areas, otherAreas(q, txn)) {
			t.Fatalf("QuarantinePromote(%s, %d) = %s", shown(q), txn, shown(after))
		}
	})
	if done < 1000 || refused["no area"] < 1000 || refused["another object"] < 300 || refused["too many objects"] < 300 {
		t.Errorf("areas are promoted in %d cases, and not in %v", done, refused)
	}
}

func TestP87InvalidArguments(t *testing.T) {
	for name, q := range brokenQuarantines(t) {
		for txn := range 12 {
			checkPromote(t, name, q, txn, impl.Quarantine{}, false)
		}
		for _, txn := range wrongTxns() {
			checkPromote(t, name, q, txn, impl.Quarantine{}, false)
		}
	}
	full := fullStore(t)
	for _, txn := range wrongTxns() {
		for _, q := range []impl.Quarantine{quarantine(nil), quarantine(full), quarantine(plain(t, 10), area(0, plain(t, 20)), area(11, plain(t, 30))), quarantine(full, area(5, plain(t, 1)))} {
			checkPromote(t, "a wrong transaction", q, txn, impl.Quarantine{}, false)
		}
	}
}

func TestP88PromoteTwice(t *testing.T) {
	done := 0
	eachQuarantine(t, 88, 6000, func(n *numbers, p pool, q impl.Quarantine, txn int) {
		once, ok := impl.QuarantinePromote(q, txn)
		if !ok {
			checkPromote(t, "what is refused", once, txn, q, false)
			return
		}
		done++
		checkPromote(t, "a second time", once, txn, once, false)
		checkDiscard(t, "what is promoted", once, txn, once, false)
	})
	if done < 500 {
		t.Errorf("areas are promoted in only %d cases", done)
	}
}

// What could be put can be promoted, as nothing else changes the store.
func TestP88PutThenPromoteTwice(t *testing.T) {
	eachPut(t, 188, func(q impl.Quarantine, txn int, list []impl.Object) {
		put, ok := impl.QuarantinePut(q, txn, list)
		if !ok {
			return
		}
		store, _ := kept(q.Main, areaIn(put, txn))
		want := impl.Quarantine{Main: store, Areas: otherAreas(q, txn)}
		checkPromote(t, "what was put", put, txn, want, true)
		checkPromote(t, "what was put, twice", want, txn, want, false)
	})
}

// All four areas are promoted, whatever their order.
func TestP88EachOrder(t *testing.T) {
	q := quarantine(plain(t, 10, 20), area(0, plain(t, 20, 30)), area(4, plain(t, 5, 40)), area(7, plain(t, 40, 50)), area(11, plain(t, 990)))
	want := quarantine(plain(t, 5, 10, 20, 30, 40, 50, 990))
	txns := []int{0, 4, 7, 11}
	for order := range 256 {
		after, promotions := q, 0
		for i := range 4 {
			txn := txns[order>>(2*i)&3]
			next, failure := promoted(after, txn)
			checkPromote(t, failure, after, txn, next, failure == "")
			if failure == "" {
				promotions++
			}
			after, _ = impl.QuarantinePromote(after, txn)
		}
		if promotions == 4 && !sameQuarantine(after, want) {
			t.Fatalf("all areas promoted give %s", shown(after))
		}
	}
}

// A history of a quarantine, in which objects are put into areas that are promoted or discarded later on.
func TestP88History(t *testing.T) {
	n := numbers(288)
	p := newPool(t, &n)
	q := impl.Quarantine{}
	puts, promotions, discards := 0, 0, 0
	for step := range 6000 {
		if step%40 == 0 {
			q = impl.Quarantine{}
		}
		txn := n.anyTxn(q)
		switch n.below(5) {
		case 0:
			want, failure := promoted(q, txn)
			checkPromote(t, "a history", q, txn, want, failure == "")
			if failure == "" {
				promotions++
			}
			q, _ = impl.QuarantinePromote(q, txn)
		case 1:
			want, ok := discarded(q, txn)
			checkDiscard(t, "a history", q, txn, want, ok)
			if ok {
				discards++
			}
			q, _ = impl.QuarantineDiscard(q, txn)
		default:
			list := p.store(&n, p.size(&n), 4)
			want, failure := quarantined(q, txn, list)
			checkPut(t, "a history", q, txn, list, want, failure == "")
			if failure == "" {
				puts++
			}
			q, _ = impl.QuarantinePut(q, txn, list)
		}
	}
	if puts < 500 || promotions < 200 || discards < 200 {
		t.Errorf("%d puts, %d promotions, %d discards", puts, promotions, discards)
	}
}

func TestP94NoArea(t *testing.T) {
	full := fullStore(t)
	for _, test := range []struct {
		name string
		q    impl.Quarantine
		txns []int
	}{
		{"nothing", quarantine(nil), idsFrom(0, 12)},
		{"a store only", quarantine(plain(t, 10, 20)), idsFrom(0, 12)},
		{"a full store", quarantine(full), idsFrom(0, 12)},
		{"one area", quarantine(nil, area(5, plain(t, 30))), []int{0, 1, 4, 6, 11}},
		{"the first transaction", quarantine(full, area(0, full)), idsFrom(1, 11)},
		{"the last transaction", quarantine(full, area(11, full)), idsFrom(0, 11)},
		{"three areas", quarantine(plain(t, 10), area(2, plain(t, 10)), area(5, plain(t, 20)), area(9, others(t, 10))), []int{0, 1, 3, 4, 6, 7, 8, 10, 11}},
		{"four areas", quarantine(plain(t, 10), manyAreas(t, 4, 4)...), []int{0, 1, 2, 3, 8, 9, 10, 11}},
	} {
		for _, txn := range test.txns {
			checkPromote(t, test.name, test.q, txn, test.q, false)
			checkDiscard(t, test.name, test.q, txn, test.q, false)
		}
	}
}

func TestP94EachTransaction(t *testing.T) {
	eachQuarantine(t, 94, 2000, func(n *numbers, p pool, q impl.Quarantine, _ int) {
		for txn := range 12 {
			if len(areaIn(q, txn)) == 0 {
				checkPromote(t, "no area", q, txn, q, false)
				checkDiscard(t, "no area", q, txn, q, false)
			}
		}
	})
}
