package tests

import (
	"fmt"
	"math"
	"slices"
	"testing"

	"loop.example/atomicpush/impl"
)

// plain returns a blob for each id. The ids are ascending, so that the blobs are a store.
func plain(t *testing.T, ids ...int) []impl.Object {
	t.Helper()
	result := []impl.Object{}
	for _, id := range ids {
		result = append(result, objectWithId(t, id, nil))
	}
	return result
}

// others returns another object than plain for each id.
func others(t *testing.T, ids ...int) []impl.Object {
	t.Helper()
	result := []impl.Object{}
	for _, id := range ids {
		result = append(result, objectWithId(t, id, []int{5, 6}))
	}
	return result
}

// idsFrom returns the given number of ids, from the first one on.
func idsFrom(first int, many int) []int {
	result := []int{}
	for i := range many {
		result = append(result, first+i)
	}
	return result
}

// merged returns a store of the objects of all lists.
func merged(lists ...[]impl.Object) []impl.Object {
	result := slices.Concat(lists...)
	slices.SortFunc(result, func(a, b impl.Object) int { return digest(a) - digest(b) })
	return result
}

// area is the area of a transaction.
func area(txn int, lists ...[]impl.Object) impl.Area {
	return impl.Area{Txn: txn, Objects: slices.Concat(lists...)}
}

func quarantine(store []impl.Object, areas ...impl.Area) impl.Quarantine {
	return impl.Quarantine{Main: store, Areas: areas}
}

// sameArea compares areas; slices that are nil and slices that are empty are the same.
func sameArea(a impl.Area, b impl.Area) bool {
	return a.Txn == b.Txn && sameStore(a.Objects, b.Objects)
}

func sameAreas(a []impl.Area, b []impl.Area) bool {
	return slices.EqualFunc(a, b, sameArea)
}

func sameQuarantine(a impl.Quarantine, b impl.Quarantine) bool {
	return sameStore(a.Main, b.Main) && sameAreas(a.Areas, b.Areas)
}

// holds tells whether a list has an object.
func holds(list []impl.Object, o impl.Object) bool {
	return slices.ContainsFunc(list, func(p impl.Object) bool { return sameObject(p, o) })
}

// holdsId tells whether a list has an object with an id.
func holdsId(list []impl.Object, id int) bool {
	return slices.ContainsFunc(list, func(p impl.Object) bool { return digest(p) == id })
}

// areaIn returns the objects of a transaction that wait, and none if it has no area.
func areaIn(q impl.Quarantine, txn int) []impl.Object {
	for _, a := range q.Areas {
		if a.Txn == txn {
			return a.Objects
		}
	}
	return nil
}

// otherAreas returns the areas of all other transactions.
func otherAreas(q impl.Quarantine, txn int) []impl.Area {
	result := []impl.Area{}
	for _, a := range q.Areas {
		if a.Txn != txn {
			result = append(result, a)
		}
	}
	return result
}

// kept computes the store after the objects of a list are stored one after the other, and why this fails, if it does.
func kept(store []impl.Object, list []impl.Object) ([]impl.Object, string) {
	result := slices.Clone(store)
	for _, o := range list {
		switch {
		case holds(result, o):
		case holdsId(result, digest(o)):
			return nil, "another object"
		case len(result) == 16:
			return nil, "too many objects"
		default:
			result = merged(result, []impl.Object{o})
		}
	}
	return result, ""
}

// quarantined computes what QuarantinePut gives, as chapter 13 tells, for valid arguments, and why it fails, if it does.
func quarantined(q impl.Quarantine, txn int, list []impl.Object) (impl.Quarantine, string) {
	if len(areaIn(q, txn)) == 0 && len(q.Areas) == 4 {
		return q, "too many areas"
	}
	objects, failure := kept(areaIn(q, txn), list)
	if failure != "" {
		return q, failure + " in the area"
	}
	if _, failure = kept(q.Main, objects); failure != "" {
		return q, failure + " in the store"
	}
	areas := append(otherAreas(q, txn), area(txn, objects))
	slices.SortFunc(areas, func(a, b impl.Area) int { return a.Txn - b.Txn })
	return impl.Quarantine{Main: q.Main, Areas: areas}, ""
}

// promoted computes what QuarantinePromote gives, and why it fails, if it does.
func promoted(q impl.Quarantine, txn int) (impl.Quarantine, string) {
	if len(areaIn(q, txn)) == 0 {
		return q, "no area"
	}
	store, failure := kept(q.Main, areaIn(q, txn))
	if failure != "" {
		return q, failure
	}
	return impl.Quarantine{Main: store, Areas: otherAreas(q, txn)}, ""
}

// discarded computes what QuarantineDiscard gives.
func discarded(q impl.Quarantine, txn int) (impl.Quarantine, bool) {
	return impl.Quarantine{Main: q.Main, Areas: otherAreas(q, txn)}, len(areaIn(q, txn)) > 0
}

// together returns the objects of the store, and those of the area of a transaction whose ids the store does not have.
func together(q impl.Quarantine, txn int) []impl.Object {
	result := slices.Clone(q.Main)
	for _, o := range areaIn(q, txn) {
		if !holdsId(q.Main, digest(o)) {
			result = append(result, o)
		}
	}
	return result
}

// pool has two different objects for each of its ids, which are ascending. They link to each other and to other ids.
type pool [][2]impl.Object

// newPool returns a pool of 24 ids, the least and the greatest one among them.
func newPool(t *testing.T, n *numbers) pool {
	t.Helper()
	ids := []int{0}
	for i := range 22 {
		ids = append(ids, 1+44*i+n.below(44))
	}
	ids = append(ids, 990)
	known := append([]int{n.below(991), n.below(991)}, ids...)
	result := pool{}
	for _, id := range ids {
		one := objectWithId(t, id, n.ids(known, 4))
		two := one
		for sameObject(one, two) {
			two = objectWithId(t, id, n.ids(known, 4))
		}
		result = append(result, [2]impl.Object{one, two})
	}
	return result
}

// store returns a store of size objects of the pool. If odd is not 0, about one in odd of them is the second one of its id.
func (p pool) store(n *numbers, size int, odd int) []impl.Object {
	result := []impl.Object{}
	for i, pair := range p {
		if n.below(len(p)-i) >= size-len(result) {
			continue
		}
		if odd > 0 && n.below(odd) == 0 {
			result = append(result, pair[1])
		} else {
			result = append(result, pair[0])
		}
	}
	return result
}

// quarantine returns a valid quarantine. In about half of all cases no two of its objects contradict each other.
func (p pool) quarantine(n *numbers) impl.Quarantine {
	odd := 6 * n.below(2)
	result := impl.Quarantine{Main: p.store(n, n.below(17), odd)}
	many := n.below(5)
	for txn := range 12 {
		if n.below(12-txn) < many-len(result.Areas) {
			result.Areas = append(result.Areas, area(txn, p.store(n, p.size(n), odd)))
		}
	}
	return result
}

// size returns the number of objects of a list that is not empty, and more often a small than a large one.
func (p pool) size(n *numbers) int {
	return 1 + n.below(1+n.below(16))
}

// anyTxn returns a transaction, more often one that has an area than not.
func (n *numbers) anyTxn(q impl.Quarantine) int {
	if len(q.Areas) > 0 && n.below(4) > 0 {
		return q.Areas[n.below(len(q.Areas))].Txn
	}
	return n.below(12)
}

// anyFrom returns at most four ids, most of them of a pool.
func (n *numbers) anyFrom(p pool) []int {
	known := []int{n.below(991)}
	for _, pair := range p {
		known = append(known, digest(pair[0]))
	}
	return n.ids(known, 4)
}

// eachQuarantine calls check with many valid quarantines, and with transactions that have areas and others.
func eachQuarantine(t *testing.T, seed int, many int, check func(n *numbers, p pool, q impl.Quarantine, txn int)) {
	t.Helper()
	n := numbers(seed)
	p := newPool(t, &n)
	for i := range many {
		if i%500 == 499 {
			p = newPool(t, &n)
		}
		q := p.quarantine(&n)
		check(&n, p, q, n.anyTxn(q))
	}
}

// eachPut calls check with many valid arguments of QuarantinePut. It requires that each answer is asked for often enough.
func eachPut(t *testing.T, seed int, check func(q impl.Quarantine, txn int, list []impl.Object)) {
	t.Helper()
	counts := map[string]int{}
	eachQuarantine(t, seed, 6000, func(n *numbers, p pool, q impl.Quarantine, txn int) {
		list := p.store(n, p.size(n), 12*n.below(2))
		_, failure := quarantined(q, txn, list)
		counts[failure]++
		check(q, txn, list)
	})
	for _, answer := range []string{"", "too many areas", "another object in the area", "too many objects in the area", "another object in the store", "too many objects in the store"} {
		if counts[answer] < 50 {
			t.Errorf("%q is the answer in only %d cases", answer, counts[answer])
		}
	}
	if counts[""] < 1500 {
		t.Errorf("objects are put in only %d cases", counts[""])
	}
}

// manyAreas returns the given number of valid areas, from that of the first given transaction on.
func manyAreas(t *testing.T, first int, many int) []impl.Area {
	t.Helper()
	result := []impl.Area{}
	for i := range many {
		result = append(result, area(first+i, plain(t, 400+i)))
	}
	return result
}

// brokenQuarantines returns quarantines that are invalid, each for another reason.
func brokenQuarantines(t *testing.T) map[string]impl.Quarantine {
	t.Helper()
	store, one := plain(t, 10, 20), plain(t, 30)
	result := map[string]impl.Quarantine{
		"areas that descend":              quarantine(store, area(5, one), area(2, one)),
		"areas that descend at the end":   quarantine(store, area(0, one), area(2, one), area(11, one), area(5, one)),
		"areas that descend at first":     quarantine(store, area(5, one), area(2, one), area(11, one)),
		"a transaction twice":             quarantine(store, area(5, one), area(5, one)),
		"two areas of one transaction":    quarantine(store, area(5, one), area(5, plain(t, 40))),
		"the first transaction twice":     quarantine(store, area(0, one), area(0, one)),
		"the last transaction twice":      quarantine(store, area(2, one), area(11, one), area(11, one)),
		"a transaction twice, not beside": quarantine(store, area(5, one), area(7, one), area(5, one)),
		"five areas":                      quarantine(store, manyAreas(t, 0, 5)...),
		"five areas, and no store":        quarantine(nil, manyAreas(t, 7, 5)...),
		"twelve areas":                    quarantine(store, manyAreas(t, 0, 12)...),
		"many areas":                      quarantine(nil, manyAreas(t, 0, 500)...),
		"an area without objects":         quarantine(store, area(5)),
		"an area that is nil":             quarantine(store, impl.Area{Txn: 5}),
		"the zero value as an area":       quarantine(nil, impl.Area{}),
		"a first area without objects":    quarantine(store, area(2), area(5, one), area(7, one)),
		"a middle area without objects":   quarantine(store, area(2, one), area(5), area(7, one)),
		"a last area without objects":     quarantine(store, area(2, one), area(5, one), area(7)),
	}
	for name, list := range brokenStores(t) {
		result[name+" as the store"] = quarantine(list)
		result[name+" as the store with areas"] = quarantine(list, area(2, one), area(5, plain(t, 40)))
		result[name+" as an area"] = quarantine(store, area(5, list))
		result[name+" as a first area"] = quarantine(store, area(2, list), area(5, one), area(7, one))
		result[name+" as a middle area"] = quarantine(nil, area(2, one), area(5, list), area(7, one))
		result[name+" as a last area"] = quarantine(store, area(2, one), area(5, one), area(7, list))
		result[name+" as the store and an area"] = quarantine(list, area(5, list))
	}
	for _, txn := range wrongTxns() {
		result[fmt.Sprintf("an area of %d", txn)] = quarantine(store, area(txn, one))
		if txn < 0 {
			result[fmt.Sprintf("an area of %d, and others", txn)] = quarantine(store, area(txn, one), area(2, one), area(5, one))
		} else {
			result[fmt.Sprintf("an area of %d, and others", txn)] = quarantine(store, area(2, one), area(5, one), area(txn, one))
		}
	}
	return result
}

// brokenLists returns lists that no area can have, each for another reason.
func brokenLists(t *testing.T) map[string][]impl.Object {
	t.Helper()
	result := brokenStores(t)
	result["nothing"] = nil
	result["an empty slice"] = []impl.Object{}
	for i, o := range invalidObjects() {
		result[fmt.Sprintf("the invalid object %d", i)] = []impl.Object{o}
	}
	return result
}

// wrongFroms returns ids from which nothing is reached, as they are invalid.
func wrongFroms() [][]int {
	return [][]int{
		{-1}, {991}, {992}, {math.MinInt}, {math.MaxInt}, {-1, 10}, {10, 991}, {10, math.MaxInt}, {10, 10}, {0, 0}, {990, 990}, {20, 10},
		{10, 20, 20}, {10, 20, 30, 30}, {10, 30, 20}, {10, 20, 40, 30}, {0, 1, 2, 3, 4}, {10, 20, 30, 40, 50}, {10, 20, 30, 40, 991}, make([]int, 1000),
	}
}

// checkPut fails if QuarantinePut does not give the quarantine.
func checkPut(t *testing.T, name string, q impl.Quarantine, txn int, list []impl.Object, want impl.Quarantine, ok bool) {
	t.Helper()
	if got, done := impl.QuarantinePut(q, txn, list); !sameQuarantine(got, want) || done != ok {
		t.Fatalf("%s: QuarantinePut(%s, %d, %s) = %s, %t, not %s, %t", name, shown(q), txn, shown(list), shown(got), done, shown(want), ok)
	}
}

// checkPromote fails if QuarantinePromote does not give the quarantine.
func checkPromote(t *testing.T, name string, q impl.Quarantine, txn int, want impl.Quarantine, ok bool) {
	t.Helper()
	if got, done := impl.QuarantinePromote(q, txn); !sameQuarantine(got, want) || done != ok {
		t.Fatalf("%s: QuarantinePromote(%s, %d) = %s, %t, not %s, %t", name, shown(q), txn, shown(got), done, shown(want), ok)
	}
}

// checkDiscard fails if QuarantineDiscard does not give the quarantine.
func checkDiscard(t *testing.T, name string, q impl.Quarantine, txn int, want impl.Quarantine, ok bool) {
	t.Helper()
	if got, done := impl.QuarantineDiscard(q, txn); !sameQuarantine(got, want) || done != ok {
		t.Fatalf("%s: QuarantineDiscard(%s, %d) = %s, %t, not %s, %t", name, shown(q), txn, shown(got), done, shown(want), ok)
	}
}

// checkMissing fails if QuarantineMissing does not give the ids.
func checkMissing(t *testing.T, name string, q impl.Quarantine, txn int, from []int, want []int) {
	t.Helper()
	if got := impl.QuarantineMissing(q, txn, from); !slices.Equal(got, want) {
		t.Fatalf("%s: QuarantineMissing(%s, %d, %s) = %v, not %v", name, shown(q), txn, shown(from), got, want)
	}
}

// checkQuarantineValid fails if QuarantineValid gives another answer.
func checkQuarantineValid(t *testing.T, name string, q impl.Quarantine, want bool) {
	t.Helper()
	if got := impl.QuarantineValid(q); got != want {
		t.Fatalf("%s: QuarantineValid(%s) = %t", name, shown(q), got)
	}
}

// roomyQuarantine returns the quarantine in slices with space behind them.
func roomyQuarantine(q impl.Quarantine) impl.Quarantine {
	areas := make([]impl.Area, 0, len(q.Areas)+2)
	for _, a := range append(slices.Clone(q.Areas), impl.Area{Txn: -77, Objects: []impl.Object{blob("spare")}}) {
		areas = append(areas, impl.Area{Txn: a.Txn, Objects: roomyObjects(a.Objects)})
	}
	return impl.Quarantine{Main: roomyObjects(q.Main), Areas: areas[:len(q.Areas)]}
}

// wholeQuarantine describes all memory of a quarantine, also the space behind its slices.
func wholeQuarantine(q impl.Quarantine) string {
	result := wholeObjects(q.Main) + fmt.Sprint(q.Areas == nil, len(q.Areas))
	for _, a := range q.Areas[:cap(q.Areas)] {
		result += fmt.Sprintf(" %d: %s", a.Txn, wholeObjects(a.Objects))
	}
	return result
}
