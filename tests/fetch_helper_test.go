package tests

import (
	"fmt"
	"slices"
	"strings"
	"testing"

	"loop.example/atomicpush/impl"
)

// request is the arguments of FetchNeed and FetchPack.
type request struct {
	store []impl.Object
	wants []int
	haves []int
}

// neededBy computes the ids that a client needs, and whether nothing of what it wants is missing. The arguments are valid.
func neededBy(r request) ([]int, bool) {
	wanted, missing := closure(r.store, r.wants)
	if len(missing) > 0 {
		return nil, false
	}
	there, _ := closure(r.store, r.haves)
	return slices.DeleteFunc(wanted, func(id int) bool { return slices.Contains(there, id) }), true
}

// pick returns the objects of a store with some ids, in the order of the ids.
func pick(t *testing.T, store []impl.Object, ids []int) []impl.Object {
	t.Helper()
	result := []impl.Object{}
	for _, id := range ids {
		result = append(result, object(t, store, id))
	}
	return result
}

// reachable returns exactly the objects that are reached from some ids.
func reachable(t *testing.T, store []impl.Object, from []int) []impl.Object {
	t.Helper()
	stored, _ := closure(store, from)
	return pick(t, store, stored)
}

func idsOf(list []impl.Object) []int {
	result := []int{}
	for _, o := range list {
		result = append(result, digest(o))
	}
	return result
}

// missesBehindNamed tells whether what is missing can only be found by going on from what the client names.
func missesBehindNamed(r request) bool {
	there, gaps := closure(r.store, r.haves)
	rest := slices.DeleteFunc(slices.Clone(r.store), func(o impl.Object) bool { return slices.Contains(there, digest(o)) })
	_, missing := closure(rest, r.wants)
	return !slices.ContainsFunc(missing, func(id int) bool { return !slices.Contains(there, id) && !slices.Contains(gaps, id) })
}

// kindOf names the case of a request with valid arguments.
func kindOf(r request) string {
	need, ok := neededBy(r)
	wanted, missing := closure(r.store, r.wants)
	overlap := slices.ContainsFunc(missing, func(id int) bool { return slices.Contains(r.wants, id) })
	switch {
	case !ok && missesBehindNamed(r):
		return "missing behind what is named"
	case !ok && overlap:
		return "a wanted id is missing"
	case !ok:
		return "a reached id is missing"
	case len(wanted) == 0:
		return "nothing is wanted"
	case len(need) == 0:
		return "nothing is needed"
	case len(need) < len(wanted):
		return "some are needed"
	case len(r.haves) > 0:
		return "all are needed, though ids are named"
	}
	return "nothing is named"
}

// offered returns a store of objects of all kinds that link to earlier ones, and in about one of gaps cases to an id that is not stored.
// Many texts have much in common.
func (n *numbers) offered(size int, gaps int) []impl.Object {
	list := []impl.Object{}
	for len(list) < size {
		o := n.anyObject(list)
		links := n.ids(idsOf(list), 3)
		if id := n.below(991); n.below(gaps) == 0 && !slices.Contains(links, id) {
			links = append(links, id)
			slices.Sort(links)
		}
		switch {
		case n.below(3) == 0:
			o = tree(links...)
		case len(links) > 0 && n.below(3) > 0:
			o = commit(o.Text, links...)
		default:
			o = blob(o.Text)
		}
		if !holdsId(list, digest(o)) {
			list = append(list, o)
		}
	}
	return merged(list)
}

// request returns valid arguments: ids that are stored for the most part, and a few that are not.
func (n *numbers) request(store []impl.Object) request {
	ids := idsOf(store)
	some := append([]int{n.below(991)}, ids...)
	r := request{store: store, wants: n.ids(ids, 4), haves: n.ids(some, 4)}
	if n.below(8) == 0 {
		r.wants = n.ids(some, 4)
	}
	if n.below(6) == 0 {
		r.haves = nil
	}
	return r
}

// eachRequest calls check with many valid arguments, and requires that each kind of them is met often enough.
func eachRequest(t *testing.T, seed int, check func(r request)) {
	t.Helper()
	n, counts := numbers(seed), map[string]int{}
	for i := range 600 {
		store := n.offered(n.below(17), []int{8, 40, 1000}[i%3])
		switch i % 10 {
		case 8:
			store = completeStore(t, &n)
		case 9:
			store = makeStore(t, &n, n.below(17))
		}
		for range 6 {
			r := n.request(store)
			counts[kindOf(r)]++
			if _, gaps := closure(store, r.haves); len(gaps) > 0 {
				counts["a gap in what is named"]++
			}
			check(r)
		}
	}
	for _, kind := range []string{"missing behind what is named", "a wanted id is missing", "a reached id is missing", "nothing is wanted", "nothing is needed", "some are needed", "all are needed, though ids are named", "nothing is named", "a gap in what is named"} {
		if counts[kind] < 50 {
			t.Errorf("%q holds for only %d requests", kind, counts[kind])
		}
	}
}

// library returns a store with two branches of a history, 310 and 320, joined by 400, an object that nobody links to, and incomplete objects.
// The ids 510, 540 and 990 are not stored.
func library(t *testing.T) []impl.Object {
	t.Helper()
	return []impl.Object{
		linked(t, 0), linked(t, 110), linked(t, 120),
		linked(t, 200, 0, 110), linked(t, 210, 110, 120),
		linked(t, 300, 200), linked(t, 310, 200, 210, 300), linked(t, 320, 210, 300), linked(t, 400, 310, 320),
		linked(t, 500, 200, 510), linked(t, 520, 500), linked(t, 530, 520), linked(t, 550, 120, 540, 990),
		linked(t, 700),
	}
}

// circles returns a store with objects that link to themselves and to each other in circles. All but 700 are complete.
func circles(t *testing.T) []impl.Object {
	t.Helper()
	return []impl.Object{
		linked(t, 100, 100), linked(t, 200, 300), linked(t, 300, 400, 500), linked(t, 400, 200), linked(t, 500),
		linked(t, 600, 400, 600), linked(t, 700, 200, 710, 800), linked(t, 800, 700),
	}
}

// steps returns a full store in which each object links to the one before.
func steps(t *testing.T) []impl.Object {
	t.Helper()
	list := []impl.Object{linked(t, 7)}
	for i := 1; i < 16; i++ {
		list = append(list, linked(t, 7+50*i, 7+50*(i-1)))
	}
	return list
}

// alike returns a full store of objects of all kinds whose texts have much in common, so that a pack of them has many bases.
// It also returns the ids of four objects from which all are reached.
func alike(t *testing.T) ([]impl.Object, []int) {
	t.Helper()
	list, tops := blobs("", "a", "abcd", "abcdx", "abcdxy", "bcdxy", "12345678", "5678", "x5678", "\x00\xff", "\xff\x00\xff"), []int{}
	join := func(o impl.Object, parts ...impl.Object) impl.Object {
		o.Links = idsOf(merged(parts))
		list = append(list, o)
		return o
	}
	folder := join(tree(), list[0], list[1], list[2], list[3])
	first := join(commit("abcd"), folder, list[4])
	for _, o := range []impl.Object{join(commit("abcdx"), first, list[5], list[6]), join(commit("x5678"), first, list[7], list[8]), join(tree(), list[9], list[10])} {
		tops = append(tops, digest(o))
	}
	slices.Sort(tops)
	return merged(list), tops
}

// checkNeed fails if FetchNeed or FetchPack does not answer with exactly the objects with some ids, or at all.
func checkNeed(t *testing.T, name string, r request, want []int) {
	t.Helper()
	if got, ok := impl.FetchNeed(r.store, r.wants, r.haves); !ok || !slices.Equal(got, want) {
		t.Fatalf("%s: FetchNeed(%s, %v, %v) = %v, %t, not %v, true", name, shown(r.store), r.wants, r.haves, got, ok, want)
	}
	pack := packOf(pick(t, r.store, want))
	if got, ok := impl.FetchPack(r.store, r.wants, r.haves); !ok || !samePack(got, pack) {
		t.Fatalf("%s: FetchPack(%s, %v, %v) = %s, %t, not %s, true", name, shown(r.store), r.wants, r.haves, shown(got), ok, shown(pack))
	}
}

// checkNothing fails if FetchNeed or FetchPack does not fail.
func checkNothing(t *testing.T, name string, r request) {
	t.Helper()
	if got, ok := impl.FetchNeed(r.store, r.wants, r.haves); ok || len(got) != 0 {
		t.Fatalf("%s: FetchNeed(%s, %s, %s) = %v, %t, not [], false", name, shown(r.store), shown(r.wants), shown(r.haves), got, ok)
	}
	if got, ok := impl.FetchPack(r.store, r.wants, r.haves); ok || len(got) != 0 {
		t.Fatalf("%s: FetchPack(%s, %s, %s) = %s, %t, not [], false", name, shown(r.store), shown(r.wants), shown(r.haves), shown(got), ok)
	}
}

// checkRequest fails if FetchNeed or FetchPack does not answer valid arguments as chapter 32 tells.
func checkRequest(t *testing.T, name string, r request) {
	t.Helper()
	if want, ok := neededBy(r); ok {
		checkNeed(t, name, r, want)
	} else {
		checkNothing(t, name, r)
	}
}

// checkFetched fails if FetchStore does not give the store.
func checkFetched(t *testing.T, name string, store []impl.Object, p []impl.PackEntry, want []impl.Object) {
	t.Helper()
	if got, ok := impl.FetchStore(store, p); !ok || !sameStore(got, want) {
		t.Fatalf("%s: FetchStore(%s, %s) = %s, %t, not %s, true", name, shown(store), shown(p), shown(got), ok, shown(want))
	}
}

// checkNotFetched fails if FetchStore does not fail.
func checkNotFetched(t *testing.T, name string, store []impl.Object, p []impl.PackEntry) {
	t.Helper()
	if got, ok := impl.FetchStore(store, p); ok || len(got) != 0 {
		t.Fatalf("%s: FetchStore(%s, %s) = %s, %t, not [], false", name, shown(store), shown(p), shown(got), ok)
	}
}

// brokenPacks returns packs without objects, each for another reason.
func brokenPacks() map[string][]impl.PackEntry {
	result := map[string][]impl.PackEntry{
		"its own base":                   {packed(blob(""), 0)},
		"its own base behind another":    {chained(-1), chained(1)},
		"a later base":                   {packed(blob(""), 1), chained(-1)},
		"a base that is not there":       {chained(-1), chained(2)},
		"a base below -1":                {packed(blob(""), -2)},
		"a chain that is too long":       chain(4),
		"17 entries":                     slices.Repeat([]impl.PackEntry{chained(-1)}, 17),
		"very many entries":              slices.Repeat([]impl.PackEntry{chained(-1)}, 5000),
		"an empty operation":             {packed(blob(""), -1, impl.Op{})},
		"a copy without a base":          {packed(blob(""), -1, copying(0, 1))},
		"a copy beyond the base":         {chained(-1), packed(blob(""), 0, copying(3, 2))},
		"a copy with a text":             {chained(-1), packed(blob(""), 0, impl.Op{Size: 2, Text: "x"})},
		"9 operations":                   {chained(-1), packed(blob(""), 0, slices.Repeat([]impl.Op{copying(0, 1)}, 9)...)},
		"a text of 9 bytes":              {packed(blob(""), -1, insertion("12345678"), insertion("9"))},
		"an insertion of too many bytes": {packed(blob(""), -1, insertion(strings.Repeat("x", 1000)))},
		"a tree with a text":             {packed(tree(5), -1, insertion("x"))},
		"a tree with its base's text":    {chained(-1), packed(tree(5), 0, copying(0, 4))},
	}
	for i, o := range invalidObjects() {
		e := packed(o, -1)
		if o.Text != "" {
			e.Ops = []impl.Op{insertion(o.Text)}
		}
		result[fmt.Sprintf("the invalid object %d", i)] = []impl.PackEntry{e}
		result[fmt.Sprintf("the invalid object %d between others", i)] = []impl.PackEntry{chained(-1), e, chained(0)}
	}
	return result
}
