package tests

import (
	"slices"
	"strings"
	"testing"

	"loop.example/atomicpush/impl"
)

// mustFetch returns FetchPack of arguments for which it succeeds.
func mustFetch(t *testing.T, r request) []impl.PackEntry {
	t.Helper()
	p, ok := impl.FetchPack(r.store, r.wants, r.haves)
	if !ok {
		t.Fatalf("FetchPack(%s, %v, %v) fails", shown(r.store), r.wants, r.haves)
	}
	return p
}

func TestP148NoObjects(t *testing.T) {
	for _, r := range []request{
		{nil, nil, nil}, {[]impl.Object{}, []int{}, []int{5}}, {library(t), nil, nil}, {library(t), nil, []int{400}}, {library(t), []int{400}, []int{400}},
		{library(t), []int{200, 300}, []int{320}}, {fullStore(t), nil, nil}, {fullStore(t), []int{10}, []int{10, 20}},
	} {
		p := mustFetch(t, r)
		if list, ok := impl.PackObjects(p); !ok || len(list) != 0 || len(p) != 0 {
			t.Errorf("FetchPack(%s, %v, %v) = %#v", shown(r.store), r.wants, r.haves, p)
		}
	}
}

func TestP148OneObject(t *testing.T) {
	for _, o := range []impl.Object{blob(""), blob("a"), blob("12345678"), blob("aaaaaaaa"), blob("\x00\xff"), tree(), objectWithId(t, 0, nil), objectWithId(t, 990, nil), objectWithId(t, 438, []int{438})} {
		want := []impl.PackEntry{packed(o, -1)}
		if o.Text != "" {
			want[0].Ops = []impl.Op{insertion(o.Text)}
		}
		for _, store := range [][]impl.Object{{o}, merged(plain(t, 5, 500, 989), []impl.Object{o})} {
			if p := mustFetch(t, request{store, []int{digest(o)}, nil}); !samePack(p, want) {
				t.Errorf("FetchPack of %#v is %#v", o, p)
			}
		}
	}
}

// Entries have the bases and the operations of PackMake, in the order of the ids.
func TestP148Bases(t *testing.T) {
	store := merged(blobs("abcd", "abcdxy", "abcdxyzw", "zwabcd"))
	folder := tree(idsOf(store)...)
	list := merged(store, []impl.Object{folder})
	p := mustFetch(t, request{list, []int{digest(folder)}, nil})
	if want, ok := impl.PackMake(list); !ok || !samePack(p, want) {
		t.Errorf("FetchPack of similar texts is %#v, not %#v", p, want)
	}
	if !slices.ContainsFunc(p, func(e impl.PackEntry) bool { return e.Base >= 0 }) {
		t.Errorf("FetchPack of similar texts has no bases: %#v", p)
	}
	checkNeed(t, "similar texts", request{list, []int{digest(folder)}, nil}, idsOf(list))
	// A text that the client has is no base: only objects of the pack are.
	for _, o := range store {
		rest := slices.DeleteFunc(slices.Clone(list), func(other impl.Object) bool { return sameObject(o, other) })
		checkNeed(t, "similar texts, one of them named", request{list, []int{digest(folder)}, []int{digest(o)}}, idsOf(rest))
	}
}

// All objects of a full store.
func TestP148SixteenObjects(t *testing.T) {
	full, tops := alike(t)
	p := mustFetch(t, request{full, tops, nil})
	if list, ok := impl.PackObjects(p); !ok || len(p) != 16 || !sameStore(list, full) {
		t.Errorf("FetchPack of all objects of %s is %s", shown(full), shown(p))
	}
	deep := slices.ContainsFunc(idsFrom(0, 16), func(i int) bool { return impl.PackDepth(p, i) == 2 })
	if !deep {
		t.Errorf("FetchPack of all objects has no entry of the greatest depth: %s", shown(p))
	}
	checkNeed(t, "all objects", request{full, tops, nil}, idsOf(full))
	checkNeed(t, "all objects, of which nothing is named", request{full, tops, []int{1, 990}}, idsOf(full))
	checkNeed(t, "a chain", request{steps(t), []int{757}, nil}, idsOf(steps(t)))
}

func TestP148EachRequest(t *testing.T) {
	bases, most := 0, 0
	eachRequest(t, 148, func(r request) {
		need, ok := impl.FetchNeed(r.store, r.wants, r.haves)
		p, fine := impl.FetchPack(r.store, r.wants, r.haves)
		if ok != fine {
			t.Fatalf("FetchPack(%s, %v, %v): %t, but FetchNeed: %t", shown(r.store), r.wants, r.haves, fine, ok)
		}
		if !ok {
			return
		}
		list, right := impl.PackObjects(p)
		if !right || !sameStore(list, pick(t, r.store, need)) {
			t.Fatalf("FetchPack(%s, %v, %v) has the objects %s, %t, and FetchNeed is %v", shown(r.store), r.wants, r.haves, shown(list), right, need)
		}
		most = max(most, len(p))
		for i, e := range p {
			if e.Base >= 0 {
				bases++
			}
			if id := impl.ObjectId(list[i]); id != need[i] {
				t.Fatalf("the object %d of FetchPack(%s, %v, %v) has the id %d, not %d", i, shown(r.store), r.wants, r.haves, id, need[i])
			}
		}
		checkNeed(t, "a request", r, need)
	})
	if bases < 100 || most < 10 {
		t.Errorf("only %d entries have bases, and packs have at most %d entries", bases, most)
	}
}

// checkWhole fails if a client that has some objects lacks any of the wanted ones, or of what they reach, after it has stored a pack.
func checkWhole(t *testing.T, r request, client []impl.Object) {
	t.Helper()
	p := mustFetch(t, r)
	after, ok := impl.FetchStore(client, p)
	if !ok || !impl.StoreValid(after) {
		t.Fatalf("FetchStore(%s, %s) = %s, %t", shown(client), shown(p), shown(after), ok)
	}
	if missing := impl.StoreMissing(after, r.wants); len(missing) != 0 {
		t.Fatalf("after FetchStore of FetchPack(%s, %v, %v), %v is missing in %s", shown(r.store), r.wants, r.haves, missing, shown(after))
	}
	for _, id := range r.wants {
		if got, found := impl.StoreGet(after, id); !found || !sameObject(got, object(t, r.store, id)) {
			t.Fatalf("after FetchStore of FetchPack(%s, %v, %v), %d is %#v, %t", shown(r.store), r.wants, r.haves, id, got, found)
		}
	}
	want, failure := kept(client, reachable(t, r.store, r.wants))
	if failure != "" || !sameStore(after, want) {
		t.Fatalf("after FetchStore of FetchPack(%s, %v, %v), the store is %s, not %s", shown(r.store), r.wants, r.haves, shown(after), shown(want))
	}
}

func TestP149EmptyClient(t *testing.T) {
	full, tops := alike(t)
	for _, r := range []request{
		{nil, nil, nil}, {library(t), nil, nil}, {library(t), []int{0}, nil}, {library(t), []int{310}, nil}, {library(t), []int{200, 210, 700}, nil}, {library(t), []int{400, 700}, nil},
		{circles(t), []int{100}, nil}, {circles(t), []int{300}, nil}, {circles(t), []int{100, 600}, nil}, {steps(t), []int{757}, nil}, {fullStore(t), []int{10, 70, 850, 910}, nil}, {full, tops, nil},
	} {
		for _, client := range [][]impl.Object{nil, {}} {
			checkWhole(t, r, client)
			if after, _ := impl.FetchStore(client, mustFetch(t, r)); !sameStore(after, reachable(t, r.store, r.wants)) {
				t.Errorf("a client that wants %v of %s has %s", r.wants, shown(r.store), shown(after))
			}
		}
	}
}

func TestP149EachRequest(t *testing.T) {
	eachRequest(t, 149, func(r request) {
		if _, ok := neededBy(r); ok {
			checkWhole(t, request{r.store, r.wants, nil}, nil)
		}
	})
}

func TestP150ClientWithObjects(t *testing.T) {
	full, tops := alike(t)
	for _, r := range []request{
		{library(t), nil, []int{300}}, {library(t), []int{310}, []int{300}}, {library(t), []int{310}, []int{310}}, {library(t), []int{200}, []int{400}}, {library(t), []int{400}, []int{310, 700}},
		{library(t), []int{200, 700}, []int{210}}, {library(t), []int{320}, []int{1, 199, 990}}, {library(t), []int{310}, []int{500}}, {library(t), []int{310}, []int{530, 550}}, {library(t), []int{310}, []int{510}},
		{circles(t), []int{600}, []int{300}}, {circles(t), []int{300}, []int{600}}, {circles(t), []int{600}, []int{800}}, {steps(t), []int{757}, []int{407}}, {full, tops, tops[:1]}, {full, tops[:2], tops[1:]},
	} {
		checkWhole(t, r, reachable(t, r.store, r.haves))
	}
}

func TestP150EachRequest(t *testing.T) {
	gaps, shared := 0, 0
	eachRequest(t, 150, func(r request) {
		need, ok := neededBy(r)
		if !ok {
			return
		}
		client := reachable(t, r.store, r.haves)
		if _, missing := closure(client, r.haves); len(missing) > 0 {
			gaps++
		}
		if len(need) > 0 && len(client) > 0 {
			shared++
		}
		checkWhole(t, r, client)
	})
	if gaps < 100 || shared < 100 {
		t.Errorf("only %d clients lack something of what they name, and %d need something more", gaps, shared)
	}
}

// A client that fetches again and again, each time with all that it wanted before as what is there, has all of it at the end.
func TestP150StepByStep(t *testing.T) {
	n := numbers(250)
	for range 60 {
		store := n.offered(16, 1000)
		client, haves := []impl.Object{}, []int{}
		for _, id := range idsOf(store) {
			r := request{store, []int{id}, haves}
			if _, ok := neededBy(r); !ok {
				checkNothing(t, "an incomplete object", r)
				continue
			}
			checkWhole(t, r, client)
			client, _ = impl.FetchStore(client, mustFetch(t, r))
			if haves = append(slices.Clone(haves), id); len(haves) > 4 {
				haves = haves[1:]
			}
		}
		for _, o := range store {
			if len(impl.StoreMissing(store, []int{digest(o)})) == 0 && !holds(client, o) {
				t.Fatalf("of %s, the client does not have %#v", shown(store), o)
			}
		}
	}
}

func TestMemoryOfFetchPack(t *testing.T) {
	full, tops := alike(t)
	for _, r := range []request{
		{nil, nil, nil}, {library(t), []int{400, 700}, []int{300, 500}}, {library(t), []int{400}, nil}, {library(t), []int{500}, nil}, {library(t), []int{310}, []int{310}},
		{full, tops, nil}, {full, tops, tops[:1]}, {full, tops, []int{991}}, {append(slices.Clone(full), blob("x")), tops, nil}, {full, []int{7, 7}, nil},
	} {
		store, wants, haves := roomyObjects(r.store), roomy(r.wants), roomy(r.haves)
		for i := range store {
			store[i].Text = strings.Clone(store[i].Text)
		}
		before := wholeObjects(store) + whole(wants) + whole(haves)
		one, _ := impl.FetchPack(store, wants, haves)
		two, _ := impl.FetchPack(store, wants, haves)
		checkApart(t, "FetchPack", []any{store, wants, haves}, []any{one, two})
		checkTextsApart(t, "FetchPack", textsOfObjects(store), slices.Concat(textsOfPack(one), textsOfPack(two)))
		for i := range one {
			one[i].Kind = -7
			for j := range one[i].Links[:cap(one[i].Links)] {
				one[i].Links[:cap(one[i].Links)][j] = -7
			}
			for j := range one[i].Ops {
				one[i].Ops[j] = insertion("other")
			}
		}
		if again, _ := impl.FetchPack(store, wants, haves); !samePack(again, two) {
			t.Errorf("FetchPack(%s, %v, %v) is %s now", shown(store), wants, haves, shown(again))
		}
		if wholeObjects(store)+whole(wants)+whole(haves) != before {
			t.Errorf("FetchPack modified %s, %v or %v", shown(r.store), r.wants, r.haves)
		}
	}
}
