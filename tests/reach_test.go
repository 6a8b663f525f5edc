package tests

import (
	"math"
	"slices"
	"testing"

	"loop.example/atomicpush/impl"
)

// closure computes what is stored and what is missing of all that is reached, round by round.
func closure(store []impl.Object, from []int) (stored []int, missing []int) {
	reached, found := map[int]bool{}, map[int]bool{}
	for _, id := range from {
		reached[id] = true
	}
	for _, o := range store {
		found[digest(o)] = true
	}
	for range len(store) {
		for _, o := range store {
			for _, link := range o.Links {
				reached[link] = reached[link] || reached[digest(o)]
			}
		}
	}
	for id := range 991 {
		if reached[id] && found[id] {
			stored = append(stored, id)
		} else if reached[id] {
			missing = append(missing, id)
		}
	}
	return stored, missing
}

// eachGraph calls check with many stores and ids, some of them stored.
func eachGraph(t *testing.T, seed int, check func(store []impl.Object, from []int)) {
	t.Helper()
	n := numbers(seed)
	for range 300 {
		store := makeStore(t, &n, n.below(17))
		known := []int{0, n.below(991), 990}
		for _, o := range store {
			known = append(known, digest(o))
		}
		check(store, n.ids(known, 4))
	}
}

// object returns the object of a store with an id.
func object(t *testing.T, store []impl.Object, id int) impl.Object {
	t.Helper()
	for _, o := range store {
		if digest(o) == id {
			return o
		}
	}
	t.Fatalf("%d is not stored in %#v", id, store)
	return impl.Object{}
}

func ascending(list []int) bool {
	return slices.IsSorted(list) && len(slices.Compact(slices.Clone(list))) == len(list)
}

func TestP10Reach(t *testing.T) {
	eachGraph(t, 10, func(store []impl.Object, from []int) {
		got := impl.StoreReach(store, from)
		if want, _ := closure(store, from); !slices.Equal(got, want) {
			t.Fatalf("StoreReach(%#v, %#v) = %#v, not %#v", store, from, got, want)
		}
		if !ascending(got) {
			t.Fatalf("StoreReach(%#v, %#v) = %#v", store, from, got)
		}
		needed := slices.Clone(from)
		for _, id := range got {
			needed = append(needed, object(t, store, id).Links...)
		}
		for _, id := range needed {
			if _, stored := impl.StoreGet(store, id); stored && !slices.Contains(got, id) {
				t.Fatalf("StoreReach(%#v, %#v) = %#v lacks %d", store, from, got, id)
			}
		}
	})
}

func TestP11NothingElseIsReached(t *testing.T) {
	eachGraph(t, 11, func(store []impl.Object, from []int) {
		got := impl.StoreReach(store, from)
		allowed := slices.Clone(from)
		for _, id := range got {
			allowed = append(allowed, object(t, store, id).Links...)
		}
		for _, id := range got {
			if !slices.Contains(allowed, id) {
				t.Fatalf("StoreReach(%#v, %#v) = %#v has %d", store, from, got, id)
			}
		}
	})
}

// Objects that only link to each other are not reached from elsewhere.
func TestP11Circle(t *testing.T) {
	store := []impl.Object{objectWithId(t, 100, []int{200}), objectWithId(t, 200, []int{100, 300}), objectWithId(t, 400, []int{500}), objectWithId(t, 500, nil)}
	if got := impl.StoreReach(store, []int{400}); !slices.Equal(got, []int{400, 500}) {
		t.Errorf("StoreReach of 400 is %#v", got)
	}
	if got := impl.StoreReach(store, []int{200}); !slices.Equal(got, []int{100, 200}) {
		t.Errorf("StoreReach of 200 is %#v", got)
	}
	if got := impl.StoreMissing(store, []int{200}); !slices.Equal(got, []int{300}) {
		t.Errorf("StoreMissing of 200 is %#v", got)
	}
}

func TestP12Missing(t *testing.T) {
	eachGraph(t, 12, func(store []impl.Object, from []int) {
		got := impl.StoreMissing(store, from)
		if _, want := closure(store, from); !slices.Equal(got, want) {
			t.Fatalf("StoreMissing(%#v, %#v) = %#v, not %#v", store, from, got, want)
		}
		allowed := slices.Clone(from)
		for _, id := range impl.StoreReach(store, from) {
			allowed = append(allowed, object(t, store, id).Links...)
		}
		for _, id := range got {
			if _, stored := impl.StoreGet(store, id); stored || !slices.Contains(allowed, id) || !ascending(got) {
				t.Fatalf("StoreMissing(%#v, %#v) = %#v", store, from, got)
			}
		}
	})
}

// Four objects with four links each, none of which is stored.
func TestP12ManyMissing(t *testing.T) {
	store, missing := []impl.Object{}, []int{}
	for i := range 16 {
		links := []int{i, 100 + i, 200 + i, 990 - i}
		missing = append(missing, links...)
		store = append(store, objectWithId(t, 400+i, links))
	}
	for i := 0; i < 16; i += 4 {
		from := []int{400 + i, 401 + i, 402 + i, 403 + i}
		want := slices.Clone(missing[4*i : 4*i+16])
		slices.Sort(want)
		if got := impl.StoreMissing(store, from); !slices.Equal(got, want) {
			t.Errorf("StoreMissing of %#v is %#v, not %#v", from, got, want)
		}
		if got := impl.StoreReach(store, from); !slices.Equal(got, from) {
			t.Errorf("StoreReach of %#v is %#v", from, got)
		}
	}
}

func TestP12NothingStored(t *testing.T) {
	for _, from := range [][]int{nil, {}, {0}, {990}, {0, 990}, {0, 1, 2, 990}, {987, 988, 989, 990}} {
		for _, store := range [][]impl.Object{nil, {}, fullStore(t)} {
			if got := impl.StoreMissing(store, from); !slices.Equal(got, from) {
				t.Errorf("StoreMissing of %#v is %#v", from, got)
			}
			if got := impl.StoreReach(store, from); len(got) != 0 {
				t.Errorf("StoreReach of %#v is %#v", from, got)
			}
		}
	}
}

func TestP13Complete(t *testing.T) {
	complete := 0
	check := func(store []impl.Object, from []int) {
		if len(impl.StoreMissing(store, from)) != 0 {
			return
		}
		reached := impl.StoreReach(store, from)
		if len(reached) > 1 {
			complete++
		}
		for _, id := range append(slices.Clone(from), reached...) {
			for _, link := range object(t, store, id).Links {
				if !slices.Contains(reached, link) {
					t.Fatalf("StoreReach(%#v, %#v) = %#v lacks %d", store, from, reached, link)
				}
			}
		}
	}
	eachGraph(t, 13, check)
	n := numbers(13)
	for range 100 {
		check(completeStore(t, &n), []int{50, 100})
	}
	if complete < 100 {
		t.Errorf("only %d stores were complete", complete)
	}
}

// completeStore returns a store whose objects only link to stored ones.
func completeStore(t *testing.T, n *numbers) []impl.Object {
	ids := []int{50, 100, 150, 200, 250, 300, 350, 400}
	store := []impl.Object{}
	for _, id := range ids {
		store = append(store, objectWithId(t, id, n.ids(ids, 3)))
	}
	return store
}

// A history of commits with trees and blobs, each reached once though linked twice.
func TestP13History(t *testing.T) {
	text := blob("a")
	folder := tree(digest(text))
	first := commit("one", digest(folder))
	links := []int{digest(folder), digest(first)}
	slices.Sort(links)
	second := commit("two", links...)
	store := []impl.Object{}
	for _, o := range []impl.Object{second, first, folder, text} {
		after, ok := impl.StorePut(store, o)
		if !ok {
			t.Fatalf("StorePut(%#v, %#v) failed", store, o)
		}
		store = after
	}
	all := []int{digest(text), digest(folder), digest(first), digest(second)}
	slices.Sort(all)
	if got := impl.StoreReach(store, []int{digest(second)}); !slices.Equal(got, all) {
		t.Errorf("StoreReach is %#v, not %#v", got, all)
	}
	if got := impl.StoreMissing(store, []int{digest(second)}); len(got) != 0 {
		t.Errorf("StoreMissing is %#v", got)
	}
	at := slices.IndexFunc(store, func(o impl.Object) bool { return sameObject(o, folder) })
	if got := impl.StoreMissing(without(store, at), []int{digest(second)}); !slices.Equal(got, []int{digest(folder)}) {
		t.Errorf("StoreMissing without the tree is %#v", got)
	}
}

// A chain of 16 objects is reached from its beginning.
func TestP13Chain(t *testing.T) {
	store, all := []impl.Object{objectWithId(t, 7, nil)}, []int{7}
	for i := 1; i < 16; i++ {
		store = append(store, objectWithId(t, 7+50*i, []int{7 + 50*(i-1)}))
		all = append(all, 7+50*i)
	}
	if got := impl.StoreReach(store, []int{757}); !slices.Equal(got, all) {
		t.Errorf("StoreReach is %#v, not %#v", got, all)
	}
	if got := impl.StoreReach(store, []int{57}); !slices.Equal(got, []int{7, 57}) {
		t.Errorf("StoreReach is %#v", got)
	}
}

func TestP16ReachItself(t *testing.T) {
	self := objectWithId(t, 438, []int{438})
	if got := impl.StoreReach([]impl.Object{self}, []int{438}); !slices.Equal(got, []int{438}) {
		t.Errorf("StoreReach of an object that links to itself is %#v", got)
	}
	eachGraph(t, 16, func(store []impl.Object, from []int) {
		for _, o := range store {
			id := digest(o)
			if got := impl.StoreReach(store, []int{id}); !slices.Contains(got, id) {
				t.Fatalf("StoreReach(%#v, %d) = %#v", store, id, got)
			}
		}
	})
}

func TestP17PartOfReach(t *testing.T) {
	eachGraph(t, 17, func(store []impl.Object, from []int) {
		all := impl.StoreReach(store, from)
		for _, id := range all {
			for _, further := range impl.StoreReach(store, []int{id}) {
				if !slices.Contains(all, further) {
					t.Fatalf("%d is reached from %d, but not from %#v in %#v", further, id, from, store)
				}
			}
		}
	})
}

func TestP10InvalidArguments(t *testing.T) {
	stores := map[string][]impl.Object{"nothing": {}, "objects": {blob("a"), blob(""), tree(0)}, "16 objects": fullStore(t)}
	for name, store := range stores {
		for _, from := range [][]int{
			{-1}, {991}, {math.MinInt}, {math.MaxInt}, {-1, 32}, {32, 991}, {32, 32}, {100, 32},
			{0, 32, 100, 100}, {0, 100, 32}, {0, 1, 2, 3, 4}, {32, 100, 330, 331, 332}, make([]int, 1000),
		} {
			if got := impl.StoreReach(store, from); len(got) != 0 {
				t.Errorf("StoreReach of %#v in a store of %s is %#v", from, name, got)
			}
			if got := impl.StoreMissing(store, from); len(got) != 0 {
				t.Errorf("StoreMissing of %#v in a store of %s is %#v", from, name, got)
			}
		}
	}
	for name, store := range brokenStores(t) {
		for _, from := range [][]int{nil, {0}, {10}, {32}, {100}, {10, 70, 130, 980}} {
			if got := impl.StoreReach(store, from); len(got) != 0 {
				t.Errorf("StoreReach of %#v in a list with %s is %#v", from, name, got)
			}
			if got := impl.StoreMissing(store, from); len(got) != 0 {
				t.Errorf("StoreMissing of %#v in a list with %s is %#v", from, name, got)
			}
		}
	}
}

func TestMemoryOfStoreReach(t *testing.T) {
	eachGraph(t, 100, func(store []impl.Object, from []int) {
		a, b := roomyObjects(store), roomy(from)
		before := wholeObjects(a) + whole(b)
		reach, missing := impl.StoreReach(a, b), impl.StoreMissing(a, b)
		if wholeObjects(a)+whole(b) != before {
			t.Fatalf("StoreReach or StoreMissing modified %#v or %#v", store, from)
		}
		checkApart(t, "StoreReach", []any{a, b}, []any{reach, missing})
	})
}
