package tests

import (
	"math"
	"slices"
	"testing"

	"loop.example/atomicpush/impl"
)

// brokenStores returns lists that are no stores, each for another reason.
func brokenStores(t *testing.T) map[string][]impl.Object {
	store := fullStore(t)
	twice := slices.Insert(slices.Clone(store[:4]), 2, store[1])
	swapped := slices.Clone(store[:4])
	swapped[1], swapped[2] = swapped[2], swapped[1]
	lastSwapped := slices.Clone(store)
	lastSwapped[14], lastSwapped[15] = lastSwapped[15], lastSwapped[14]
	return map[string][]impl.Object{
		"one object too many":            append(slices.Clone(store), objectWithId(t, 980, nil)),
		"many objects too many":          make([]impl.Object, 1000),
		"one object twice":               twice,
		"two objects with one id":        {blob(""), blob("\xa5")},
		"descending":                     swapped,
		"descending at the end":          lastSwapped,
		"only an invalid object":         {impl.Object{}},
		"an invalid object first":        {blob("123456789"), blob("a")},
		"an invalid object last":         {blob("a"), tree(7, 7)},
		"an invalid object in between":   {store[0], commit("x"), store[1]},
		"an object with a link too high": {tree(991)},
	}
}

func TestP05PutThenGet(t *testing.T) {
	n := numbers(5)
	for range 200 {
		store := makeStore(t, &n, n.below(16))
		o := objectWithId(t, n.below(991), n.ids([]int{0, 3, 500, 990}, 4))
		after, ok := impl.StorePut(store, o)
		if !ok {
			if _, found := impl.StoreGet(store, digest(o)); !found {
				t.Fatalf("StorePut(%#v, %#v) failed", store, o)
			}
			continue
		}
		if !impl.StoreValid(after) || len(after) != len(store)+1 && !sameStore(after, store) {
			t.Fatalf("StorePut(%#v, %#v) = %#v", store, o, after)
		}
		if got, found := impl.StoreGet(after, digest(o)); !found || !sameObject(got, o) {
			t.Fatalf("StoreGet after StorePut of %#v is %#v, %t", o, got, found)
		}
		for _, old := range store {
			if got, found := impl.StoreGet(after, digest(old)); !found || !sameObject(got, old) {
				t.Fatalf("StorePut(%#v, %#v) = %#v", store, o, after)
			}
		}
	}
}

// Objects of each kind are inserted first, in between and last.
func TestP05Places(t *testing.T) {
	store := []impl.Object{}
	for _, o := range []impl.Object{blob("a"), commit("fix", 0, 500, 990), tree(0), blob("\x00"), tree(987, 988, 989, 990), blob("")} {
		after, ok := impl.StorePut(store, o)
		if !ok {
			t.Fatalf("StorePut(%#v, %#v) failed", store, o)
		}
		store = after
	}
	want := []impl.Object{blob("a"), blob(""), tree(0), tree(987, 988, 989, 990), blob("\x00"), commit("fix", 0, 500, 990)}
	if !sameStore(store, want) {
		t.Errorf("the store is %#v, not %#v", store, want)
	}
	for id := -2; id < 993; id++ {
		at := slices.IndexFunc(want, func(o impl.Object) bool { return digest(o) == id })
		got, found := impl.StoreGet(store, id)
		if found != (at >= 0) || found && !sameObject(got, want[at]) || !found && !sameObject(got, impl.Object{}) {
			t.Errorf("StoreGet of %d is %#v, %t", id, got, found)
		}
	}
}

func TestP06PutTwice(t *testing.T) {
	n := numbers(6)
	for range 200 {
		store := makeStore(t, &n, n.below(16))
		o := objectWithId(t, n.below(991), n.ids([]int{0, 3, 500, 990}, 4))
		once, ok := impl.StorePut(store, o)
		if !ok {
			continue
		}
		if twice, ok := impl.StorePut(once, o); !ok || !sameStore(twice, once) {
			t.Fatalf("StorePut(%#v, %#v) = %#v, %t", once, o, twice, ok)
		}
	}
}

// Links that are nil and links that are empty make equal objects.
func TestP06EmptyLinks(t *testing.T) {
	for _, kind := range []int{1, 2} {
		a, b := impl.Object{Kind: kind}, impl.Object{Kind: kind, Links: []int{}}
		for _, pair := range [][2]impl.Object{{a, b}, {b, a}} {
			store, ok := impl.StorePut([]impl.Object{pair[0]}, pair[1])
			if !ok || len(store) != 1 || !sameObject(store[0], a) {
				t.Errorf("StorePut of %#v behind %#v is %#v, %t", pair[1], pair[0], store, ok)
			}
		}
	}
}

func TestP06FullStore(t *testing.T) {
	store := fullStore(t)
	for _, o := range store {
		if after, ok := impl.StorePut(store, o); !ok || !sameStore(after, store) {
			t.Errorf("StorePut of %#v, which a full store has, is %#v, %t", o, after, ok)
		}
	}
}

func TestP07EitherOrder(t *testing.T) {
	n := numbers(7)
	both := 0
	for range 200 {
		store := makeStore(t, &n, n.below(15))
		a := objectWithId(t, n.below(991), n.ids([]int{0, 3, 500, 990}, 4))
		b := objectWithId(t, n.below(991), n.ids([]int{1, 4, 501, 989}, 4))
		one, ok1 := impl.StorePut(store, a)
		one, ok2 := impl.StorePut(one, b)
		other, ok3 := impl.StorePut(store, b)
		other, ok4 := impl.StorePut(other, a)
		if ok1 && ok2 && ok3 && ok4 {
			both++
			if !sameStore(one, other) {
				t.Fatalf("StorePut of %#v and %#v in %#v gives %#v or %#v", a, b, store, one, other)
			}
		}
	}
	if both < 100 {
		t.Errorf("both were stored only %d times", both)
	}
}

func TestP08FailedPut(t *testing.T) {
	store := fullStore(t)
	fresh := objectWithId(t, 0, nil)
	if after, ok := impl.StorePut(store, fresh); ok || !sameStore(after, store) {
		t.Errorf("StorePut in a full store is %#v, %t", after, ok)
	}
	if after, ok := impl.StorePut(store[1:], fresh); !ok || len(after) != 16 || !impl.StoreValid(after) {
		t.Errorf("StorePut of the last object for which there is space is %#v, %t", after, ok)
	}
	for size := 1; size <= 16; size++ {
		for i, old := range store[:size] {
			o := objectWithId(t, digest(old), []int{5, 6})
			if after, ok := impl.StorePut(store[:size], o); ok || !sameStore(after, store[:size]) {
				t.Errorf("StorePut of an object with the id of object %d of %d is %#v, %t", i, size, after, ok)
			}
		}
	}
}

// Objects with one id that differ in the text, in the kind or in the links are different objects.
func TestP08SameId(t *testing.T) {
	pairs := [][2]impl.Object{{blob(""), blob("\xa5")}, {tree(0, 1, 2, 3), blob("\xff")}, {tree(0, 900), tree(1, 287)}}
	for _, pair := range pairs {
		if digest(pair[0]) != digest(pair[1]) {
			t.Fatalf("%#v have different ids", pair)
		}
		if after, ok := impl.StorePut(pair[:1], pair[1]); ok || !sameStore(after, pair[:1]) {
			t.Errorf("StorePut of %#v behind %#v is %#v, %t", pair[1], pair[0], after, ok)
		}
	}
}

func TestP08FailsOnlyThen(t *testing.T) {
	n := numbers(8)
	for range 300 {
		store := makeStore(t, &n, 10+n.below(7))
		o := objectWithId(t, n.below(991), n.ids([]int{0, 3, 500, 990}, 4))
		if n.below(2) == 0 {
			o = objectWithId(t, digest(store[n.below(len(store))]), nil)
		}
		at := slices.IndexFunc(store, func(p impl.Object) bool { return digest(p) == digest(o) })
		want := at >= 0 && sameObject(store[at], o) || at < 0 && len(store) < 16
		after, ok := impl.StorePut(store, o)
		if ok != want || !ok && !sameStore(after, store) {
			t.Fatalf("StorePut(%#v, %#v) = %#v, %t", store, o, after, ok)
		}
	}
}

func TestP05InvalidArguments(t *testing.T) {
	invalid := []impl.Object{{}, blob("123456789"), tree(3, 2), commit("x"), {Kind: 4}, {Kind: 2, Text: "x"}, {Kind: 1, Links: []int{1}}}
	for _, o := range invalid {
		for _, store := range [][]impl.Object{nil, {blob("a")}, fullStore(t)} {
			if after, ok := impl.StorePut(store, o); ok || len(after) != 0 {
				t.Errorf("StorePut of the invalid %#v is %#v, %t", o, after, ok)
			}
		}
	}
	for name, store := range brokenStores(t) {
		// Also an object that is there, and one whose id another one has, give an empty slice.
		for _, o := range append(slices.Clone(store[:1]), blob("a"), blob("\xa5"), blob("new")) {
			if after, ok := impl.StorePut(store, o); ok || len(after) != 0 {
				t.Errorf("StorePut in a list with %s is %#v, %t", name, after, ok)
			}
		}
	}
}

func TestP09GetHasTheId(t *testing.T) {
	n := numbers(9)
	for range 30 {
		store := makeStore(t, &n, n.below(17))
		found := 0
		for id := -1; id <= 991; id++ {
			o, ok := impl.StoreGet(store, id)
			if ok {
				found++
			}
			if ok && impl.ObjectId(o) != id || !ok && !sameObject(o, impl.Object{}) {
				t.Fatalf("StoreGet of %d is %#v, %t", id, o, ok)
			}
		}
		if found != len(store) {
			t.Fatalf("StoreGet found %d of %d objects", found, len(store))
		}
	}
}

func TestP09NothingToGet(t *testing.T) {
	for _, id := range []int{math.MinInt, -1, 0, 990, 991, math.MaxInt} {
		for _, store := range [][]impl.Object{nil, {}, {blob("a")}, fullStore(t)} {
			if o, ok := impl.StoreGet(store, id); ok || !sameObject(o, impl.Object{}) {
				t.Errorf("StoreGet of %d is %#v, %t", id, o, ok)
			}
		}
	}
	for name, store := range brokenStores(t) {
		for _, o := range store[:min(len(store), 20)] {
			if got, ok := impl.StoreGet(store, impl.ObjectId(o)); ok || !sameObject(got, impl.Object{}) {
				t.Errorf("StoreGet in a list with %s is %#v, %t", name, got, ok)
			}
		}
	}
}

func TestP15OneLessAndOneTwice(t *testing.T) {
	n := numbers(15)
	for range 100 {
		store := makeStore(t, &n, n.below(17))
		if !impl.StoreValid(store) {
			t.Fatalf("StoreValid(%#v) = false", store)
		}
		for i, o := range store {
			if less := without(store, i); !impl.StoreValid(less) {
				t.Fatalf("StoreValid(%#v) = false", less)
			}
			for at := range len(store) + 1 {
				if more := slices.Insert(slices.Clone(store), at, o); impl.StoreValid(more) {
					t.Fatalf("StoreValid(%#v) = true", more)
				}
			}
		}
	}
}

func TestP15StoreValid(t *testing.T) {
	for _, store := range [][]impl.Object{nil, {}, {blob("")}, {tree()}, {commit("", 0)}, {blob("a"), blob(""), tree(0)}, fullStore(t)} {
		if !impl.StoreValid(store) {
			t.Errorf("StoreValid(%#v) = false", store)
		}
	}
	for name, store := range brokenStores(t) {
		if impl.StoreValid(store) {
			t.Errorf("a list with %s is valid", name)
		}
	}
}

func TestMemoryOfStorePut(t *testing.T) {
	store := []impl.Object{blob("a"), tree(0, 5), commit("fix", 0, 500, 990)}
	for _, o := range []impl.Object{blob("new"), tree(1, 2, 3), commit("", 9), tree(0, 5), blob("\xa5"), {}, objectWithId(t, digest(store[2]), nil)} {
		for _, list := range [][]impl.Object{store, nil, fullStore(t), {tree(3, 2)}} {
			a := roomyObjects(list)
			b := roomyObjects([]impl.Object{o})
			before := wholeObjects(a) + wholeObjects(b)
			after, _ := impl.StorePut(a, b[0])
			got, _ := impl.StoreGet(a, digest(o))
			if wholeObjects(a)+wholeObjects(b) != before {
				t.Errorf("StorePut or StoreGet of %#v modified its arguments %#v", o, list)
			}
			checkApart(t, "StorePut", []any{a, b}, []any{after})
			checkApart(t, "StoreGet", []any{a, b}, []any{got})
		}
	}
}

func TestMemoryOfStoreGet(t *testing.T) {
	store := roomyObjects([]impl.Object{blob("a"), tree(0, 5), commit("fix", 0, 500, 990)})
	before := wholeObjects(store)
	for _, o := range store {
		one, ok1 := impl.StoreGet(store, digest(o))
		two, ok2 := impl.StoreGet(store, digest(o))
		if !ok1 || !ok2 || !impl.StoreValid(store) || !impl.ObjectValid(o) || impl.ObjectId(o) != digest(o) {
			t.Fatalf("StoreGet of %#v failed", o)
		}
		checkApart(t, "StoreGet", []any{store}, []any{one, two})
	}
	if wholeObjects(store) != before {
		t.Errorf("the store is %#v now", store)
	}
}
