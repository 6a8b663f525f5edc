package tests

import (
	"fmt"
	"slices"
	"strings"
	"testing"

	"loop.example/atomicpush/impl"
)

func TestP151Store(t *testing.T) {
	one, two, three := linked(t, 100), linked(t, 200, 100), linked(t, 300, 5, 990)
	other := linked(t, 200, 7)
	for _, test := range []struct {
		name  string
		store []impl.Object
		list  []impl.Object
		want  []impl.Object
	}{
		{"nothing in nothing", nil, nil, nil},
		{"one object in nothing", nil, []impl.Object{one}, []impl.Object{one}},
		{"several objects in nothing", nil, []impl.Object{one, two, three}, []impl.Object{one, two, three}},
		{"objects that descend", nil, []impl.Object{three, two, one}, []impl.Object{one, two, three}},
		{"in any order", []impl.Object{two}, []impl.Object{three, one}, []impl.Object{one, two, three}},
		{"the least and the greatest id", []impl.Object{one}, merged(plain(t, 0, 990)), merged(plain(t, 0, 990), []impl.Object{one})},
		{"one of them is there", []impl.Object{one}, []impl.Object{one, three}, []impl.Object{one, three}},
		{"all of them are there", []impl.Object{one, two, three}, []impl.Object{one, three}, []impl.Object{one, two, three}},
		{"exactly what is there", []impl.Object{one, two}, []impl.Object{one, two}, []impl.Object{one, two}},
		{"an object twice", nil, []impl.Object{two, two}, []impl.Object{two}},
		{"an object twice, others between", []impl.Object{one}, []impl.Object{two, three, one, two}, []impl.Object{one, two, three}},
		{"links to what is not there", nil, []impl.Object{two}, []impl.Object{two}},
		{"another object with the id of none", []impl.Object{one}, []impl.Object{other}, []impl.Object{one, other}},
		{"all kinds", blobs("ab"), []impl.Object{tree(), tree(5), commit("", 5), commit("abc", 5, 6)}, merged(blobs("ab"), []impl.Object{tree(), tree(5), commit("", 5), commit("abc", 5, 6)})},
	} {
		checkFetched(t, test.name, test.store, mustPack(t, test.list), test.want)
	}
}

// Two different objects with one id, in the store and the pack, or in the pack alone.
func TestP151Contradictions(t *testing.T) {
	store := plain(t, 100, 200, 300)
	for _, id := range []int{100, 200, 300} {
		wrong, right := others(t, id), plain(t, 400)
		for name, list := range map[string][]impl.Object{
			"alone": wrong, "first": slices.Concat(wrong, right), "last": slices.Concat(right, wrong), "beside the same object": slices.Concat(plain(t, id), wrong),
			"among those of the store": slices.Concat(store, wrong), "twice": slices.Concat(wrong, wrong), "between": slices.Concat(right, wrong, plain(t, 500)),
		} {
			checkNotFetched(t, fmt.Sprintf("another object with the id %d, %s", id, name), store, mustPack(t, list))
		}
		checkFetched(t, "without the object", merged(plain(t, 50, 600)), mustPack(t, wrong), merged(plain(t, 50, 600), wrong))
		for _, empty := range [][]impl.Object{nil, {}} {
			checkNotFetched(t, "two objects of the pack", empty, mustPack(t, slices.Concat(wrong, plain(t, id))))
			checkNotFetched(t, "two objects of the pack, others between", empty, mustPack(t, slices.Concat(plain(t, id), right, wrong)))
		}
	}
	checkNotFetched(t, "the same text ids", blobs(""), mustPack(t, blobs("\xa5")))
	checkNotFetched(t, "the same text ids in a full store", merged(fullStore(t)[1:], blobs("")), mustPack(t, blobs("\xa5")))
}

// Each size of store and pack, with each number of objects that both have.
func TestP151Room(t *testing.T) {
	all := plain(t, idsFrom(200, 32)...)
	for size := range 17 {
		store := all[:size]
		for more := range 17 {
			for both := 0; both <= size && both+more <= 16; both++ {
				list := slices.Concat(all[size-both:size], all[size:size+more])
				for _, p := range [][]impl.PackEntry{mustPack(t, list), mustPack(t, reversedObjects(list))} {
					if size+more <= 16 {
						checkFetched(t, "enough room", store, p, all[:size+more])
					} else {
						checkNotFetched(t, "no room", store, p)
					}
				}
			}
		}
	}
}

func reversedObjects(list []impl.Object) []impl.Object {
	result := slices.Clone(list)
	slices.Reverse(result)
	return result
}

// Packs that do not come from PackMake: other bases and operations, and entries in other orders.
func TestP151OtherPacks(t *testing.T) {
	for _, test := range []struct {
		name string
		p    []impl.PackEntry
		list []impl.Object
	}{
		{"a chain of the greatest depth", chain(3), blobs("abcd")},
		{"useless bases", []impl.PackEntry{chained(-1), packed(blob(""), 0, insertion("x")), packed(tree(7), 1)}, append(blobs("abcd", "x"), tree(7))},
		{"bytes one by one", []impl.PackEntry{packed(blob(""), -1, insertion("a"), insertion("b")), packed(blob(""), 0, copying(1, 1), copying(0, 1))}, blobs("ab", "ba")},
		{"an object twice, made in two ways", []impl.PackEntry{chained(-1), packed(blob(""), -1, insertion("ab"), insertion("cd"))}, blobs("abcd")},
		{"sixteen times one object", slices.Repeat([]impl.PackEntry{chained(-1)}, 16), blobs("abcd")},
	} {
		for name, store := range map[string][]impl.Object{"nothing": nil, "some objects": plain(t, 3, 500), "some of the objects": blobs("abcd"), "15 objects": fullStore(t)[1:]} {
			want, failure := kept(store, test.list)
			if failure != "" {
				checkNotFetched(t, test.name+" in "+name, store, test.p)
			} else {
				checkFetched(t, test.name+" in "+name, store, test.p, want)
			}
		}
	}
	checkFetched(t, "the same object in a full store", merged(fullStore(t)[1:], blobs("abcd")), slices.Repeat([]impl.PackEntry{chained(-1)}, 16), merged(fullStore(t)[1:], blobs("abcd")))
	checkNotFetched(t, "17 entries of an object that is there", blobs("abcd"), slices.Repeat([]impl.PackEntry{chained(-1)}, 17))
}

func TestP151EachPut(t *testing.T) {
	n, counts := numbers(151), map[string]int{}
	for range 20 {
		p := newPool(t, &n)
		for range 150 {
			odd := 20 * n.below(2)
			store, list := p.store(&n, n.below(17), odd), p.store(&n, n.below(13), odd)
			for i := range list {
				j := n.below(i + 1)
				list[i], list[j] = list[j], list[i]
			}
			if len(list) > 0 {
				list = append(list, list[n.below(len(list))])
			}
			pack := mustPack(t, list)
			want, failure := kept(store, list)
			counts[failure]++
			if failure != "" {
				checkNotFetched(t, failure, store, pack)
				continue
			}
			checkFetched(t, "a pool", store, pack, want)
			got, _ := impl.FetchStore(store, pack)
			for _, o := range slices.Concat(store, list) {
				if found, ok := impl.StoreGet(got, digest(o)); !impl.StoreValid(got) || !ok || !sameObject(found, o) {
					t.Fatalf("FetchStore(%s, %s) = %s lacks %#v", shown(store), shown(pack), shown(got), o)
				}
			}
		}
	}
	for _, answer := range []string{"", "another object", "too many objects"} {
		if counts[answer] < 100 {
			t.Errorf("%q is the answer in only %d cases", answer, counts[answer])
		}
	}
}

func TestP151AnyPacks(t *testing.T) {
	n, counts := numbers(251), map[bool]int{}
	store := merged(blobs("", "a", "abcd"), []impl.Object{tree(0, 500), commit("abcd", 1)})
	for range 8000 {
		p := n.anyPack(n.below(7))
		list, right := unpacked(p)
		want, failure := kept(store, list)
		counts[right && failure == ""]++
		if right && failure == "" {
			checkFetched(t, "any pack", store, p, want)
		} else {
			checkNotFetched(t, "any pack", store, p)
		}
	}
	if counts[true] < 1000 || counts[false] < 1000 {
		t.Errorf("%d packs can be stored, and %d cannot", counts[true], counts[false])
	}
}

func TestP151BrokenPacks(t *testing.T) {
	for name, p := range brokenPacks() {
		for where, store := range map[string][]impl.Object{"nothing": nil, "an empty slice": {}, "the library": library(t), "a full store": fullStore(t), "its text": blobs("abcd")} {
			checkNotFetched(t, name+" in "+where, store, p)
			checkNotFetched(t, name+" behind another entry in "+where, store, append(slices.Clone(p), chained(-1)))
		}
	}
}

func TestP151BrokenStores(t *testing.T) {
	broken := brokenStores(t)
	for i, o := range invalidObjects() {
		broken[fmt.Sprintf("the invalid object %d", i)] = []impl.Object{o}
		broken[fmt.Sprintf("the invalid object %d behind another", i)] = append(plain(t, 10), o)
	}
	for name, store := range broken {
		checkNotFetched(t, name+", no pack", store, nil)
		checkNotFetched(t, name+", an empty pack", store, []impl.PackEntry{})
		checkNotFetched(t, name+", a pack", store, chain(2))
		checkNotFetched(t, name+", a full pack", store, mustPack(t, plain(t, idsFrom(200, 16)...)))
		for wrong, p := range brokenPacks() {
			checkNotFetched(t, name+", and "+wrong, store, p)
		}
	}
}

func TestP153EmptyPack(t *testing.T) {
	full, _ := alike(t)
	stores := [][]impl.Object{nil, {}, blobs(""), {tree()}, library(t), circles(t), steps(t), fullStore(t), fullStore(t)[1:], full}
	n := numbers(153)
	for i := range 100 {
		stores = append(stores, n.offered(i%17, 4), makeStore(t, &n, i%17))
	}
	for _, store := range stores {
		checkFetched(t, "no pack", store, nil, store)
		checkFetched(t, "an empty pack", store, []impl.PackEntry{}, store)
	}
}

func TestMemoryOfFetchStore(t *testing.T) {
	full, tops := alike(t)
	all := mustFetch(t, request{full, tops, nil})
	for _, store := range [][]impl.Object{nil, {}, library(t), full, full[:15], full[1:4], plain(t, idsFrom(300, 16)...), plain(t, 300), {tree(7, 7)}, append(slices.Clone(full), blob("x"))} {
		for _, pack := range [][]impl.PackEntry{nil, {}, all, all[:3], chain(1), chain(3), chain(4), {packed(tree(1, 2, 3), -1), packed(tree(1, 2, 3), -1), packed(commit("", 5, 6), -1)}} {
			a, p := roomyObjects(store), roomyPack(pack)
			for i := range a {
				a[i].Text = strings.Clone(a[i].Text)
			}
			for i := range p {
				for j := range p[i].Ops {
					p[i].Ops[j].Text = strings.Clone(p[i].Ops[j].Text)
				}
			}
			before := wholeObjects(a) + wholePack(p)
			one, _ := impl.FetchStore(a, p)
			two, _ := impl.FetchStore(a, p)
			checkApart(t, "FetchStore", []any{a, p}, []any{one, two})
			checkTextsApart(t, "FetchStore", slices.Concat(textsOfObjects(a), textsOfPack(p)), slices.Concat(textsOfObjects(one), textsOfObjects(two)))
			for i := range one {
				one[i].Text = "other"
				for j := range one[i].Links[:cap(one[i].Links)] {
					one[i].Links[:cap(one[i].Links)][j] = -7
				}
			}
			if again, _ := impl.FetchStore(a, p); !sameStore(again, two) {
				t.Errorf("FetchStore(%s, %s) is %s now", shown(a), shown(p), shown(again))
			}
			if wholeObjects(a)+wholePack(p) != before {
				t.Errorf("FetchStore modified %s or %s", shown(store), shown(pack))
			}
		}
	}
}
