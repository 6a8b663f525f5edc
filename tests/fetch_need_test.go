package tests

import (
	"fmt"
	"slices"
	"testing"

	"loop.example/atomicpush/impl"
)

func TestP145Need(t *testing.T) {
	for _, test := range []struct {
		name  string
		wants []int
		haves []int
		want  []int
	}{
		{"nothing wanted, nothing named", nil, nil, nil},
		{"empty slices", []int{}, []int{}, nil},
		{"nothing wanted", nil, []int{310, 700}, nil},
		{"nothing wanted, and what is named is not there", nil, []int{1, 989, 990}, nil},
		{"a blob", []int{110}, nil, []int{110}},
		{"the least id", []int{0}, nil, []int{0}},
		{"an object with links", []int{200}, nil, []int{0, 110, 200}},
		{"through several links, and in more than one way", []int{310}, nil, []int{0, 110, 120, 200, 210, 300, 310}},
		{"all of the history", []int{400}, nil, []int{0, 110, 120, 200, 210, 300, 310, 320, 400}},
		{"several, one of them reached from another", []int{110, 200}, nil, []int{0, 110, 200}},
		{"several that share a part", []int{200, 210}, nil, []int{0, 110, 120, 200, 210}},
		{"several that share nothing", []int{200, 700}, nil, []int{0, 110, 200, 700}},
		{"what is named is wanted", []int{310}, []int{310}, nil},
		{"what is named is wanted, a blob", []int{700}, []int{700}, nil},
		{"one of two is named", []int{200, 210}, []int{200}, []int{120, 210}},
		{"the other one of two is named", []int{200, 210}, []int{210}, []int{0, 200}},
		{"reached from what is named", []int{200}, []int{400}, nil},
		{"reached at once from what is named", []int{110}, []int{200}, nil},
		{"some reached from what is named", []int{200, 700}, []int{300}, []int{700}},
		{"wanted ids reach what is named", []int{310}, []int{300}, []int{120, 210, 310}},
		{"wanted ids reach what is named, a blob", []int{310}, []int{110}, []int{0, 120, 200, 210, 300, 310}},
		{"an object between, all that it reaches is there", []int{400}, []int{310}, []int{320, 400}},
		{"a branch is named", []int{310}, []int{320}, []int{310}},
		{"both branches are named", []int{400}, []int{310, 320}, []int{400}},
		{"only a part is shared", []int{200}, []int{210}, []int{0, 200}},
		{"nothing is shared", []int{200}, []int{700}, []int{0, 110, 200}},
		{"named ids are not there", []int{200}, []int{1, 199, 201, 990}, []int{0, 110, 200}},
		{"some of the named ids are not there", []int{310}, []int{1, 200, 990}, []int{120, 210, 300, 310}},
		{"what is named is incomplete", []int{310}, []int{500}, []int{120, 210, 300, 310}},
		{"what is named is incomplete after several links", []int{310}, []int{530}, []int{120, 210, 300, 310}},
		{"what is named is incomplete, and shares a blob", []int{210, 320}, []int{550}, []int{0, 110, 200, 210, 300, 320}},
		{"what is named is missing behind what is stored", []int{200, 300}, []int{510}, []int{0, 110, 200, 300}},
		{"four wanted, four named", []int{200, 310, 320, 700}, []int{110, 210, 500, 990}, []int{300, 310, 320, 700}},
		{"four wanted, four others named", []int{110, 200, 300, 400}, []int{0, 120, 700, 989}, []int{110, 200, 210, 300, 310, 320, 400}},
		{"all four are named", []int{200, 310, 320, 700}, []int{200, 310, 320, 700}, nil},
	} {
		checkNeed(t, test.name, request{library(t), test.wants, test.haves}, test.want)
	}
}

// A blob, a tree and a commit, with the ids that they have.
func TestP145Kinds(t *testing.T) {
	one, two, three := blob("one"), blob("two"), blob("three")
	folder := tree(idsOf(merged([]impl.Object{one, two}))...)
	first := commit("first", digest(folder))
	other := tree(idsOf(merged([]impl.Object{two, three, folder}))...)
	second := commit("second", idsOf(merged([]impl.Object{other, first}))...)
	empty := tree()
	store := merged([]impl.Object{one, two, three, folder, other, first, second, empty})
	for i, test := range []struct {
		wanted []impl.Object
		named  []impl.Object
		want   []impl.Object
	}{
		{[]impl.Object{one}, nil, []impl.Object{one}},
		{[]impl.Object{empty}, nil, []impl.Object{empty}},
		{[]impl.Object{folder}, nil, []impl.Object{one, two, folder}},
		{[]impl.Object{first}, nil, []impl.Object{one, two, folder, first}},
		{[]impl.Object{second}, nil, []impl.Object{one, two, three, folder, other, first, second}},
		{[]impl.Object{one, folder, first}, nil, []impl.Object{one, two, folder, first}},
		{[]impl.Object{second}, []impl.Object{first}, []impl.Object{three, other, second}},
		{[]impl.Object{second}, []impl.Object{folder}, []impl.Object{three, other, first, second}},
		{[]impl.Object{second}, []impl.Object{two, three, empty}, []impl.Object{one, folder, other, first, second}},
		{[]impl.Object{second, empty}, []impl.Object{other}, []impl.Object{first, second, empty}},
		{[]impl.Object{first, empty}, []impl.Object{second}, []impl.Object{empty}},
		{[]impl.Object{first, other}, []impl.Object{second}, nil},
	} {
		r := request{store, idsOf(merged(test.wanted)), idsOf(merged(test.named))}
		checkNeed(t, fmt.Sprintf("the case %d", i), r, idsOf(merged(test.want)))
	}
}

// Each two ids of the library are wanted, and each other two are named.
func TestP145EachPair(t *testing.T) {
	store := library(t)
	some := [][]int{nil}
	for i, id := range append(idsOf(store), 510, 990) {
		some = append(some, []int{id})
		for _, other := range idsOf(store)[:min(i, len(store))] {
			if other < id {
				some = append(some, []int{other, id})
			}
		}
	}
	for _, wants := range some {
		for _, haves := range some[:40] {
			checkRequest(t, "two ids", request{store, wants, haves})
			checkRequest(t, "two other ids", request{store, haves, wants})
		}
	}
}

func TestP145Circles(t *testing.T) {
	for _, test := range []struct {
		wants []int
		haves []int
		want  []int
	}{
		{[]int{100}, nil, []int{100}},
		{[]int{100}, []int{100}, nil},
		{[]int{100, 600}, []int{100}, []int{200, 300, 400, 500, 600}},
		{[]int{200}, nil, []int{200, 300, 400, 500}},
		{[]int{300}, nil, []int{200, 300, 400, 500}},
		{[]int{200, 300, 400}, nil, []int{200, 300, 400, 500}},
		{[]int{200}, []int{500}, []int{200, 300, 400}},
		{[]int{200}, []int{400}, nil},
		{[]int{400}, []int{200}, nil},
		{[]int{600}, []int{200}, []int{600}},
		{[]int{200}, []int{600}, nil},
		{[]int{600}, []int{800}, []int{600}},
		{[]int{500}, []int{700}, nil},
	} {
		checkNeed(t, "circles", request{circles(t), test.wants, test.haves}, test.want)
	}
	for _, wants := range [][]int{{700}, {800}, {100, 800}} {
		for _, haves := range [][]int{nil, {700}, {800}, {200, 710}, {700, 710, 800}} {
			checkNothing(t, "an incomplete circle", request{circles(t), wants, haves})
		}
	}
}

// A chain of 16 objects: what is needed begins behind what is named.
func TestP145Chain(t *testing.T) {
	store := steps(t)
	all := idsOf(store)
	for wanted := range 16 {
		checkNeed(t, "nothing named", request{store, all[wanted : wanted+1], nil}, all[:wanted+1])
		for named := range 16 {
			want := []int{}
			if named < wanted {
				want = all[named+1 : wanted+1]
			}
			checkNeed(t, "a chain", request{store, all[wanted : wanted+1], all[named : named+1]}, want)
		}
	}
}

// Sixteen objects with four links each: four wanted ids reach all of them, and four named ones all but the wanted ones.
func TestP145ManyLinks(t *testing.T) {
	store := []impl.Object{}
	for i := range 16 {
		links := []int{}
		if row := i / 4; row > 0 {
			links = []int{100*row - 100, 100*row - 90, 100*row - 80, 100*row - 70}
		}
		store = append(store, linked(t, 100*(i/4)+10*(i%4), links...))
	}
	all := idsOf(store)
	for row := range 4 {
		wants := all[4*row : 4*row+4]
		checkNeed(t, "all of a row wanted", request{store, wants, nil}, all[:4*row+4])
		checkNeed(t, "all of a row wanted and named", request{store, wants, wants}, nil)
		for named := range row {
			for i := range 4 {
				checkNeed(t, "all of a row named", request{store, wants, all[4*named : 4*named+4]}, all[4*named+4:4*row+4])
				rest := slices.Concat(without(all[4*named:4*named+4], i), all[4*named+4:4*row+4])
				checkNeed(t, "one of a row named", request{store, wants, all[4*named+i : 4*named+i+1]}, rest)
			}
		}
	}
}

func TestP145EachRequest(t *testing.T) {
	eachRequest(t, 145, func(r request) {
		checkRequest(t, "a request", r)
		got, ok := impl.FetchNeed(r.store, r.wants, r.haves)
		if !ok {
			return
		}
		wanted, there, want := impl.StoreReach(r.store, r.wants), impl.StoreReach(r.store, r.haves), []int{}
		for _, id := range wanted {
			if !slices.Contains(there, id) {
				want = append(want, id)
			}
		}
		if !slices.Equal(got, want) {
			t.Fatalf("FetchNeed(%s, %v, %v) = %v, not %v", shown(r.store), r.wants, r.haves, got, want)
		}
	})
}

func TestP146Missing(t *testing.T) {
	for _, test := range []struct {
		name  string
		wants []int
		haves []int
	}{
		{"a wanted id is missing", []int{1}, nil},
		{"the greatest id is missing", []int{990}, nil},
		{"one of the wanted ids is missing", []int{200, 300, 301, 310}, nil},
		{"all wanted ids are missing", []int{1, 2, 989, 990}, nil},
		{"missing at once", []int{500}, nil},
		{"missing after two links", []int{520}, nil},
		{"missing after three links", []int{530}, nil},
		{"missing from one of the wanted ids", []int{110, 200, 530, 700}, nil},
		{"several are missing", []int{550}, nil},
		{"missing, though the others are named", []int{200, 530}, []int{200, 700}},
		{"the missing id is named", []int{500}, []int{510}},
		{"the wanted id that is missing is named", []int{990}, []int{990}},
		{"one of the missing ids is named", []int{550}, []int{540}},
		{"all missing ids are named", []int{550}, []int{540, 990}},
		{"the wanted id that is incomplete is named", []int{500}, []int{500}},
		{"the wanted id that is incomplete after several links is named", []int{530}, []int{530}},
		{"missing only behind what is named", []int{530}, []int{500}},
		{"missing only behind what is named, which links to it after several", []int{530}, []int{520}},
		{"reached from what is named", []int{500}, []int{530}},
		{"all is named", []int{500, 520, 530, 550}, []int{500, 520, 530, 550}},
		{"all is named, what is missing, too", []int{500, 530}, []int{500, 510, 520, 530}},
	} {
		checkNothing(t, test.name, request{library(t), test.wants, test.haves})
	}
}

func TestP146EmptyStore(t *testing.T) {
	for _, store := range [][]impl.Object{nil, {}} {
		for _, haves := range [][]int{nil, {}, {0}, {990}, {5, 6, 7, 8}} {
			checkNeed(t, "nothing is stored or wanted", request{store, nil, haves}, nil)
			for _, wants := range [][]int{{0}, {990}, {5}, {5, 6, 7, 8}} {
				checkNothing(t, "nothing is stored", request{store, wants, haves})
			}
		}
	}
}

// Without any one of its objects, a chain of 16 objects is incomplete: nothing behind the gap can be fetched, whatever is named.
func TestP146Gap(t *testing.T) {
	all := idsOf(steps(t))
	for gap := range 16 {
		store := without(steps(t), gap)
		for wanted := range 16 {
			for named := range 16 {
				r := request{store, all[wanted : wanted+1], all[named : named+1]}
				if wanted >= gap {
					checkNothing(t, "behind a gap", r)
					continue
				}
				want := []int{}
				switch {
				case named >= gap:
					// What is named is the gap, or reaches it and nothing ahead of it.
					want = all[:wanted+1]
				case named < wanted:
					want = all[named+1 : wanted+1]
				}
				checkNeed(t, "ahead of a gap", r, want)
			}
		}
	}
}

func TestP146IfAndOnlyIf(t *testing.T) {
	eachRequest(t, 146, func(r request) {
		want := len(impl.StoreMissing(r.store, r.wants)) == 0
		_, need := impl.FetchNeed(r.store, r.wants, r.haves)
		_, pack := impl.FetchPack(r.store, r.wants, r.haves)
		if need != want || pack != want {
			t.Fatalf("FetchNeed(%s, %v, %v): %t, and FetchPack: %t", shown(r.store), r.wants, r.haves, need, pack)
		}
	})
}

// validIds returns ids that are wanted or named in tests of other arguments, which are invalid.
func validIds() [][]int {
	return [][]int{nil, {}, {0}, {10}, {110, 200}, {10, 70, 130, 910}, {990}}
}

func TestP146InvalidStore(t *testing.T) {
	for name, store := range brokenStores(t) {
		for _, wants := range slices.Concat(validIds(), [][]int{{-1}, {991}, {5, 5}}) {
			for _, haves := range slices.Concat(validIds(), [][]int{{-1}, {991}, {5, 5}}) {
				checkNothing(t, name, request{store, wants, haves})
			}
		}
		some := []int{}
		for _, o := range store[:min(4, len(store))] {
			some = append(some, digest(o))
		}
		checkNothing(t, name+", what it has is wanted", request{store, some, nil})
	}
}

func TestP146InvalidIds(t *testing.T) {
	stores := map[string][]impl.Object{"nothing": nil, "the library": library(t), "16 objects": fullStore(t), "some objects": plain(t, 10, 20, 30, 40, 50)}
	for name, store := range stores {
		for _, wrong := range wrongFroms() {
			checkNothing(t, "wrong ids are wanted in "+name, request{store, wrong, nil})
			checkNothing(t, "wrong ids are named in "+name, request{store, nil, wrong})
			checkNothing(t, "wrong ids are wanted and named in "+name, request{store, wrong, wrong})
			for _, right := range append(validIds(), idsOf(store)[:min(4, len(store))]) {
				checkNothing(t, "wrong ids are wanted in "+name, request{store, wrong, right})
				checkNothing(t, "wrong ids are named in "+name, request{store, right, wrong})
			}
		}
	}
}

// One wrong id at each place among ids that are right, and five ids that are all right but too many.
func TestP146WrongPlaces(t *testing.T) {
	store := plain(t, 10, 20, 30, 40, 50)
	right := []int{10, 20, 30, 40}
	for place := range 4 {
		for _, id := range []int{-1 << 62, -991, -1, 5, 10, 20, 30, 40, 50, 990, 991, 992, 1 << 62} {
			some := changed(right, place, id)
			if slices.IsSorted(some) && ascending(some) && some[0] >= 0 && some[3] <= 990 {
				continue
			}
			checkNothing(t, "a wrong id is wanted", request{store, some, nil})
			checkNothing(t, "a wrong id is named", request{store, right, some})
		}
	}
	five := []int{10, 20, 30, 40, 50}
	for i := range five {
		checkNeed(t, "four of five are wanted", request{store, without(five, i), nil}, without(five, i))
		checkNeed(t, "four of five are named", request{store, []int{10, 20}, without(five, i)}, slices.DeleteFunc([]int{10, 20}, func(id int) bool { return id != five[i] }))
	}
	checkNothing(t, "five are wanted", request{store, five, nil})
	checkNothing(t, "five are named", request{store, right, five})
	checkNothing(t, "five are wanted and named", request{store, five, five})
}

func TestP147WantedIsNamed(t *testing.T) {
	needed := 0
	eachRequest(t, 147, func(r request) {
		if all, ok := impl.FetchNeed(r.store, r.wants, r.haves); ok {
			needed += len(all)
			checkNeed(t, "what is wanted is named", request{r.store, r.wants, r.wants}, nil)
		}
		if len(r.wants) < 4 {
			more := append(slices.Clone(r.wants), 990)
			if ascending(more) && len(impl.StoreMissing(r.store, r.wants)) == 0 {
				checkNeed(t, "what is wanted is named, and more", request{r.store, r.wants, more}, nil)
			}
		}
	})
	if needed < 1000 {
		t.Errorf("only %d objects are needed", needed)
	}
}

func TestP152NothingNamed(t *testing.T) {
	fewer := 0
	eachRequest(t, 152, func(r request) {
		some, ok := impl.FetchNeed(r.store, r.wants, r.haves)
		all, fine := impl.FetchNeed(r.store, r.wants, nil)
		if ok != fine || len(all) < len(some) {
			t.Fatalf("FetchNeed(%s, %v) is %v, %t, and without %v %v, %t", shown(r.store), r.wants, some, ok, r.haves, all, fine)
		}
		for _, id := range some {
			if !slices.Contains(all, id) {
				t.Fatalf("FetchNeed(%s, %v) lacks %d, which is needed with %v", shown(r.store), r.wants, id, r.haves)
			}
		}
		if len(some) < len(all) {
			fewer++
		}
	})
	if fewer < 100 {
		t.Errorf("only %d requests name what is wanted", fewer)
	}
}

func TestMemoryOfFetchNeed(t *testing.T) {
	full, tops := alike(t)
	for _, r := range []request{
		{nil, nil, nil}, {[]impl.Object{}, []int{}, []int{}}, {library(t), []int{400, 700}, []int{300, 500}}, {library(t), []int{400}, nil},
		{library(t), []int{500}, []int{200}}, {library(t), []int{310}, []int{310}}, {circles(t), []int{600}, []int{500}}, {full, tops, nil},
		{full, tops, tops[:1]}, {full, tops[:1], []int{-1}}, {[]impl.Object{tree(7, 7)}, nil, nil}, {library(t), []int{5, 4}, nil},
	} {
		store, wants, haves := roomyObjects(r.store), roomy(r.wants), roomy(r.haves)
		before := wholeObjects(store) + whole(wants) + whole(haves)
		one, _ := impl.FetchNeed(store, wants, haves)
		two, _ := impl.FetchNeed(store, wants, haves)
		checkApart(t, "FetchNeed", []any{store, wants, haves}, []any{one, two})
		for i := range one[:cap(one)] {
			one[:cap(one)][i] = -77
		}
		if again, _ := impl.FetchNeed(store, wants, haves); !slices.Equal(again, two) {
			t.Errorf("FetchNeed(%s, %v, %v) is %v now", shown(store), wants, haves, again)
		}
		if wholeObjects(store)+whole(wants)+whole(haves) != before {
			t.Errorf("FetchNeed modified %s, %v or %v", shown(r.store), r.wants, r.haves)
		}
		same, _ := impl.FetchNeed(store, wants, wants)
		checkApart(t, "FetchNeed of the same ids", []any{store, wants}, []any{same})
	}
}
