package tests

import (
	"fmt"
	"math"
	"slices"
	"testing"

	"loop.example/atomicpush/impl"
)

// someIds are no id, the least and the greatest one, and one in between.
func someIds() []int {
	return []int{-1, 0, 500, 990}
}

// wrongIds are numbers that neither are ids nor stand for none.
func wrongIds() []int {
	return []int{-2, -3, -991, 991, 992, 1 << 32, 1<<32 - 1, math.MinInt, math.MinInt + 1, math.MaxInt}
}

// wrongRefNumbers are numbers that no ref has.
func wrongRefNumbers() []int {
	return []int{-1, -2, -4, 4, 5, 990, 1 << 32, math.MinInt, math.MaxInt}
}

func update(ref int, before int, after int) impl.Update {
	return impl.Update{Ref: ref, Old: before, New: after}
}

// changed returns a copy of a list with another element in one place.
func changed[E any](list []E, i int, e E) []E {
	result := slices.Clone(list)
	result[i] = e
	return result
}

// allRefs returns all refs of some ids.
func allRefs(ids ...int) [][]int {
	result := [][]int{{}}
	for range 4 {
		longer := [][]int{}
		for _, refs := range result {
			for _, id := range ids {
				longer = append(longer, append(slices.Clone(refs), id))
			}
		}
		result = longer
	}
	return result
}

// allUpdates returns all valid lists of updates of some ids.
func allUpdates(ids ...int) [][]impl.Update {
	result := [][]impl.Update{{}}
	for ref := range 4 {
		for _, list := range slices.Clone(result) {
			for _, before := range ids {
				for _, after := range ids {
					if before != after {
						result = append(result, append(slices.Clone(list), update(ref, before, after)))
					}
				}
			}
		}
	}
	return result[1:]
}

// updatesRight tells as chapter 11 does whether updates are valid.
func updatesRight(list []impl.Update) bool {
	if len(list) == 0 {
		return false
	}
	for i, u := range list {
		if u.Ref < 0 || u.Ref > 3 || u.Old < -1 || u.Old > 990 || u.New < -1 || u.New > 990 || u.Old == u.New {
			return false
		}
		if i > 0 && list[i-1].Ref >= u.Ref {
			return false
		}
	}
	return true
}

// updated computes what valid updates make of valid refs as chapter 11 tells.
func updated(refs []int, list []impl.Update) ([]int, bool) {
	if slices.ContainsFunc(list, func(u impl.Update) bool { return refs[u.Ref] != u.Old }) {
		return refs, false
	}
	after := slices.Clone(refs)
	for _, u := range list {
		after[u.Ref] = u.New
	}
	return after, true
}

// differing computes the updates for all refs that differ, place by place.
func differing(from []int, to []int) []impl.Update {
	result := []impl.Update{}
	for ref := range 4 {
		if from[ref] != to[ref] {
			result = append(result, update(ref, from[ref], to[ref]))
		}
	}
	return result
}

// exchanged returns updates with their old and new ids exchanged.
func exchanged(list []impl.Update) []impl.Update {
	result := []impl.Update{}
	for _, u := range list {
		result = append(result, update(u.Ref, u.New, u.Old))
	}
	return result
}

// commonRef tells whether two lists of updates have a common ref.
func commonRef(a []impl.Update, b []impl.Update) bool {
	return slices.ContainsFunc(a, func(u impl.Update) bool {
		return slices.ContainsFunc(b, func(v impl.Update) bool { return u.Ref == v.Ref })
	})
}

// anyId returns an id or -1; often one of a few, so that many are equal.
func (n *numbers) anyId() int {
	if n.below(2) == 0 {
		return someIds()[n.below(4)]
	}
	return n.below(992) - 1
}

// refs returns valid refs.
func (n *numbers) refs() []int {
	return []int{n.anyId(), n.anyId(), n.anyId(), n.anyId()}
}

// updates returns valid updates. The refs have most of the old ids.
func (n *numbers) updates(refs []int) []impl.Update {
	for {
		result := []impl.Update{}
		for ref, id := range refs {
			u := update(ref, id, n.anyId())
			if n.below(8) == 0 {
				u.Old = n.anyId()
			}
			if u.Old != u.New && n.below(2) == 0 {
				result = append(result, u)
			}
		}
		if len(result) > 0 {
			return result
		}
	}
}

// eachApply calls check with many valid refs and updates: all of a few ids, and others.
// It requires that the refs have all old ids in enough of the cases, and do not in enough others.
func eachApply(t *testing.T, seed int, check func(refs []int, list []impl.Update)) {
	t.Helper()
	lists := allUpdates(-1, 0, 990)
	for _, refs := range allRefs(-1, 0, 990) {
		for _, list := range lists {
			check(refs, list)
		}
	}
	n := numbers(seed)
	right, wrong := 0, 0
	for range 20000 {
		refs := n.refs()
		list := n.updates(refs)
		if _, ok := updated(refs, list); ok {
			right++
		} else {
			wrong++
		}
		check(refs, list)
	}
	if right < 5000 || wrong < 2000 {
		t.Errorf("%d updates fit the refs, and %d do not", right, wrong)
	}
}

// eachRefsPair calls check with many pairs of valid refs: all of a few ids, and others that differ in any places.
func eachRefsPair(seed int, check func(from []int, to []int)) {
	all := allRefs(-1, 0, 990)
	for _, from := range all {
		for _, to := range all {
			check(from, to)
		}
	}
	n := numbers(seed)
	for range 20000 {
		from := n.refs()
		to := slices.Clone(from)
		for ref := range to {
			if n.below(2) == 0 {
				to[ref] = n.anyId()
			}
		}
		check(from, to)
	}
}

// brokenRefs returns refs that are invalid, each for another reason.
func brokenRefs() map[string][]int {
	right := []int{-1, 0, 500, 990}
	result := map[string][]int{
		"no refs":                nil,
		"an empty slice":         {},
		"one ref":                {1},
		"three refs":             right[:3:3],
		"three of four refs":     right[:3],
		"three refs without ids": {-1, -1, -1},
		"five refs":              append(slices.Clone(right), 5),
		"five refs without ids":  {-1, -1, -1, -1, -1},
		"eight refs":             slices.Concat(right, right),
		"many refs":              slices.Repeat(right, 10000),
		"an id too many":         append(slices.Clone(right), 991),
	}
	for _, id := range wrongIds() {
		for ref := range 4 {
			result[fmt.Sprintf("%d as ref %d", id, ref)] = changed(right, ref, id)
		}
		result[fmt.Sprintf("%d as all refs", id)] = []int{id, id, id, id}
	}
	return result
}

// brokenUpdates returns updates that are invalid, each for another reason. But for that, the updates of some refs fit these.
func brokenUpdates(refs []int) map[string][]impl.Update {
	all := []impl.Update{}
	for ref, id := range refs {
		all = append(all, update(ref, id, 100+ref))
	}
	result := map[string][]impl.Update{
		"no updates":                 nil,
		"an empty slice":             {},
		"descending":                 {all[3], all[2], all[1], all[0]},
		"two that are descending":    {all[1], all[0]},
		"the last ones descending":   {all[0], all[1], all[3], all[2]},
		"the first ones descending":  {all[1], all[0], all[2], all[3]},
		"one that is far too early":  {all[1], all[2], all[3], all[0]},
		"a ref twice, one by one":    {all[0], update(0, 100, 200)},
		"a ref there and back":       {all[2], update(2, 100+2, refs[2])},
		"a ref twice, not in a row":  {all[0], all[1], all[0]},
		"all refs, and one again":    {all[0], all[1], all[2], all[3], all[3]},
		"all refs, and one too many": {all[0], all[1], all[2], all[3], update(4, -1, 0)},
		"a ref -1 ahead of all":      {update(-1, -1, 0), all[0], all[1], all[2], all[3]},
		"all refs twice":             slices.Concat(all, all),
		"many updates":               slices.Repeat(all, 10000),
		"the zero value":             {{}},
		"four zero values":           {{}, {}, {}, {}},
	}
	for i, u := range all {
		result[fmt.Sprintf("update %d twice", i)] = slices.Insert(slices.Clone(all), i, u)
		result[fmt.Sprintf("update %d alone twice", i)] = []impl.Update{u, u}
		for _, id := range append(someIds(), refs[i], 100+i) {
			result[fmt.Sprintf("update %d of %d to itself", i, id)] = changed(all, i, update(u.Ref, id, id))
			result[fmt.Sprintf("update %d alone of %d to itself", i, id)] = []impl.Update{update(u.Ref, id, id)}
		}
		for _, id := range wrongIds() {
			result[fmt.Sprintf("update %d of %d", i, id)] = changed(all, i, update(u.Ref, id, u.New))
			result[fmt.Sprintf("update %d to %d", i, id)] = changed(all, i, update(u.Ref, u.Old, id))
			result[fmt.Sprintf("update %d alone of %d", i, id)] = []impl.Update{update(u.Ref, id, u.New)}
			result[fmt.Sprintf("update %d alone to %d", i, id)] = []impl.Update{update(u.Ref, u.Old, id)}
		}
		for _, ref := range wrongRefNumbers() {
			result[fmt.Sprintf("update %d of ref %d", i, ref)] = changed(all, i, update(ref, u.Old, u.New))
			result[fmt.Sprintf("update %d alone of ref %d", i, ref)] = []impl.Update{update(ref, u.Old, u.New)}
		}
	}
	return result
}

// roomyUpdates returns the updates in a slice with space behind them, which a careless append would fill.
func roomyUpdates(list []impl.Update) []impl.Update {
	return append(append(make([]impl.Update, 0, len(list)+8), list...), update(-77, -78, -79), update(3, -1, 5))[:len(list)]
}

// wholeUpdates describes all memory of a list of updates, also the space behind it.
func wholeUpdates(list []impl.Update) string {
	return fmt.Sprint(list == nil, len(list), list[:cap(list)])
}
