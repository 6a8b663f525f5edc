package tests

import (
	"fmt"
	"math"
	"slices"
	"testing"

	"loop.example/atomicpush/impl"
)

// packed is an entry of a pack.
func packed(o impl.Object, base int, ops ...impl.Op) impl.PackEntry {
	return impl.PackEntry{Kind: o.Kind, Links: o.Links, Base: base, Ops: ops}
}

// chained is an entry of a blob with the text of its base; without a base, the text is abcd.
func chained(base int) impl.PackEntry {
	if base == -1 {
		return packed(blob(""), -1, insertion("abcd"))
	}
	return packed(blob(""), base, copying(0, 4))
}

// chain returns entries of which each is the base of the next one.
func chain(size int) []impl.PackEntry {
	result := []impl.PackEntry{}
	for i := range size {
		result = append(result, chained(i-1))
	}
	return result
}

// blobs returns a blob for each text.
func blobs(texts ...string) []impl.Object {
	result := []impl.Object{}
	for _, text := range texts {
		result = append(result, blob(text))
	}
	return result
}

// invalidObjects returns objects that are invalid, each for another reason. A pack can hold all of them but the last one.
func invalidObjects() []impl.Object {
	return []impl.Object{
		{},
		{Kind: -1, Text: "a"},
		{Kind: 4, Links: []int{5}, Text: "a"},
		{Kind: math.MaxInt, Text: "a"},
		{Kind: math.MinInt, Links: []int{5}},
		{Kind: impl.KindBlob, Links: []int{5}, Text: "a"},
		{Kind: impl.KindTree, Text: "a"},
		{Kind: impl.KindTree, Links: []int{5}, Text: "a"},
		commit("a"),
		commit("a", 5, 5),
		commit("a", 6, 5),
		commit("a", -1),
		commit("a", 991),
		commit("a", math.MinInt),
		commit("a", math.MaxInt),
		commit("a", 1, 2, 3, 4, 5),
		tree(1, 2, 3, 4, 5),
		tree(7, 7),
		tree(991),
		blob("123456789"),
	}
}

// rightObject tells whether an object is valid, as chapter 1 tells.
func rightObject(o impl.Object) bool {
	right := len(o.Links) <= 4 && len(o.Text) <= 8
	for i, link := range o.Links {
		right = right && link >= 0 && link <= 990 && (i == 0 || o.Links[i-1] < link)
	}
	blob := o.Kind == 1 && len(o.Links) == 0
	tree := o.Kind == 2 && o.Text == ""
	commit := o.Kind == 3 && len(o.Links) >= 1
	return right && (blob || tree || commit)
}

// textIn computes the text of an entry, whose base may have at most the given depth, as chapter 3 tells.
func textIn(p []impl.PackEntry, i int, depth int) (string, bool) {
	base, ok := "", true
	if at := p[i].Base; at != -1 {
		if at < 0 || at >= i || depth < 0 {
			return "", false
		}
		base, ok = textIn(p, at, depth-1)
	}
	if !ok {
		return "", false
	}
	return performed(base, p[i].Ops)
}

// unpacked computes the objects of a pack as chapter 3 tells.
func unpacked(p []impl.PackEntry) ([]impl.Object, bool) {
	result, right := []impl.Object{}, len(p) <= 16
	for i, e := range p {
		text, ok := textIn(p, i, 1)
		o := impl.Object{Kind: e.Kind, Links: e.Links, Text: text}
		right = right && ok && rightObject(o)
		result = append(result, o)
	}
	if !right {
		return nil, false
	}
	return result, true
}

// packOf computes the pack of valid objects as chapter 3 tells.
func packOf(list []impl.Object) []impl.PackEntry {
	result, depths := []impl.PackEntry{}, []int{}
	for i, o := range list {
		bases, deltas := []int{-1}, [][]impl.Op{made("", o.Text)}
		for base := range i {
			if depths[base] < 2 {
				bases, deltas = append(bases, base), append(deltas, made(list[base].Text, o.Text))
			}
		}
		sizes := []int{}
		for _, ops := range deltas {
			sizes = append(sizes, impl.DeltaSize(ops))
		}
		best := slices.Index(sizes, slices.Min(sizes))
		depth := 0
		if bases[best] >= 0 {
			depth = depths[bases[best]] + 1
		}
		result, depths = append(result, packed(o, bases[best], deltas[best]...)), append(depths, depth)
	}
	return result
}

func sameEntry(a impl.PackEntry, b impl.PackEntry) bool {
	return a.Kind == b.Kind && a.Base == b.Base && slices.Equal(a.Links, b.Links) && slices.Equal(a.Ops, b.Ops)
}

func samePack(a []impl.PackEntry, b []impl.PackEntry) bool {
	return slices.EqualFunc(a, b, sameEntry)
}

// anyObject returns a valid object, most often with a text that has much in common with those of a list.
func (n *numbers) anyObject(list []impl.Object) impl.Object {
	text := ""
	if len(list) > 0 {
		text = list[n.below(len(list))].Text
	}
	switch {
	case text == "" || n.below(6) == 0:
		text = n.text(n.below(9))
	case n.below(3) == 0:
		text = n.pieces(text)
	default:
		at := n.below(len(text) + 1)
		text = (text[:at] + n.text(n.below(3)) + text[at:])[n.below(2):]
		text = text[:min(len(text), 8)]
	}
	links := n.ids([]int{0, 1, 7, 500, 989, 990}, 4)
	switch kind := n.below(8); {
	case kind == 0:
		return tree(links...)
	case kind <= 3 && len(links) > 0:
		return commit(text, links...)
	}
	return blob(text)
}

// eachObjectList calls check with many lists of valid objects, of which each size is among them; objects may be in a list twice.
func eachObjectList(seed int, check func(list []impl.Object)) {
	n := numbers(seed)
	for i := range 1700 {
		list := []impl.Object{}
		for len(list) < i%17 {
			list = append(list, n.anyObject(list))
		}
		check(list)
	}
}

// mustPack returns PackMake of valid objects.
func mustPack(t *testing.T, list []impl.Object) []impl.PackEntry {
	t.Helper()
	p, ok := impl.PackMake(list)
	if !ok || len(p) != len(list) {
		t.Fatalf("PackMake(%#v) = %#v, %t", list, p, ok)
	}
	return p
}

// anyEntry returns an entry that may follow on those of a pack, most often one of a valid object.
func (n *numbers) anyEntry(p []impl.PackEntry) impl.PackEntry {
	base, text := n.below(len(p)+1)-1, ""
	if base >= 0 {
		text, _ = textIn(p, base, len(p))
	}
	ops := []impl.Op{}
	for range n.below(3) {
		// Most of the operations are small: the texts of few entries are too long.
		if op := n.anyOp(text); n.below(30) == 0 || op.Size > 0 && op.Size < 4 || len(op.Text) == 1 {
			ops = append(ops, op)
		}
	}
	links := n.ids([]int{0, 1, 7, 500, 989, 990}, 4)
	switch kind := n.below(16); {
	case kind == 0:
		return packed(tree(links...), base, ops...)
	case kind == 1:
		return packed(tree(links...), base)
	case kind <= 6 && len(links) > 0:
		return packed(commit("", links...), base, ops...)
	}
	return packed(blob(""), base, ops...)
}

// anyPack returns a pack that may be invalid.
func (n *numbers) anyPack(size int) []impl.PackEntry {
	p := []impl.PackEntry{}
	for len(p) < size {
		e := n.anyEntry(p)
		if n.below(40) == 0 {
			e.Base = n.below(size+3) - 2
		}
		if n.below(60) == 0 {
			e.Kind = n.below(6) - 1
		}
		p = append(p, e)
	}
	return p
}

// eachPack calls check with many packs, those of PackMake among them, and requires that enough of them have objects, and enough have none.
func eachPack(t *testing.T, seed int, check func(p []impl.PackEntry)) {
	t.Helper()
	n := numbers(seed)
	right, wrong := 0, 0
	for range 20000 {
		p := n.anyPack(n.below(7) + n.below(2)*n.below(12))
		if _, ok := unpacked(p); ok {
			right++
		} else {
			wrong++
		}
		check(p)
	}
	if right < 4000 || wrong < 4000 {
		t.Errorf("%d packs have objects, and %d have none", right, wrong)
	}
	eachObjectList(seed, func(list []impl.Object) {
		check(packOf(list))
	})
}

// copyPack returns a pack in memory of its own.
func copyPack(p []impl.PackEntry) []impl.PackEntry {
	result := slices.Clone(p)
	for i, e := range p {
		result[i].Links, result[i].Ops = slices.Clone(e.Links), slices.Clone(e.Ops)
	}
	return result
}

// changedEntries returns entries that differ from one in one place.
func changedEntries(e impl.PackEntry) []impl.PackEntry {
	result := []impl.PackEntry{}
	add := func(change func(e *impl.PackEntry)) {
		other := copyPack([]impl.PackEntry{e})
		change(&other[0])
		result = append(result, other[0])
	}
	for kind := -1; kind <= 4; kind++ {
		add(func(e *impl.PackEntry) { e.Kind = kind })
	}
	for _, base := range []int{math.MinInt, -3, -2, -1, 0, 1, 2, 3, 4, 15, 16, 17, math.MaxInt} {
		add(func(e *impl.PackEntry) { e.Base = base })
	}
	for _, link := range []int{math.MinInt, -1, 0, 990, 991, math.MaxInt} {
		add(func(e *impl.PackEntry) { e.Links = append(e.Links, link) })
		for i := range e.Links {
			add(func(e *impl.PackEntry) { e.Links[i] = link })
		}
	}
	for _, op := range []impl.Op{{}, insertion("z"), insertion("123456789"), copying(0, 1), copying(0, 8), copying(0, -1)} {
		add(func(e *impl.PackEntry) { e.Ops = append(e.Ops, op) })
		add(func(e *impl.PackEntry) { e.Ops = slices.Insert(e.Ops, 0, op) })
	}
	for i := range e.Ops {
		add(func(e *impl.PackEntry) { e.Ops[i].At++ })
		add(func(e *impl.PackEntry) { e.Ops[i].At-- })
		add(func(e *impl.PackEntry) { e.Ops[i].Size++ })
		add(func(e *impl.PackEntry) { e.Ops[i].Size-- })
		add(func(e *impl.PackEntry) { e.Ops[i].Text += "z" })
		add(func(e *impl.PackEntry) { e.Ops = slices.Delete(e.Ops, i, i+1) })
	}
	return result
}

// roomyPack returns a pack in slices with space behind them.
func roomyPack(p []impl.PackEntry) []impl.PackEntry {
	result := make([]impl.PackEntry, 0, len(p)+2)
	for _, e := range append(slices.Clone(p), chained(-1), chained(0)) {
		result = append(result, impl.PackEntry{Kind: e.Kind, Links: roomy(e.Links), Base: e.Base, Ops: roomyOps(e.Ops)})
	}
	return result[:len(p)]
}

// wholePack describes all memory of a pack, also the space behind it.
func wholePack(p []impl.PackEntry) string {
	result := fmt.Sprint(p == nil, len(p))
	for _, e := range p[:cap(p)] {
		result += fmt.Sprintf(" %d %d %s %s", e.Kind, e.Base, whole(e.Links), wholeOps(e.Ops))
	}
	return result
}

// shown describes a value for a message: the beginning is enough of a large one.
func shown(v any) string {
	result := fmt.Sprintf("%#v", v)
	return result[:min(len(result), 3000)]
}

func textsOfObjects(list []impl.Object) []string {
	result := []string{}
	for _, o := range list {
		result = append(result, o.Text)
	}
	return result
}

func textsOfPack(p []impl.PackEntry) []string {
	result := []string{}
	for _, e := range p {
		result = append(result, textsOf(e.Ops)...)
	}
	return result
}
