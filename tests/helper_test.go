package tests

import (
	"fmt"
	"reflect"
	"slices"
	"testing"
	"unsafe"

	"loop.example/atomicpush/impl"
)

// numbers makes a fixed sequence of numbers, so that each run of a test has the same inputs.
type numbers uint64

// below returns the next number of the sequence, in the range 0 to limit-1.
func (n *numbers) below(limit int) int {
	*n = *n*6364136223846793005 + 1442695040888963407
	return int(uint64(*n)>>33) % limit
}

// ids returns at most most of the ids of a list, ascending.
func (n *numbers) ids(list []int, most int) []int {
	result := []int{}
	for many := n.below(most + 1); len(list) > 0 && many > 0; many-- {
		if id := list[n.below(len(list))]; !slices.Contains(result, id) {
			result = append(result, id)
		}
	}
	slices.Sort(result)
	return result
}

// text returns a text of the given number of bytes.
func (n *numbers) text(size int) string {
	result := make([]byte, size)
	for i := range result {
		result[i] = byte(n.below(256))
	}
	return string(result)
}

func blob(text string) impl.Object {
	return impl.Object{Kind: impl.KindBlob, Text: text}
}

func tree(links ...int) impl.Object {
	return impl.Object{Kind: impl.KindTree, Links: links}
}

func commit(text string, links ...int) impl.Object {
	return impl.Object{Kind: impl.KindCommit, Links: links, Text: text}
}

// sameObject compares objects; links that are nil and links that are empty are the same.
func sameObject(a impl.Object, b impl.Object) bool {
	return a.Kind == b.Kind && a.Text == b.Text && slices.Equal(a.Links, b.Links)
}

func sameStore(a []impl.Object, b []impl.Object) bool {
	return slices.EqualFunc(a, b, sameObject)
}

// digest computes the id of a valid object as chapter 1 tells.
func digest(o impl.Object) int {
	number := 100*o.Kind + len(o.Links)
	for _, link := range o.Links {
		number = (number*613 + link + 1) % 991
	}
	for i := 0; i < len(o.Text); i++ {
		number = (number*257 + int(o.Text[i]) + 1) % 991
	}
	return number
}

// objectWithId returns an object with any id and any links: a text of two bytes can lead to each id.
func objectWithId(t *testing.T, id int, links []int) impl.Object {
	t.Helper()
	o := impl.Object{Kind: impl.KindCommit, Links: links}
	if len(links) == 0 {
		o.Kind = impl.KindBlob
	}
	for i := range 65536 {
		o.Text = string([]byte{byte(i >> 8), byte(i)})
		if digest(o) == id {
			return o
		}
	}
	t.Fatalf("no object with links %#v has the id %d", links, id)
	return o
}

// makeStore returns a store whose objects link to each other, to themselves and to ids that are not stored.
func makeStore(t *testing.T, n *numbers, size int) []impl.Object {
	t.Helper()
	known := []int{0, 990}
	for range size + 2 {
		known = append(known, n.below(991))
	}
	store := []impl.Object{}
	for attempts := 0; len(store) < size; attempts++ {
		if attempts > 1000 {
			t.Fatalf("no store of %d objects", size)
		}
		o := tree(n.ids(known, 4)...)
		if attempts%4 != 0 {
			o = objectWithId(t, known[n.below(len(known))], n.ids(known, 4))
		}
		if !slices.ContainsFunc(store, func(p impl.Object) bool { return digest(p) == digest(o) }) {
			store = append(store, o)
			known = append(known, digest(o))
		}
	}
	slices.SortFunc(store, func(a, b impl.Object) int { return digest(a) - digest(b) })
	return store
}

// fullStore returns a store of 16 blobs.
func fullStore(t *testing.T) []impl.Object {
	t.Helper()
	store := []impl.Object{}
	for i := range 16 {
		store = append(store, objectWithId(t, 10+60*i, nil))
	}
	return store
}

func without[E any](list []E, i int) []E {
	return slices.Concat(list[:i], list[i+1:])
}

// span is a piece of memory.
type span struct {
	start unsafe.Pointer
	size  uintptr
}

func (s span) meets(other span) bool {
	a, b := uintptr(s.start), uintptr(other.start)
	return a < b+other.size && b < a+s.size
}

// spansOf returns the memory of all slices in a value, up to their capacities.
func spansOf(v reflect.Value) []span {
	result := []span{}
	switch v.Kind() {
	case reflect.Slice:
		if v.Cap() > 0 {
			result = append(result, span{v.UnsafePointer(), uintptr(v.Cap()) * v.Type().Elem().Size()})
		}
		for i := range v.Len() {
			result = append(result, spansOf(v.Index(i))...)
		}
	case reflect.Struct:
		for i := range v.NumField() {
			result = append(result, spansOf(v.Field(i))...)
		}
	}
	return result
}

// checkApart fails if slices of the results share memory with those of the arguments or with each other.
func checkApart(t *testing.T, name string, arguments []any, results []any) {
	t.Helper()
	taken := []span{}
	for _, v := range arguments {
		taken = append(taken, spansOf(reflect.ValueOf(v))...)
	}
	for _, v := range results {
		for _, s := range spansOf(reflect.ValueOf(v)) {
			if slices.ContainsFunc(taken, s.meets) {
				t.Errorf("%s: the result %#v shares memory", name, v)
				return
			}
			taken = append(taken, s)
		}
	}
}

// roomy returns the numbers in a slice with space behind them, which a careless append would fill.
func roomy(list []int) []int {
	return append(append(make([]int, 0, len(list)+8), list...), -77, -78, -79)[:len(list)]
}

// roomyObjects returns the objects in slices with space behind them.
func roomyObjects(list []impl.Object) []impl.Object {
	result := make([]impl.Object, 0, len(list)+3)
	for _, o := range append(slices.Clone(list), blob("spare"), blob("spare")) {
		result = append(result, impl.Object{Kind: o.Kind, Links: roomy(o.Links), Text: o.Text})
	}
	return result[:len(list)]
}

// whole describes all memory of a list of numbers, also the space behind it.
func whole(list []int) string {
	return fmt.Sprint(list == nil, len(list), list[:cap(list)])
}

// wholeObjects describes all memory of a list of objects, also the space behind it.
func wholeObjects(list []impl.Object) string {
	result := fmt.Sprint(list == nil, len(list))
	for _, o := range list[:cap(list)] {
		result += fmt.Sprintf(" %d %q %s", o.Kind, o.Text, whole(o.Links))
	}
	return result
}
