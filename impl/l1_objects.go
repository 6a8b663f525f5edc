package impl

import (
	"slices"
	"strings"
)

// Ids is the number of ids of objects, which are numbered from 0.
const Ids = 991

// MaxLinks is the largest number of links of an object.
const MaxLinks = 4

// MaxText is the largest number of bytes of the text of an object.
const MaxText = 8

// MaxObjects is the largest number of objects of a store.
const MaxObjects = 16

// KindBlob is the kind of a text.
const KindBlob = 1

// KindTree is the kind of a list of objects.
const KindTree = 2

// KindCommit is the kind of a state with its tree and the states before.
const KindCommit = 3

// Object is an object: its kind, the ids of the objects to which it links, and its text.
type Object struct {
	Kind  int
	Links []int
	Text  string
}

// valid reports whether o is valid.
func (o Object) valid() bool {
	if !idsValid(o.Links) || len(o.Text) > MaxText {
		return false
	}
	switch o.Kind {
	case KindBlob:
		return len(o.Links) == 0
	case KindTree:
		return len(o.Text) == 0
	case KindCommit:
		return len(o.Links) > 0
	}
	return false
}

// id returns the id of o, or -1 if it is invalid.
func (o Object) id() int {
	if !o.valid() {
		return -1
	}
	number := 100*o.Kind + len(o.Links)
	for _, link := range o.Links {
		number = mixId(number, link)
	}
	for _, b := range []byte(o.Text) {
		number = (number*257 + int(b) + 1) % Ids
	}
	return number
}

// equals reports whether o and other are the same object.
func (o Object) equals(other Object) bool {
	return o.Kind == other.Kind && o.Text == other.Text && slices.Equal(o.Links, other.Links)
}

// copied returns o in memory of its own.
func (o Object) copied() Object {
	return Object{Kind: o.Kind, Links: copyNumbers(o.Links), Text: strings.Clone(o.Text)}
}

// ObjectValid reports whether o is valid.
func ObjectValid(o Object) bool {
	return o.valid()
}

// ObjectId returns the id of an object.
func ObjectId(o Object) int {
	return o.id()
}

// StoreValid reports whether list is a store.
func StoreValid(list []Object) bool {
	if len(list) > MaxObjects {
		return false
	}
	last := -1
	for _, o := range list {
		id := o.id()
		// An invalid object fails here, too: its id is -1, which is never above the last one.
		if id <= last {
			return false
		}
		last = id
	}
	return true
}

// StorePut stores an object.
func StorePut(list []Object, o Object) ([]Object, bool) {
	if !StoreValid(list) || !o.valid() {
		return []Object{}, false
	}
	store := copyObjects(list)
	at, found := findObject(list, o.id())
	if found {
		return store, list[at].equals(o)
	}
	if len(list) == MaxObjects {
		return store, false
	}
	return slices.Insert(store, at, o.copied()), true
}

// StoreGet returns the object with an id.
func StoreGet(list []Object, id int) (Object, bool) {
	if !StoreValid(list) {
		return Object{}, false
	}
	at, found := findObject(list, id)
	if !found {
		return Object{}, false
	}
	return list[at].copied(), true
}

// StoreReach returns the ids of all objects that are reached from some ids.
func StoreReach(list []Object, from []int) []int {
	if !StoreValid(list) || !idsValid(from) {
		return []int{}
	}
	stored, _ := reachedIds(list, from)
	return stored
}

// StoreMissing returns the ids that are reached from some ids, but not stored.
func StoreMissing(list []Object, from []int) []int {
	if !StoreValid(list) || !idsValid(from) {
		return []int{}
	}
	_, missing := reachedIds(list, from)
	return missing
}

// idsValid reports whether list is what an object may link to: at most MaxLinks ids in range, ascending.
func idsValid(list []int) bool {
	if len(list) > MaxLinks {
		return false
	}
	last := -1
	for _, id := range list {
		if id <= last || id >= Ids {
			return false
		}
		last = id
	}
	return true
}

// mixId returns the number that follows on number when an id is added to a digest.
func mixId(number int, id int) int {
	return (number*613 + id + 1) % Ids
}

// findObject returns the index of the first object whose id is not below id, and whether it has this id.
// The objects are valid and ascending by id, but may be more than those of a store.
func findObject(list []Object, id int) (int, bool) {
	at := 0
	for at < len(list) && list[at].id() < id {
		at++
	}
	return at, at < len(list) && list[at].id() == id
}

// reachedIds returns the ids that are reached and stored, and those that are reached and not stored, both ascending.
// It requires of the objects what findObject requires.
func reachedIds(list []Object, from []int) ([]int, []int) {
	reached := markReached(list, from)
	stored, missing := []int{}, []int{}
	for id := range Ids {
		if !reached[id] {
			continue
		}
		if _, found := findObject(list, id); found {
			stored = append(stored, id)
		} else {
			missing = append(missing, id)
		}
	}
	return stored, missing
}

// markReached tells of each id whether it is reached.
func markReached(list []Object, from []int) [Ids]bool {
	var reached [Ids]bool
	waiting := copyNumbers(from)
	for len(waiting) > 0 {
		last := len(waiting) - 1
		id := waiting[last]
		waiting = waiting[:last]
		// Several objects may link to one, and ids may even link in a circle: nothing is followed twice.
		if reached[id] {
			continue
		}
		reached[id] = true
		if at, found := findObject(list, id); found {
			waiting = append(waiting, list[at].Links...)
		}
	}
	return reached
}

// copyObjects returns the objects in memory of their own.
func copyObjects(list []Object) []Object {
	result := make([]Object, len(list))
	for i, o := range list {
		result[i] = o.copied()
	}
	return result
}

// copyNumbers returns the numbers in memory of their own.
func copyNumbers(list []int) []int {
	return append([]int{}, list...)
}
