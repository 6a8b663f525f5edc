package tests

import (
	"math"
	"strings"
	"testing"

	"loop.example/atomicpush/impl"
)

// distinctIds fails if some objects of a list are invalid or have the same id.
func distinctIds(t *testing.T, list []impl.Object) {
	t.Helper()
	seen := map[int]impl.Object{}
	for _, o := range list {
		id := impl.ObjectId(o)
		if id < 0 || id >= impl.Ids {
			t.Fatalf("ObjectId(%#v) = %d", o, id)
		}
		if p, found := seen[id]; found {
			t.Fatalf("%#v and %#v have the id %d", p, o, id)
		}
		seen[id] = o
	}
}

func TestP01OneOtherByte(t *testing.T) {
	n := numbers(1)
	for _, o := range []impl.Object{blob(""), commit("", 0), commit("", 5, 990), commit("", 0, 1, 2, 3)} {
		for size := 1; size <= 8; size++ {
			text := []byte(n.text(size))
			for at := range size {
				list := []impl.Object{}
				for b := range 256 {
					text[at] = byte(b)
					list = append(list, impl.Object{Kind: o.Kind, Links: o.Links, Text: string(text)})
				}
				distinctIds(t, list)
			}
		}
	}
}

func TestP02OneOtherLink(t *testing.T) {
	for _, links := range [][]int{{400}, {3, 400}, {400, 980}, {3, 400, 980}, {3, 400, 405, 980}, {0, 1, 989, 990}} {
		for at := range links {
			from, to := 0, impl.Ids
			if at > 0 {
				from = links[at-1] + 1
			}
			if at+1 < len(links) {
				to = links[at+1]
			}
			trees, commits := []impl.Object{}, []impl.Object{}
			for link := from; link < to; link++ {
				other := append([]int{}, links...)
				other[at] = link
				trees = append(trees, tree(other...))
				commits = append(commits, commit("text", other...))
			}
			distinctIds(t, trees)
			distinctIds(t, commits)
		}
	}
}

func TestP03Ids(t *testing.T) {
	tests := []struct {
		o  impl.Object
		id int
	}{
		{blob(""), 100},
		{blob("a"), 32},
		{blob("\x00"), 926},
		{blob("\xff"), 190},
		{blob("abcdefgh"), 624},
		{tree(), 200},
		{tree(0), 330},
		{tree(990), 329},
		{tree(0, 1, 2, 3), 190},
		{tree(987, 988, 989, 990), 613},
		{commit("", 5), 193},
		{commit("fix", 0, 500, 990), 967},
		{commit("12345678", 1, 2, 3, 4), 339},
		{impl.Object{}, -1},
		{blob("abcdefghi"), -1},
		{tree(-1), -1},
		{tree(991), -1},
		{tree(5, 5), -1},
		{tree(0, 1, 2, 3, 4), -1},
		{commit("fix"), -1},
	}
	for _, test := range tests {
		if id := impl.ObjectId(test.o); id != test.id {
			t.Errorf("ObjectId(%#v) = %d, not %d", test.o, id, test.id)
		}
		if impl.ObjectValid(test.o) != (test.id >= 0) {
			t.Errorf("ObjectValid(%#v) = %t", test.o, !(test.id >= 0))
		}
	}
}

func TestP03IdOnlyOfValidObjects(t *testing.T) {
	n := numbers(3)
	known := []int{-1, 0, 1, 500, 989, 990, 991, 4000}
	valid := 0
	for range 20000 {
		o := impl.Object{Kind: n.below(5), Links: n.ids(known, 5), Text: n.text(n.below(10) * n.below(2))}
		id := impl.ObjectId(o)
		if (id == -1) == impl.ObjectValid(o) {
			t.Fatalf("ObjectId(%#v) = %d, ObjectValid is %t", o, id, impl.ObjectValid(o))
		}
		if id != -1 {
			valid++
			if id != digest(o) {
				t.Fatalf("ObjectId(%#v) = %d, not %d", o, id, digest(o))
			}
		}
	}
	if valid < 100 {
		t.Errorf("only %d objects were valid", valid)
	}
}

func TestP04Kinds(t *testing.T) {
	kinds := []int{math.MinInt, -3, -2, -1, 0, 1, 2, 3, 4, 5, 257, 258, 259, math.MaxInt}
	links := [][]int{nil, {}, {0}, {990}, {0, 990}, {0, 1, 990}, {0, 1, 2, 3}, {987, 988, 989, 990}}
	texts := []string{"", "a", "\x00", "1234567", "12345678"}
	for _, kind := range kinds {
		for _, list := range links {
			for _, text := range texts {
				want := kind == 1 && len(list) == 0 || kind == 2 && text == "" || kind == 3 && len(list) > 0
				o := impl.Object{Kind: kind, Links: list, Text: text}
				if impl.ObjectValid(o) != want {
					t.Errorf("ObjectValid(%#v) = %t", o, !want)
				}
			}
		}
	}
}

func TestP04WrongLinks(t *testing.T) {
	for _, links := range [][]int{
		{-1}, {991}, {math.MinInt}, {math.MaxInt}, {-1, 5}, {5, 991}, {0, 1, 2, 991},
		{5, 5}, {0, 0}, {990, 990}, {6, 5}, {0, 6, 5}, {0, 5, 5}, {5, 0, 6}, {1, 2, 4, 3}, {1, 2, 4, 4},
		{0, 1, 2, 3, 4}, {0, 1, 2, 3, 990}, {0, 1, 2, 3, 4, 5}, make([]int, 1000),
	} {
		for kind := range 5 {
			o := impl.Object{Kind: kind, Links: links}
			if impl.ObjectValid(o) || impl.ObjectId(o) != -1 {
				t.Errorf("%#v is valid", o)
			}
		}
	}
}

// The length of a text is its number of bytes, whatever they are.
func TestP04TextLimit(t *testing.T) {
	for _, text := range []string{"12345678", "\x00\x00\x00\x00\x00\x00\x00\x00", "\u00e9\u00e9\u00e9\u00e9", "\xff\xff\xff\xff\xff\xff\xff\xff", "\n/ \t\"\\'\x7f"} {
		if !impl.ObjectValid(blob(text)) || !impl.ObjectValid(commit(text, 0)) {
			t.Errorf("a text of 8 bytes, %q, is not valid", text)
		}
		if impl.ObjectValid(tree()) && impl.ObjectValid(impl.Object{Kind: 2, Text: text}) {
			t.Errorf("a tree with the text %q is valid", text)
		}
		if more := text + "x"; impl.ObjectValid(blob(more)) || impl.ObjectValid(commit(more, 0)) {
			t.Errorf("a text of 9 bytes, %q, is valid", more)
		}
	}
	for _, text := range []string{"\u00e9\u00e9\u00e9\u00e9\u00e9", "\u20ac\u20ac\u20ac", strings.Repeat("a", 100000)} {
		if impl.ObjectValid(blob(text)) || impl.ObjectId(commit(text, 0)) != -1 {
			t.Errorf("a text of %d bytes is valid", len(text))
		}
	}
}

func TestP14TreeAsCommit(t *testing.T) {
	n := numbers(14)
	for link := range impl.Ids {
		if impl.ObjectId(tree(link)) == impl.ObjectId(commit("", link)) {
			t.Fatalf("the tree and the commit with link %d have the same id", link)
		}
	}
	for range 2000 {
		links := n.ids([]int{0, n.below(991), n.below(991), n.below(991), n.below(991), 990}, 4)
		if len(links) == 0 {
			continue
		}
		a, b := impl.ObjectId(tree(links...)), impl.ObjectId(commit("", links...))
		if a == b || a == -1 || b == -1 {
			t.Fatalf("the tree with links %#v has the id %d, the commit %d", links, a, b)
		}
	}
}

func TestConstants(t *testing.T) {
	if impl.Ids != 991 || impl.MaxLinks != 4 || impl.MaxText != 8 || impl.MaxObjects != 16 {
		t.Error("a limit is not that of the table of constants")
	}
	if impl.KindBlob != 1 || impl.KindTree != 2 || impl.KindCommit != 3 {
		t.Error("a kind has another number")
	}
}
