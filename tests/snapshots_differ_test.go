package tests

import (
	"fmt"
	"slices"
	"testing"

	"loop.example/atomicpush/impl"
)

func TestP141Differ(t *testing.T) {
	for _, test := range []struct {
		name string
		a    int
		b    int
		want []int
	}{
		{"the first transaction", 0, 1, []int{0, 1}},
		{"the second one", 1, 2, []int{0}},
		{"the last one", 2, 3, []int{0, 2}},
		{"the first and the last one", 0, 3, []int{0, 1, 2}},
		{"the first two", 0, 2, []int{0, 1}},
		{"the last two", 1, 3, []int{0, 2}},
		{"equal numbers, none", 0, 0, nil},
		{"equal numbers, one", 1, 1, nil},
		{"equal numbers, all", 3, 3, nil},
	} {
		checkSnapshotDiffer(t, test.name, touching(), test.a, test.b, test.want)
	}
}

// returning returns a coordinator of transactions that set refs and set them back, at shard 1 also to no id.
func returning() impl.Coordinator {
	return coordinator(
		txnOf(2, []int{1, 1}, partFor(0, update(2, -1, 5)), partFor(1, update(0, -1, 7))),
		txnOf(2, []int{1, 1}, partFor(0, update(2, 5, 6)), partFor(1, update(0, 7, -1))),
		txnOf(2, []int{1, 1}, partFor(0, update(2, 6, 5)), partFor(2, update(3, -1, 8))),
		txnOf(2, []int{1}, partFor(0, update(2, 5, -1))),
		txnOf(2, []int{1, 1, 1}, partFor(0, update(0, 3, -1)), partFor(1, update(1, 0, -1)), partFor(2, update(3, 4, 8))),
		txnOf(2, []int{1}, partFor(2, update(2, -1, 8), update(3, 8, -1))),
	)
}

func TestP141SetBack(t *testing.T) {
	for a, row := range [][][]int{
		{{}, {0, 1}, {0}, {0, 2}, {2}, {2}, {2}},
		{{0, 1}, {}, {0, 1}, {1, 2}, {0, 1, 2}, {0, 1, 2}, {0, 1, 2}},
		{{0}, {0, 1}, {}, {0, 2}, {0, 2}, {0, 2}, {0, 2}},
		{{0, 2}, {1, 2}, {0, 2}, {}, {0}, {0}, {0, 2}},
		{{2}, {0, 1, 2}, {0, 2}, {0}, {}, {}, {2}},
		{{2}, {0, 1, 2}, {0, 2}, {0}, {}, {}, {2}},
		{{2}, {0, 1, 2}, {0, 2}, {0, 2}, {2}, {2}, {}},
	} {
		for b, want := range row {
			checkSnapshotDiffer(t, fmt.Sprintf("after %d and %d", a, b), returning(), a, b, want)
		}
	}
}

// One ref of one shard, and each kind of id.
func TestP141EachUpdate(t *testing.T) {
	for k := range 3 {
		for ref := range 4 {
			for _, one := range []int{-1, 0, 500, 990} {
				for _, two := range []int{-1, 0, 500, 990} {
					first := []impl.Update{update(ref, 7, one), update(3, 7, 42)}
					second := []impl.Update{update(ref, 9, two), update(3, 9, 42)}
					if ref == 3 {
						first, second = first[:1], second[:1]
					}
					c := coordinator(txnOf(2, []int{1}, partFor(k, first...)), txnOf(2, []int{1}, partFor(k, second...)))
					for a := range 3 {
						for b := range 3 {
							checkSnapshotDiffer(t, "one ref", c, a, b, differingShards(c, a, b))
						}
					}
					want := []int{}
					if one != two {
						want = []int{k}
					}
					checkSnapshotDiffer(t, "one ref", c, 1, 2, want)
				}
			}
		}
	}
}

// Transactions of each list of shards that there can be. No id is set twice.
func TestP141EachShardSet(t *testing.T) {
	c := eachShardSet()
	for a := range 8 {
		for b := a; b < 8; b++ {
			want := []int{}
			for k := range 3 {
				if slices.ContainsFunc(c.Order[a:b], func(txn int) bool { return placeOf(c.Txns[txn], k) != -1 }) {
					want = append(want, k)
				}
			}
			checkSnapshotDiffer(t, "transactions between", c, a, b, want)
		}
	}
}

func TestP141SomeCoordinators(t *testing.T) {
	for name, c := range someCoordinators() {
		for a := range len(c.Order) + 1 {
			for b := range len(c.Order) + 1 {
				checkSnapshotDiffer(t, name, c, a, b, differingShards(c, a, b))
			}
			checkSnapshotDiffer(t, name+", equal numbers", c, a, a, nil)
		}
	}
	checkSnapshotDiffer(t, "no transactions", impl.Coordinator{}, 0, 0, nil)
	checkSnapshotDiffer(t, "all at all shards", allCommitted(12, 0, 1, 2), 0, 12, []int{0, 1, 2})
	checkSnapshotDiffer(t, "all at one shard", allCommitted(12, 2), 12, 0, []int{2})
}

func TestP141EachCoordinator(t *testing.T) {
	n, counts := numbers(241), [4]int{}
	for i := range 1500 {
		c := n.committer(i % 13)
		a, b := n.below(len(c.Order)+1), n.below(len(c.Order)+1)
		want := []int{}
		for k := range 3 {
			if !slices.Equal(impl.CoordinatorRefs(c, k, a), impl.CoordinatorRefs(c, k, b)) {
				want = append(want, k)
			}
		}
		counts[len(want)]++
		checkSnapshotDiffer(t, "two numbers", c, a, b, want)
		checkSnapshotDiffer(t, "equal numbers", c, a, a, nil)
	}
	for many, count := range counts {
		if count < 30 {
			t.Errorf("in only %d cases, %d shards differ", count, many)
		}
	}
}

func TestP144Consecutive(t *testing.T) {
	n, fewer := numbers(144), 0
	for i := range 1000 {
		c := n.committer(i % 13)
		for many, txn := range c.Order {
			got := impl.SnapshotDiffer(c, many, many+1)
			for _, k := range got {
				if placeOf(c.Txns[txn], k) == -1 {
					t.Fatalf("SnapshotDiffer(%s, %d, %d) = %v", shown(c), many, many+1, got)
				}
			}
			if len(got) < len(c.Txns[txn].Parts) {
				fewer++
			}
			checkSnapshotDiffer(t, "consecutive", c, many, many+1, differingShards(c, many, many+1))
		}
	}
	if fewer < 30 {
		t.Errorf("only %d transactions have parts that change nothing", fewer)
	}
}

// The snapshots themselves differ at these shards, if the shards have recorded the parts.
func TestP144Snapshots(t *testing.T) {
	eachStep(t, 244, 20, func(s site) {
		ready := impl.SnapshotReady(s.c, s.list)
		for a := range ready + 1 {
			for b := range ready + 1 {
				one, two, want := snapshot(t, s, a), snapshot(t, s, b), []int{}
				for k := range 3 {
					if !slices.Equal(one[k], two[k]) {
						want = append(want, k)
					}
				}
				checkSnapshotDiffer(t, "a run", s.c, a, b, want)
			}
		}
	})
}

func TestP141WrongNumbers(t *testing.T) {
	for name, c := range someCoordinators() {
		all := len(c.Order)
		for _, wrong := range outside(all) {
			for right := range all + 1 {
				checkSnapshotDiffer(t, fmt.Sprintf("%s after %d", name, wrong), c, wrong, right, nil)
			}
			for _, other := range outside(all) {
				checkSnapshotDiffer(t, fmt.Sprintf("%s after %d and %d", name, wrong, other), c, wrong, other, nil)
			}
		}
		// The others that are not committed do not count.
		for many := all + 1; many <= len(c.Txns); many++ {
			checkSnapshotDiffer(t, name+", more than are committed", c, 0, many, nil)
			checkSnapshotDiffer(t, name+", more than are committed", c, all, many, nil)
		}
	}
}

func TestP141InvalidCoordinators(t *testing.T) {
	for name, c := range brokenCoordinators() {
		for _, a := range []int{-1, 0, 1, 3, 13} {
			for _, b := range []int{0, 1, 2, len(c.Order), len(c.Order) + 1} {
				checkSnapshotDiffer(t, name, c, a, b, nil)
			}
		}
	}
}

func TestMemoryOfSnapshotDiffer(t *testing.T) {
	some := memoryCoordinators()
	some["refs that are set back"] = returning()
	for name, original := range some {
		for _, a := range []int{-1, 0, 1, 2, 3} {
			for _, b := range []int{-1, 0, 1, 2, 12} {
				c := roomyCoordinator(original)
				before := wholeCoordinator(c)
				one, two := impl.SnapshotDiffer(c, a, b), impl.SnapshotDiffer(c, a, b)
				checkApart(t, name, []any{c}, []any{one, two})
				if after := wholeCoordinator(c); after != before {
					t.Fatalf("%s: SnapshotDiffer modified %s to %s", name, before, after)
				}
			}
		}
	}
}
