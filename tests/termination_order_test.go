package tests

import (
	"runtime"
	"sync"
	"testing"
	"testing/synctest"

	"loop.example/atomicpush/impl"
)

// termCase is arguments of TermShards, and what it gives for them.
type termCase struct {
	list     []impl.Shard
	txn      int
	want     []impl.Shard
	decision int
}

// termCases returns cases in which goroutines have different amounts of work: some shards have no records, some as many as there can be.
func termCases() []termCase {
	result := []termCase{}
	add := func(txn int, list ...impl.Shard) {
		want, decision, _ := terminated(list, txn)
		result = append(result, termCase{list, txn, want, decision})
	}
	for _, states := range termLists(3, 0, 1, 2, 3) {
		add(5, shardsOf(states...)...)
	}
	long, open := longShard(12), shard(prepareOf(0, updatesOf(1)...))
	for _, order := range allOrders([]int{0, 1, 2}) {
		committed := [3]impl.Shard{long, open, open}
		contrary := [3]impl.Shard{long, open, {}}
		aborted := [3]impl.Shard{longShard(11), {}, shard(prepareOf(11, updatesOf(1)...))}
		add(0, committed[order[0]], committed[order[1]], committed[order[2]])
		add(0, contrary[order[0]], contrary[order[1]], contrary[order[2]])
		add(11, aborted[order[0]], aborted[order[1]], aborted[order[2]])
	}
	return result
}

// roomyCase returns the case with arguments in memory of their own.
func roomyCase(c termCase) termCase {
	return termCase{roomyShards(c.list), c.txn, c.want, c.decision}
}

// With one processor, goroutines mostly run one after the other, and the last one first; with several, in any order.
func TestP131TermShardsEachSchedule(t *testing.T) {
	defer runtime.GOMAXPROCS(runtime.GOMAXPROCS(0))
	cases := termCases()
	for _, processors := range []int{1, 2, 3, 8} {
		runtime.GOMAXPROCS(processors)
		for range 40 {
			for _, c := range cases {
				checkTermShards(t, "the same again", c.list, c.txn, c.want, c.decision)
			}
		}
	}
}

// Several calls at once, all with the same arguments, which none of them changes.
func TestP131TermShardsAtOnce(t *testing.T) {
	for _, c := range termCases() {
		c = roomyCase(c)
		var group sync.WaitGroup
		for range 8 {
			group.Go(func() {
				for range 5 {
					if got, decision := impl.TermShards(c.list, c.txn); !sameShards(got, c.want) || decision != c.decision {
						t.Errorf("TermShards(%s, %d) = %s, %d", shown(c.list), c.txn, shown(got), decision)
					}
				}
			})
		}
		group.Wait()
	}
}

// What a call was given and what it answered is overwritten as soon as it returns: go test -race reports a goroutine that still reads or writes it.
func TestMemoryOfTermShardsAfterwards(t *testing.T) {
	for range 40 {
		for _, c := range termCases() {
			list := roomyShards(c.list)
			got, decision := impl.TermShards(list, c.txn)
			spoilShards(list)
			if !sameShards(got, c.want) || decision != c.decision {
				t.Fatalf("TermShards(%s, %d) = %s, %d", shown(c.list), c.txn, shown(got), decision)
			}
			spoilShards(got)
		}
	}
}

// A bubble of synctest ends only when all of its goroutines do, and panics if one never does.
func TestMemoryOfTermShardsEnd(t *testing.T) {
	for _, c := range termCases() {
		synctest.Test(t, func(t *testing.T) {
			list := roomyShards(c.list)
			got, _ := impl.TermShards(list, c.txn)
			given, answered := wholeShards(list), wholeShards(got)
			synctest.Wait()
			if wholeShards(list) != given || wholeShards(got) != answered {
				t.Errorf("TermShards(%s, %d) goes on after it has returned", shown(c.list), c.txn)
			}
		})
	}
}
