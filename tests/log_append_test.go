package tests

import (
	"math"
	"strings"
	"testing"

	"loop.example/atomicpush/impl"
)

// checkAppend fails if LogAppend does not give the disk.
func checkAppend(t *testing.T, name string, d impl.Disk, record string, want impl.Disk, ok bool) {
	t.Helper()
	if got, done := impl.LogAppend(d, record); got != want || done != ok {
		t.Errorf("%s: LogAppend(%#v, %q) = %#v, %t, not %#v, %t", name, d, record, got, done, want, ok)
	}
}

// wrongRecords returns records that are too short or too long.
func wrongRecords() []string {
	result := []string{""}
	for _, size := range []int{13, 14, 118, 119, 120, 121, 256, 257, 268, 100000} {
		result = append(result, strings.Repeat("r", size))
	}
	return append(result, framed("12345678901"), framed("123456789012"))
}

func TestP46DiskValid(t *testing.T) {
	for size := range 124 {
		bytes := strings.Repeat("x", size)
		for synced := -2; synced < 126; synced++ {
			want := size <= 120 && synced >= 0 && synced <= size
			if got := impl.DiskValid(impl.Disk{Bytes: bytes, Synced: synced}); got != want {
				t.Errorf("DiskValid of %d bytes, %d of which survive, is %t", size, synced, got)
			}
		}
	}
	for name, d := range brokenDisks() {
		if impl.DiskValid(d) {
			t.Errorf("a disk with %s is valid", name)
		}
	}
	eachDisk(t, 46, func(d impl.Disk) {
		if !impl.DiskValid(d) {
			t.Fatalf("DiskValid(%#v) = false", d)
		}
	})
}

func TestP46Append(t *testing.T) {
	for _, test := range []struct {
		name   string
		d      impl.Disk
		record string
		want   impl.Disk
	}{
		{"the first record", impl.Disk{}, "ab", impl.Disk{Bytes: "\x02abE"}},
		{"a second record", impl.Disk{Bytes: "\x02abE"}, "cde", impl.Disk{Bytes: "\x02abE\x03cde\xcc"}},
		{"behind what survives", impl.Disk{Bytes: "\x02abE", Synced: 4}, "cde", impl.Disk{Bytes: "\x02abE\x03cde\xcc", Synced: 4}},
		{"Synced within a frame", impl.Disk{Bytes: "\x02abE", Synced: 3}, "a", impl.Disk{Bytes: "\x02abE\x01a\x89", Synced: 3}},
		{"the same record", impl.Disk{Bytes: "\x01a\x89", Synced: 1}, "a", impl.Disk{Bytes: "\x01a\x89\x01a\x89", Synced: 1}},
		{"behind a torn frame", impl.Disk{Bytes: "\x02ab"}, "a", impl.Disk{Bytes: "\x02ab\x01a\x89"}},
		{"behind what is no frame", impl.Disk{Bytes: "\x00\xff", Synced: 2}, "a", impl.Disk{Bytes: "\x00\xff\x01a\x89", Synced: 2}},
		{"bytes that are no text", impl.Disk{}, "\xff", impl.Disk{Bytes: "\x01\xff,"}},
		{"the longest record", impl.Disk{}, "123456789012", impl.Disk{Bytes: "\x0c123456789012\xcb"}},
	} {
		checkAppend(t, test.name, test.d, test.record, test.want, true)
	}
}

func TestP46AppendThenScan(t *testing.T) {
	n := numbers(146)
	for range 500 {
		d := impl.Disk{}
		records := []string{}
		for {
			record := n.record()
			after, ok := impl.LogAppend(d, record)
			if !ok {
				break
			}
			if after.Bytes != d.Bytes+impl.LogFrame(record) || after.Synced != d.Synced || !impl.DiskValid(after) {
				t.Fatalf("LogAppend(%#v, %q) = %#v", d, record, after)
			}
			records = append(records, record)
			d = after
			checkScan(t, "records that are appended", d.Bytes, records, len(d.Bytes))
			if n.below(3) == 0 {
				d.Synced = n.below(len(d.Bytes) + 1)
			}
		}
		if len(d.Bytes)+14 <= 120 {
			t.Fatalf("LogAppend failed for %#v", d)
		}
	}
}

// Each number of bytes that are there meets each number of bytes of a record; the bytes need not be frames.
func TestP47Space(t *testing.T) {
	n := numbers(47)
	for there := range 121 {
		for size := 1; size <= 12; size++ {
			d := impl.Disk{Bytes: n.text(there), Synced: n.below(there + 1)}
			record := n.text(size)
			if there+size+2 > 120 {
				checkAppend(t, "no space", d, record, d, false)
			} else {
				checkAppend(t, "space", d, record, impl.Disk{Bytes: d.Bytes + framed(record), Synced: d.Synced}, true)
			}
		}
	}
}

// A log is filled to its last byte by frames of several sizes.
func TestP47FullLog(t *testing.T) {
	for _, sizes := range [][]int{{1}, {2}, {3}, {4}, {6}, {8}, {10}, {12, 12, 12, 12, 12, 12, 12, 12, 6}, {12, 1, 11, 8, 2, 4, 12, 9, 12, 12, 12, 1}} {
		d := impl.Disk{}
		for i := 0; len(d.Bytes) < 120; i++ {
			after, ok := impl.LogAppend(d, strings.Repeat("r", sizes[i%len(sizes)]))
			if !ok {
				t.Fatalf("LogAppend of %d bytes behind %d failed", sizes[i%len(sizes)], len(d.Bytes))
			}
			d = after
		}
		if len(d.Bytes) != 120 || !impl.DiskValid(d) {
			t.Fatalf("records of %v bytes make %d bytes", sizes, len(d.Bytes))
		}
		for _, synced := range []int{0, 1, 119, 120} {
			d.Synced = synced
			for size := 1; size <= 12; size++ {
				checkAppend(t, "a full log", d, strings.Repeat("r", size), d, false)
			}
		}
	}
}

func TestP47WrongRecords(t *testing.T) {
	disks := []impl.Disk{{}, {Bytes: framed("ab"), Synced: 4}, {Bytes: "\x02a", Synced: 1}, {Bytes: strings.Repeat("x", 119)}, {Bytes: strings.Repeat("x", 120), Synced: 120}}
	for _, record := range wrongRecords() {
		for _, d := range disks {
			// Also where there is no space, the answer is that of an invalid argument.
			checkAppend(t, "a record of a wrong size", d, record, impl.Disk{}, false)
		}
	}
}

func TestP47InvalidDisks(t *testing.T) {
	for name, d := range brokenDisks() {
		for _, record := range append(wrongRecords(), "a", "ab", "123456789012") {
			checkAppend(t, name, d, record, impl.Disk{}, false)
		}
	}
}

func TestMemoryOfLogAppend(t *testing.T) {
	for _, bytes := range []string{"", "x", framed("ab"), "\x02a", strings.Repeat("x", 106), strings.Repeat("x", 119), strings.Repeat("x", 120), strings.Repeat("x", 121)} {
		for _, record := range []string{"", "a", "ab", "123456789012", "1234567890123"} {
			for _, synced := range []int{0, 1, len(bytes), math.MaxInt} {
				checkLent(t, "LogAppend", bytes, func(text string) []string {
					d, _ := impl.LogAppend(impl.Disk{Bytes: text, Synced: synced}, record)
					return []string{d.Bytes}
				})
				checkLent(t, "LogAppend", record, func(text string) []string {
					d, _ := impl.LogAppend(impl.Disk{Bytes: bytes, Synced: synced}, text)
					return []string{d.Bytes}
				})
				d := impl.Disk{Bytes: bytes, Synced: synced}
				one, _ := impl.LogAppend(d, record)
				two, _ := impl.LogAppend(d, record)
				checkTextsApart(t, "LogAppend", []string{bytes, record}, []string{one.Bytes, two.Bytes})
			}
		}
	}
}
