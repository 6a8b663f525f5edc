package tests

import (
	"slices"
	"strings"
	"testing"

	"loop.example/atomicpush/impl"
)

func TestP43UsedBytes(t *testing.T) {
	eachLog(t, 43, func(bytes string) {
		records, used := impl.LogScan(bytes)
		frames := ""
		for _, record := range records {
			frames += impl.LogFrame(record)
		}
		if used < 0 || used > len(bytes) || frames != bytes[:used] {
			t.Fatalf("LogScan(%q) = %q, %d, whose frames are %q", bytes, records, used, frames)
		}
	})
}

// Nothing is left out: the records are all those of the chapter.
func TestP43AllRecords(t *testing.T) {
	eachLog(t, 143, func(bytes string) {
		records, used := scanned(bytes)
		checkScan(t, "a log", bytes, records, used)
	})
}

func TestP43Logs(t *testing.T) {
	for _, test := range []struct {
		name    string
		bytes   string
		records []string
		used    int
	}{
		{"no bytes", "", nil, 0},
		{"the byte 0", "\x00", nil, 0},
		{"bytes 0", strings.Repeat("\x00", 120), nil, 0},
		{"a length only", "\x01", nil, 0},
		{"the greatest length only", "\x0c", nil, 0},
		{"a length beyond the greatest", "\x0d" + strings.Repeat("a", 14), nil, 0},
		{"one frame", "\x02abE", []string{"ab"}, 4},
		{"two frames", "\x02abE\x03cde\xcc", []string{"ab", "cde"}, 9},
		{"one frame twice", "\x02abE\x02abE", []string{"ab", "ab"}, 8},
		{"a frame and the byte 0", "\x02abE\x00", []string{"ab"}, 4},
		{"the byte 0 and a frame", "\x00\x02abE", nil, 0},
		{"a byte 0 between frames", "\x02abE\x00\x03cde\xcc", []string{"ab"}, 4},
		{"a frame of the empty record between frames", "\x02abE\x00\x07\x03cde\xcc", []string{"ab"}, 4},
		{"a frame with the check of another one", "\x02baE", nil, 0},
		{"a record that has bytes of a frame", framed("\x01a\x89"), []string{"\x01a\x89"}, 5},
	} {
		checkScan(t, test.name, test.bytes, test.records, test.used)
	}
}

// A text may have more bytes than a disk: LogScan has no limit of its own.
func TestP43LongLogs(t *testing.T) {
	records := slices.Repeat([]string{"a", "123456789012", "\x00\xff"}, 10000)
	bytes := strings.Repeat(framesOf("a", "123456789012", "\x00\xff"), 10000)
	checkScan(t, "30000 frames", bytes, records, 210000)
	checkScan(t, "30000 frames and a torn one", bytes+"\x02ab", records, 210000)
	checkScan(t, "41 frames", strings.Repeat("\x01a\x89", 41), slices.Repeat([]string{"a"}, 41), 123)
}

func TestP44FurtherFrame(t *testing.T) {
	n := numbers(44)
	for range 3000 {
		records, further := n.records(12), n.record()
		bytes := framesOf(records...)
		checkScan(t, "frames", bytes, records, len(bytes))
		bytes += impl.LogFrame(further)
		checkScan(t, "frames and a further one", bytes, append(records, further), len(bytes))
	}
}

func TestP45UsedBytesAgain(t *testing.T) {
	eachLog(t, 45, func(bytes string) {
		records, used := impl.LogScan(bytes)
		checkScan(t, "the bytes that are used", bytes[:used], records, used)
	})
}

func TestP53FirstBytes(t *testing.T) {
	eachLog(t, 53, func(bytes string) {
		all, used := impl.LogScan(bytes)
		many := 0
		for size := range len(bytes) + 1 {
			first, n := impl.LogScan(bytes[:size])
			if !begins(all, first) || n > used || n > size || len(first) < many {
				t.Fatalf("LogScan(%q) = %q, %d, but of %d bytes %q, %d", bytes, all, used, size, first, n)
			}
			many = len(first)
		}
	})
}

func TestMemoryOfLogScan(t *testing.T) {
	for _, bytes := range []string{
		"", framed("a"), framed("ab"), framesOf("ab", "cde", "ab"), framesOf("a", "b", "123456789012") + "\x02a",
		strings.Repeat(framed("a"), 40), "\x02baE", "\x00", strings.Repeat("x", 200),
	} {
		checkLent(t, "LogScan", bytes, func(text string) []string {
			records, _ := impl.LogScan(text)
			return records
		})
		one, _ := impl.LogScan(bytes)
		two, _ := impl.LogScan(bytes)
		checkApart(t, "LogScan", nil, []any{one, two})
		checkTextsApart(t, "LogScan", []string{bytes}, slices.Concat(one, two))
	}
}
