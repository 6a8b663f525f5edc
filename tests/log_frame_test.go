package tests

import (
	"slices"
	"strings"
	"testing"

	"loop.example/atomicpush/impl"
)

// checkScan fails if LogScan does not read the given records, or uses another number of bytes.
func checkScan(t *testing.T, name string, bytes string, records []string, used int) {
	t.Helper()
	if got, n := impl.LogScan(bytes); !slices.Equal(got, records) || n != used {
		t.Errorf("%s: LogScan(%q) = %q, %d, not %q, %d", name, bytes, got, n, records, used)
	}
}

// eachRecord calls check with many records of 1 to 12 bytes, and with all of one byte.
func eachRecord(seed int, check func(record string)) {
	for b := range 256 {
		check(string([]byte{byte(b)}))
	}
	for size := 1; size <= 12; size++ {
		for _, b := range []byte{0, 1, byte(size), 12, 13, 'a', 127, 128, 250, 251, 255} {
			check(strings.Repeat(string([]byte{b}), size))
		}
	}
	n := numbers(seed)
	for range 2000 {
		check(n.record())
	}
}

func TestP40Frames(t *testing.T) {
	for _, test := range []struct {
		name   string
		record string
		frame  string
	}{
		{"one byte", "a", "\x01a\x89"},
		{"another byte", "b", "\x01b\x8a"},
		{"the least byte", "\x00", "\x01\x00("},
		{"the greatest byte", "\xff", "\x01\xff,"},
		{"two bytes", "ab", "\x02abE"},
		{"two bytes in the other order", "ba", "\x02baa"},
		{"three bytes", "cde", "\x03cde\xcc"},
		{"a rune of two bytes", "\u00e9", "\x02\xc3\xa9\xdd"},
		{"12 bytes", "123456789012", "\x0c123456789012\xcb"},
		{"12 least bytes", strings.Repeat("\x00", 12), "\x0c" + strings.Repeat("\x00", 12) + "\x1d"},
		{"12 greatest bytes", strings.Repeat("\xff", 12), "\x0c" + strings.Repeat("\xff", 12) + "\x00"},
	} {
		if got := impl.LogFrame(test.record); got != test.frame {
			t.Errorf("%s: LogFrame(%q) = %q, not %q", test.name, test.record, got, test.frame)
		}
		checkScan(t, test.name, test.frame, []string{test.record}, len(test.frame))
	}
}

func TestP40FrameThenScan(t *testing.T) {
	eachRecord(40, func(record string) {
		frame := impl.LogFrame(record)
		if frame != framed(record) || len(frame) != len(record)+2 {
			t.Errorf("LogFrame(%q) = %q, not %q", record, frame, framed(record))
		}
		checkScan(t, "a frame", frame, []string{record}, len(record)+2)
	})
}

// eachByte calls check with a text for each other value of its byte at the given place, and tells this value.
func eachByte(text string, at int, check func(changed string, b int)) {
	for b := range 256 {
		if b != int(text[at]) {
			check(text[:at]+string([]byte{byte(b)})+text[at+1:], b)
		}
	}
}

// sameForCheck tells whether the check of chapter 4, a remainder modulo 251, is the same for one byte and for another one in its place.
func sameForCheck(a int, b int) bool {
	return a%251 == b%251
}

func TestP41ByteOfRecord(t *testing.T) {
	n := numbers(41)
	for size := 1; size <= 12; size++ {
		for _, record := range []string{n.text(size), n.text(size), strings.Repeat("\x00", size), strings.Repeat("a", size), strings.Repeat("\xff", size)} {
			frame := impl.LogFrame(record)
			for at := 1; at <= size; at++ {
				eachByte(frame, at, func(changed string, b int) {
					if !sameForCheck(int(frame[at]), b) {
						checkScan(t, "a record that is changed", changed, nil, 0)
					}
				})
			}
		}
	}
}

// The check of the chapter takes the bytes 0 to 4 and 251 to 255 for the same, so that such a change is not found: what decides is the check.
func TestP41BytesThatTheCheckTakesForTheSame(t *testing.T) {
	for size := 1; size <= 12; size++ {
		for low := range 5 {
			for at := range size {
				around := strings.Repeat("m", size)
				a := around[:at] + string([]byte{byte(low)}) + around[at+1:]
				b := around[:at] + string([]byte{byte(low + 251)}) + around[at+1:]
				frame := impl.LogFrame(a)
				checkScan(t, "a greater byte", frame[:1]+b+frame[size+1:], []string{b}, size+2)
				frame = impl.LogFrame(b)
				checkScan(t, "a smaller byte", frame[:1]+a+frame[size+1:], []string{a}, size+2)
			}
		}
	}
}

func TestP41Check(t *testing.T) {
	eachRecord(141, func(record string) {
		frame := impl.LogFrame(record)
		eachByte(frame, len(record)+1, func(changed string, b int) {
			checkScan(t, "a check that is changed", changed, nil, 0)
		})
	})
	// A check is less than 251: the same remainder is not enough.
	for size := 1; size <= 12; size++ {
		for b := range 256 {
			frame := framed(strings.Repeat("a", size-1) + string([]byte{byte(b)}))
			if check := frame[size+1]; check < 5 {
				checkScan(t, "a check that is too great", frame[:size+1]+string([]byte{check + 251}), nil, 0)
			}
		}
	}
}

func TestP41Length(t *testing.T) {
	eachRecord(241, func(record string) {
		eachByte(impl.LogFrame(record), 0, func(changed string, b int) {
			records, used := scanned(changed)
			if b == 0 || b > len(record) {
				records, used = nil, 0
			}
			checkScan(t, "a length that is changed", changed, records, used)
		})
	})
	// What a smaller length makes of a frame may be right by itself.
	checkScan(t, "a record with a frame in it", impl.LogFrame("a\x89"), []string{"a\x89"}, 4)
	checkScan(t, "the length of the frame in it", "\x01"+impl.LogFrame("a\x89")[1:], []string{"a"}, 3)
}

// Frames ahead of one that is changed are read, and frames behind it are not.
func TestP41AmongOthers(t *testing.T) {
	first, middle, last := framed("ab"), framed("a record"), framed("z")
	all := first + middle + last
	checkScan(t, "no change", all, []string{"ab", "a record", "z"}, len(all))
	for at := range all {
		eachByte(all, at, func(changed string, b int) {
			records, used := scanned(changed)
			checkScan(t, "a byte that is changed", changed, records, used)
			if at >= 1 && at <= 3 && len(records) != 0 {
				t.Errorf("the first frame of %q is right", changed)
			}
			if at > len(first) && at < len(first+middle) && (len(records) != 1 || used != len(first)) {
				t.Errorf("the second frame of %q is right", changed)
			}
		})
	}
}

func TestP42Torn(t *testing.T) {
	eachRecord(42, func(record string) {
		frame := impl.LogFrame(record)
		for size := range len(frame) {
			checkScan(t, "a torn frame", frame[:size], nil, 0)
			checkScan(t, "a torn frame behind another one", framed("ab")+frame[:size], []string{"ab"}, 4)
			checkScan(t, "a torn frame behind itself", frame+frame[:size], []string{record}, len(frame))
		}
	})
}

// A frame that is torn ahead of others takes its missing bytes from them, which do not have its check here.
func TestP42TornAheadOfOthers(t *testing.T) {
	frame := framed("a record")
	for size := 1; size < len(frame); size++ {
		for _, behind := range []string{framed("b"), framed("cde"), framesOf("b", "cde", "123456789012"), frame} {
			checkScan(t, "a torn frame ahead of others", frame[:size]+behind, nil, 0)
		}
	}
}

func TestP52NoFrame(t *testing.T) {
	if got := impl.LogFrame(""); got != "" {
		t.Errorf("LogFrame of the empty record is %q", got)
	}
	for _, size := range []int{13, 14, 15, 120, 121, 251, 255, 256, 257, 258, 267, 268, 269, 512, 513, 65537, 100000} {
		for _, letter := range []string{"a", "\x00", "\xff"} {
			if got := impl.LogFrame(strings.Repeat(letter, size)); got != "" {
				t.Errorf("LogFrame of %d bytes is %q", size, got)
			}
		}
	}
	if got := impl.LogFrame("\u20ac\u20ac\u20ac\u20ac"); got != framed("\u20ac\u20ac\u20ac\u20ac") {
		t.Errorf("LogFrame of 4 runes of 12 bytes is %q", got)
	}
	if got := impl.LogFrame("\u20ac\u20ac\u20ac\u20ac."); got != "" {
		t.Errorf("LogFrame of 5 runes of 13 bytes is %q", got)
	}
}

// A frame whose length no record may have is not right, also with the check that would belong to it.
func TestP52NoRecord(t *testing.T) {
	for size := range 256 {
		if size >= 1 && size <= 12 {
			continue
		}
		frame := framed(strings.Repeat("a", size))
		checkScan(t, "a frame of a wrong length", frame, nil, 0)
		checkScan(t, "a frame of a wrong length in between", framed("ab")+frame+framed("cde"), []string{"ab"}, 4)
	}
}

func TestMaxRecord(t *testing.T) {
	if impl.MaxRecord != 12 || impl.MaxBytes != 120 {
		t.Error("the limits are not those of the table of constants")
	}
}

func TestMemoryOfLogFrame(t *testing.T) {
	for size := range 15 {
		record := strings.Repeat("r", size)
		checkLent(t, "LogFrame", record, func(text string) []string {
			return []string{impl.LogFrame(text)}
		})
		checkTextsApart(t, "LogFrame", []string{record}, []string{impl.LogFrame(record), impl.LogFrame(record)})
	}
}
