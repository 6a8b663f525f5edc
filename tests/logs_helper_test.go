package tests

import (
	"math"
	"slices"
	"strings"
	"testing"
	"unsafe"

	"loop.example/atomicpush/impl"
)

// framed computes the frame of a record as chapter 4 tells, also of a record that is too short or too long.
func framed(record string) string {
	check := 7 + 3*len(record)
	for i := 0; i < len(record); i++ {
		check = (29*check + int(record[i]) + 1) % 251
	}
	return string([]byte{byte(len(record))}) + record + string([]byte{byte(check)})
}

// scanned computes what LogScan reads as chapter 4 tells: at each place, a frame is looked for among those of all sizes.
func scanned(bytes string) ([]string, int) {
	records, used := []string{}, 0
	for size := 1; size <= 12; size++ {
		rest := bytes[used:]
		if len(rest) >= size+2 && rest[:size+2] == framed(rest[1:size+1]) {
			records = append(records, rest[1:size+1])
			used += size + 2
			size = 0
		}
	}
	return records, used
}

// crashed computes what a failure leaves of a valid disk as chapter 4 tells.
func crashed(d impl.Disk, keep int) impl.Disk {
	left := len(d.Bytes)
	if keep < left-d.Synced {
		left = d.Synced + keep
	}
	_, used := scanned(d.Bytes[:left])
	return impl.Disk{Bytes: d.Bytes[:used], Synced: used}
}

// framesOf returns the frames of records, one after the other.
func framesOf(records ...string) string {
	bytes := ""
	for _, record := range records {
		bytes += framed(record)
	}
	return bytes
}

// begins tells whether a list begins with others.
func begins(list []string, first []string) bool {
	return len(first) <= len(list) && slices.Equal(list[:len(first)], first)
}

// record returns a record of 1 to 12 bytes.
func (n *numbers) record() string {
	return n.text(1 + n.below(12))
}

// records returns at most most records.
func (n *numbers) records(most int) []string {
	result := []string{}
	for range n.below(most + 1) {
		result = append(result, n.record())
	}
	return result
}

// log returns the bytes of a log of at most 120 bytes. Most of them are frames; some are torn, changed or no frames at all.
func (n *numbers) log() string {
	bytes := ""
	for size := n.below(121); len(bytes) < size; {
		frame := framed(n.record())
		switch n.below(16) {
		case 0:
			frame = frame[:n.below(len(frame))]
		case 1:
			at := n.below(len(frame))
			frame = frame[:at] + n.text(1) + frame[at+1:]
		case 2:
			frame = n.text(n.below(8))
		}
		bytes += frame
	}
	return bytes[:min(len(bytes), 120)]
}

// eachLog calls check with many logs: all short ones of bytes that make up a frame, and longer ones.
// It requires that enough of them have several records.
func eachLog(t *testing.T, seed int, check func(bytes string)) {
	t.Helper()
	for _, bytes := range wordsOf("\x00\x01\x02(", 7) {
		check(bytes)
	}
	n := numbers(seed)
	several := 0
	for range 5000 {
		bytes := n.log()
		if records, _ := scanned(bytes); len(records) >= 3 {
			several++
		}
		check(bytes)
	}
	if several < 1500 {
		t.Errorf("only %d logs have several records", several)
	}
}

// eachDisk calls check with many valid disks, some of which end within a frame, or have synchronized bytes that do.
func eachDisk(t *testing.T, seed int, check func(d impl.Disk)) {
	t.Helper()
	n := numbers(seed + 1000)
	eachLog(t, seed, func(bytes string) {
		check(impl.Disk{Bytes: bytes, Synced: n.below(len(bytes) + 1)})
	})
}

// keepsOf returns all numbers of bytes that a failure of a disk may keep in different ways, and greater ones.
func keepsOf(d impl.Disk) []int {
	keeps := []int{math.MaxInt, math.MaxInt - 1, math.MaxInt - d.Synced, 1 << 32, 121, 120}
	for keep := len(d.Bytes) - d.Synced + 1; keep >= 0; keep-- {
		keeps = append(keeps, keep)
	}
	return keeps
}

// brokenDisks returns disks that are invalid, each for another reason.
func brokenDisks() map[string]impl.Disk {
	frames := framesOf("ab", "cde")
	return map[string]impl.Disk{
		"121 bytes":                         {Bytes: strings.Repeat("x", 121)},
		"121 bytes that survive":            {Bytes: strings.Repeat("x", 121), Synced: 121},
		"121 bytes of which 120 survive":    {Bytes: strings.Repeat("\x00", 121), Synced: 120},
		"41 frames":                         {Bytes: strings.Repeat(framed("a"), 41), Synced: 3},
		"many bytes":                        {Bytes: strings.Repeat(framed("a"), 10000)},
		"Synced -1":                         {Bytes: frames, Synced: -1},
		"Synced -1 without bytes":           {Synced: -1},
		"Synced below 0 by all bytes":       {Bytes: frames, Synced: -len(frames)},
		"the least Synced":                  {Bytes: frames, Synced: math.MinInt},
		"Synced above the number of bytes":  {Bytes: frames, Synced: len(frames) + 1},
		"Synced 1 without bytes":            {Synced: 1},
		"Synced 120 of fewer bytes":         {Bytes: frames, Synced: 120},
		"Synced 121 of 120 bytes":           {Bytes: strings.Repeat("x", 120), Synced: 121},
		"the greatest Synced":               {Bytes: frames, Synced: math.MaxInt},
		"the greatest Synced of 121 bytes":  {Bytes: strings.Repeat("x", 121), Synced: math.MaxInt},
		"the least Synced without bytes":    {Synced: math.MinInt},
		"the greatest Synced without bytes": {Synced: math.MaxInt},
	}
}

// lent is a text whose memory can be changed, which shows whether another text shares it.
type lent struct {
	memory []byte
	text   string
}

func lend(text string) lent {
	memory := append(make([]byte, 0, len(text)+1), text...)
	return lent{memory, unsafe.String(unsafe.SliceData(memory), len(memory))}
}

// spoil changes all bytes.
func (l lent) spoil() {
	for i := range l.memory {
		l.memory[i] ^= 0xff
	}
}

// checkLent fails if a function changes the text that it is given, or if what it answers changes with that text.
func checkLent(t *testing.T, name string, text string, answer func(text string) []string) {
	t.Helper()
	one := lend(text)
	got := answer(one.text)
	if string(one.memory) != text {
		t.Errorf("%s modified %q", name, text)
	}
	kept := []string{}
	for _, s := range got {
		kept = append(kept, strings.Clone(s))
	}
	one.spoil()
	if !slices.Equal(got, kept) {
		t.Errorf("%s of %q: the result %q shares its memory", name, text, kept)
	}
}
