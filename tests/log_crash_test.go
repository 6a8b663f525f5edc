package tests

import (
	"math"
	"slices"
	"strings"
	"testing"

	"loop.example/atomicpush/impl"
)

// checkCrash fails if LogCrash does not give the disk.
func checkCrash(t *testing.T, name string, d impl.Disk, keep int, want impl.Disk) {
	t.Helper()
	if got := impl.LogCrash(d, keep); got != want {
		t.Errorf("%s: LogCrash(%#v, %d) = %#v, not %#v", name, d, keep, got, want)
	}
}

// recordsOf returns the records that LogScan reads from a disk.
func recordsOf(d impl.Disk) []string {
	records, _ := impl.LogScan(d.Bytes)
	return records
}

func TestP48Sync(t *testing.T) {
	for _, d := range []impl.Disk{{}, {Bytes: "x"}, {Bytes: framed("ab"), Synced: 2}, {Bytes: framed("ab"), Synced: 4}, {Bytes: "\x02ab", Synced: 0}, {Bytes: strings.Repeat("x", 120), Synced: 119}} {
		want := impl.Disk{Bytes: d.Bytes, Synced: len(d.Bytes)}
		if got := impl.LogSync(d); got != want {
			t.Errorf("LogSync(%#v) = %#v", d, got)
		}
		if got := impl.LogSync(impl.LogSync(d)); got != want {
			t.Errorf("LogSync twice of %#v is %#v", d, got)
		}
	}
	for name, d := range brokenDisks() {
		if got := impl.LogSync(d); got != (impl.Disk{}) {
			t.Errorf("LogSync of a disk with %s is %#v", name, got)
		}
	}
}

func TestP48SyncThenCrash(t *testing.T) {
	eachDisk(t, 48, func(d impl.Disk) {
		synced := impl.LogSync(d)
		if synced.Bytes != d.Bytes || synced.Synced != len(d.Bytes) || !impl.DiskValid(synced) {
			t.Fatalf("LogSync(%#v) = %#v", d, synced)
		}
		records := recordsOf(d)
		for _, keep := range keepsOf(synced) {
			if after := impl.LogCrash(synced, keep); !slices.Equal(recordsOf(after), records) {
				t.Fatalf("LogCrash of the synchronized %q, %d has %q, not %q", d.Bytes, keep, recordsOf(after), records)
			}
		}
	})
}

func TestP49Crash(t *testing.T) {
	ab, cde := framed("ab"), framed("cde")
	for _, test := range []struct {
		name string
		d    impl.Disk
		keep int
		left string
	}{
		{"no bytes", impl.Disk{}, 0, ""},
		{"no bytes to keep", impl.Disk{}, 5, ""},
		{"nothing survives", impl.Disk{Bytes: ab + cde}, 0, ""},
		{"one byte is kept", impl.Disk{Bytes: ab + cde}, 1, ""},
		{"all but one byte of a frame are kept", impl.Disk{Bytes: ab + cde}, 3, ""},
		{"one frame is kept", impl.Disk{Bytes: ab + cde}, 4, ab},
		{"one frame and a part of the next one are kept", impl.Disk{Bytes: ab + cde}, 8, ab},
		{"all bytes are kept", impl.Disk{Bytes: ab + cde}, 9, ab + cde},
		{"more bytes than there are", impl.Disk{Bytes: ab + cde}, 10, ab + cde},
		{"the greatest number", impl.Disk{Bytes: ab + cde}, math.MaxInt, ab + cde},
		{"one frame survives", impl.Disk{Bytes: ab + cde, Synced: 4}, 0, ab},
		{"one frame survives, and a part is kept", impl.Disk{Bytes: ab + cde, Synced: 4}, 4, ab},
		{"one frame survives, and one is kept", impl.Disk{Bytes: ab + cde, Synced: 4}, 5, ab + cde},
		{"one frame survives, with the greatest number", impl.Disk{Bytes: ab + cde, Synced: 4}, math.MaxInt, ab + cde},
		{"a part of a frame survives", impl.Disk{Bytes: ab + cde, Synced: 3}, 0, ""},
		{"the rest of a frame is kept", impl.Disk{Bytes: ab + cde, Synced: 3}, 1, ab},
		{"all bytes survive", impl.Disk{Bytes: ab + cde, Synced: 9}, 0, ab + cde},
		{"all bytes survive, and some more", impl.Disk{Bytes: ab + cde, Synced: 9}, math.MaxInt, ab + cde},
		{"a torn frame survives", impl.Disk{Bytes: ab + "\x03cd", Synced: 7}, 9, ab},
		{"a wrong frame survives ahead of others", impl.Disk{Bytes: ab + "\x03cdf\xcc" + ab, Synced: 13}, 0, ab},
		{"a wrong frame is kept ahead of others", impl.Disk{Bytes: ab + "\x03cdf\xcc" + ab, Synced: 4}, 9, ab},
		{"what is no frame", impl.Disk{Bytes: strings.Repeat("\x00", 120), Synced: 60}, 60, ""},
		{"a full log", impl.Disk{Bytes: strings.Repeat(ab, 30), Synced: 60}, 60, strings.Repeat(ab, 30)},
		{"a full log without its last byte", impl.Disk{Bytes: strings.Repeat(ab, 30), Synced: 60}, 59, strings.Repeat(ab, 29)},
	} {
		checkCrash(t, test.name, test.d, test.keep, impl.Disk{Bytes: test.left, Synced: len(test.left)})
	}
}

func TestP49BeginningOfTheRecords(t *testing.T) {
	eachDisk(t, 49, func(d impl.Disk) {
		all := recordsOf(d)
		safe, _ := impl.LogScan(d.Bytes[:d.Synced])
		for _, keep := range keepsOf(d) {
			after := impl.LogCrash(d, keep)
			kept, used := impl.LogScan(after.Bytes)
			if !begins(all, kept) || !begins(kept, safe) || used != len(after.Bytes) || !strings.HasPrefix(d.Bytes, after.Bytes) {
				t.Fatalf("LogCrash(%#v, %d) = %#v with %q, of %q and %q", d, keep, after, kept, all, safe)
			}
			if after.Synced != len(after.Bytes) || !impl.DiskValid(after) {
				t.Fatalf("LogCrash(%#v, %d) = %#v", d, keep, after)
			}
		}
	})
}

// What is left is what the chapter tells, and no less.
func TestP49WhatIsLeft(t *testing.T) {
	eachDisk(t, 149, func(d impl.Disk) {
		for _, keep := range keepsOf(d) {
			if got, want := impl.LogCrash(d, keep), crashed(d, keep); got != want {
				t.Fatalf("LogCrash(%#v, %d) = %#v, not %#v", d, keep, got, want)
			}
		}
	})
}

func TestP49InvalidArguments(t *testing.T) {
	for name, d := range brokenDisks() {
		for _, keep := range []int{math.MinInt, -1, 0, 1, 4, 120, 121, math.MaxInt} {
			checkCrash(t, name, d, keep, impl.Disk{})
		}
	}
	for _, d := range []impl.Disk{{}, {Bytes: framed("ab")}, {Bytes: framed("ab"), Synced: 4}, {Bytes: strings.Repeat(framed("ab"), 30), Synced: 120}} {
		for _, keep := range []int{math.MinInt, math.MinInt + 1, -1 << 32, -120, -4, -2, -1} {
			checkCrash(t, "a negative number", d, keep, impl.Disk{})
		}
	}
}

func TestP50CrashTwice(t *testing.T) {
	eachDisk(t, 50, func(d impl.Disk) {
		for keep := range len(d.Bytes) - d.Synced + 1 {
			once := impl.LogCrash(d, keep)
			for _, again := range []int{0, 1, 2, keep, len(d.Bytes), 120, math.MaxInt} {
				if twice := impl.LogCrash(once, again); twice != once {
					t.Fatalf("LogCrash(%#v, %d) is %#v, but %#v after LogCrash of %d", d, keep, once, twice, again)
				}
			}
		}
	})
}

func TestP51GreaterNumber(t *testing.T) {
	eachDisk(t, 51, func(d impl.Disk) {
		keeps := keepsOf(d)
		slices.Sort(keeps)
		many := 0
		for _, keep := range keeps {
			records := recordsOf(impl.LogCrash(d, keep))
			if len(records) < many {
				t.Fatalf("LogCrash(%#v, %d) keeps %d records, and a smaller number %d", d, keep, len(records), many)
			}
			many = len(records)
		}
		if all := recordsOf(d); many != len(all) {
			t.Fatalf("LogCrash(%#v) of the greatest number keeps %d records of %d", d, many, len(all))
		}
	})
}

func TestP54KeepNothing(t *testing.T) {
	eachDisk(t, 54, func(d impl.Disk) {
		want, used := impl.LogScan(d.Bytes[:d.Synced])
		after := impl.LogCrash(d, 0)
		if got := recordsOf(after); !slices.Equal(got, want) || after.Bytes != d.Bytes[:used] {
			t.Fatalf("LogCrash(%#v, 0) = %#v with %q, not %q", d, after, got, want)
		}
	})
}

// Records are appended, synchronized and lost, and none that was synchronized is lost.
func TestP54History(t *testing.T) {
	n := numbers(154)
	for range 1000 {
		d, safe := impl.Disk{}, []string{}
		for range 30 {
			switch n.below(4) {
			case 0:
				d = impl.LogSync(d)
				safe = recordsOf(d)
			case 1:
				d = impl.LogCrash(d, n.below(30))
				if !begins(recordsOf(d), safe) {
					t.Fatalf("%q were synchronized, and %#v is left", safe, d)
				}
				safe = recordsOf(d)
			default:
				d, _ = impl.LogAppend(d, n.record())
			}
			if !impl.DiskValid(d) || !begins(recordsOf(d), safe) {
				t.Fatalf("%q were synchronized, and %#v is there", safe, d)
			}
		}
	}
}

func TestMemoryOfLogCrash(t *testing.T) {
	frames := framesOf("ab", "a", "123456789012")
	for _, bytes := range []string{"", "x", framed("a"), framed("ab"), frames, frames + "\x02a", strings.Repeat(framed("a"), 40), strings.Repeat("x", 121)} {
		for _, synced := range []int{-1, 0, 1, 4, len(bytes)} {
			for _, keep := range []int{-1, 0, 1, 7, 120, math.MaxInt} {
				checkLent(t, "LogCrash", bytes, func(text string) []string {
					return []string{impl.LogCrash(impl.Disk{Bytes: text, Synced: synced}, keep).Bytes}
				})
				d := impl.Disk{Bytes: bytes, Synced: synced}
				checkTextsApart(t, "LogCrash", []string{bytes}, []string{impl.LogCrash(d, keep).Bytes, impl.LogCrash(d, keep).Bytes})
			}
			checkLent(t, "LogSync", bytes, func(text string) []string {
				return []string{impl.LogSync(impl.Disk{Bytes: text, Synced: synced}).Bytes}
			})
			d := impl.Disk{Bytes: bytes, Synced: synced}
			checkTextsApart(t, "LogSync", []string{bytes}, []string{impl.LogSync(d).Bytes, impl.LogSync(d).Bytes})
		}
	}
}
