package tests

import (
	"fmt"
	"slices"
	"strings"
	"testing"
	"unsafe"

	"loop.example/atomicpush/impl"
)

func insertion(text string) impl.Op {
	return impl.Op{Text: text}
}

func copying(at int, size int) impl.Op {
	return impl.Op{At: at, Size: size}
}

// wordsOf returns all texts of at most most bytes of an alphabet.
func wordsOf(alphabet string, most int) []string {
	result := []string{""}
	for i := 0; i < len(result); i++ {
		for at := 0; at < len(alphabet) && len(result[i]) < most; at++ {
			result = append(result, result[i]+alphabet[at:at+1])
		}
	}
	return result
}

// eachTextPair calls check with many pairs of texts of at most 8 bytes: all of two letters that are short, the longest ones, and some with any bytes.
func eachTextPair(check func(base string, text string)) {
	short, long := wordsOf("ab", 6), wordsOf("ab", 8)
	for _, base := range short {
		for _, text := range long {
			check(base, text)
			check(text, base)
		}
	}
	for _, base := range wordsOf("\x00\x80\xff", 4) {
		for _, text := range wordsOf("\x00\x80\xff", 4) {
			check(base, text)
		}
	}
	n := numbers(2)
	for range 20000 {
		base, text := n.text(n.below(9)), n.text(n.below(9))
		if len(base) > 0 && n.below(4) > 0 {
			text = n.pieces(base)
		}
		check(base, text)
	}
}

// pieces returns a text of 1 to 8 bytes, most of it made of parts of a base.
func (n *numbers) pieces(base string) string {
	text := ""
	for size := 1 + n.below(8); len(text) < size; {
		at := n.below(len(base))
		text += base[at : at+1+n.below(len(base)-at)]
		text += n.text(n.below(2))
	}
	return text[:min(len(text), 8)]
}

// anyOp returns an operation, which most often fits.
func (n *numbers) anyOp(base string) impl.Op {
	switch n.below(8) {
	case 0:
		return impl.Op{At: n.below(10) - 1, Size: n.below(10) - 1, Text: n.text(n.below(10) * n.below(2))}
	case 1, 2, 3:
		return insertion(n.text(1 + n.below(3)))
	}
	if base == "" {
		return insertion("x")
	}
	at := n.below(len(base))
	return copying(at, 1+n.below(len(base)-at))
}

// eachDelta calls check with many bases and operations, and requires that the operations of enough of them can be performed.
func eachDelta(t *testing.T, seed int, check func(base string, ops []impl.Op)) {
	t.Helper()
	n := numbers(seed)
	performed := 0
	for range 20000 {
		base := n.text(n.below(9))
		ops := []impl.Op{}
		for range n.below(5) {
			ops = append(ops, n.anyOp(base))
		}
		if _, ok := impl.DeltaApply(base, ops); ok {
			performed++
		}
		check(base, ops)
	}
	if performed < 5000 {
		t.Errorf("only %d deltas could be performed", performed)
	}
}

// performed computes what operations make of a base as chapter 2 tells.
func performed(base string, ops []impl.Op) (string, bool) {
	text := ""
	fit := len(base) <= 8 && len(ops) <= 8
	for _, o := range ops {
		inserts := o.Size == 0 && o.At == 0 && len(o.Text) >= 1 && len(o.Text) <= 8
		copies := o.Size >= 1 && o.Size <= 8 && o.At >= 0 && o.At <= 8 && o.At+o.Size <= len(base) && o.Text == ""
		fit = fit && (inserts || copies)
		if fit && inserts {
			text += o.Text
		} else if fit {
			text += base[o.At : o.At+o.Size]
		}
	}
	if !fit || len(text) > 8 {
		return "", false
	}
	return text, true
}

// made computes operations for a text as chapter 2 tells: parts are looked for from the longest one on.
func made(base string, text string) []impl.Op {
	ops := []impl.Op{}
	for text != "" {
		size := len(text)
		for !strings.Contains(base, text[:size]) {
			size--
		}
		if size >= 2 {
			ops = append(ops, copying(strings.Index(base, text[:size]), size))
			text = text[size:]
			continue
		}
		if len(ops) == 0 || ops[len(ops)-1].Size > 0 {
			ops = append(ops, insertion(""))
		}
		ops[len(ops)-1].Text += text[:1]
		text = text[1:]
	}
	return ops
}

// roomyOps returns the operations in a slice with space behind them.
func roomyOps(list []impl.Op) []impl.Op {
	return append(slices.Clone(list), insertion("spare"), copying(7, 7), insertion("spare"))[:len(list)]
}

// wholeOps describes all memory of a list of operations, also the space behind it.
func wholeOps(list []impl.Op) string {
	return fmt.Sprintf("%t %d %#v", list == nil, len(list), list[:cap(list)])
}

// checkTextsApart fails if texts of the results share memory with those of the arguments or with each other.
// Go may keep each text of one byte only once, so only longer ones are compared.
func checkTextsApart(t *testing.T, name string, arguments []string, results []string) {
	t.Helper()
	taken := []span{}
	for i, text := range slices.Concat(arguments, results) {
		if len(text) < 2 {
			continue
		}
		s := span{unsafe.Pointer(unsafe.StringData(text)), uintptr(len(text))}
		if i >= len(arguments) && slices.ContainsFunc(taken, s.meets) {
			t.Errorf("%s: the result %q shares memory", name, text)
			return
		}
		taken = append(taken, s)
	}
}

func textsOf(list []impl.Op) []string {
	result := []string{}
	for _, o := range list {
		result = append(result, o.Text)
	}
	return result
}
