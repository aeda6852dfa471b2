package tests

import (
	"bytes"
	"fmt"
	"math"
	"math/rand"
	"slices"
	"strings"
	"testing"

	"loop.example/g00194/impl"
)

func pay(from, to string, amount, nonce int) impl.Tx {
	return impl.Tx{Kind: 1, From: from, To: to, Amount: amount, Nonce: nonce}
}

// stakes: the order of the two kinds that name no To.
func stakes(kind int, from string, amount, nonce int) impl.Tx {
	return impl.Tx{Kind: kind, From: from, Amount: amount, Nonce: nonce}
}

// rightTxs: orders of each kind, with the edges of what each of the five may be.
func rightTxs() []impl.Tx {
	var l []impl.Tx
	for _, amount := range []int{1, 2, 63, 64, 8191, 8192, 999999, 1000000} {
		for _, nonce := range []int{0, 1, 63, 64, 8191, 8192, 9999, 10000} {
			l = append(l, pay("a", "b", amount, nonce), stakes(2, "a", amount, nonce), stakes(3, "a", amount, nonce))
		}
	}
	names := []string{"a", "z", "0", "9", "aa", "ab", "a0z9", "abcdefgh", "00000000", "zzzzzzzz"}
	for _, from := range names {
		l = append(l, stakes(2, from, 5, 3), stakes(3, from, 5, 3))
		for _, to := range names {
			l = append(l, pay(from, to, 5, 3)) // also to itself: the document rules it out nowhere
		}
	}
	return l
}

func noNames() []string {
	return []string{"", "A", "Z", "a b", " a", "a ", "a\n", "a\x00", "\x00", "a-", "_", "`", "{", "/", ":", "é", "\xff", "aé", "abcdefghi", "123456789", strings.Repeat("a", 200)}
}

// wrongTxs: each has one fault, and no other.
func wrongTxs() []impl.Tx {
	var l []impl.Tx
	for _, kind := range []int{0, 4, 5, -1, -2, -3, 100, 257, 1 << 32, 1<<32 + 1, math.MaxInt, math.MinInt, math.MinInt + 1} {
		l = append(l, impl.Tx{Kind: kind, From: "a", To: "b", Amount: 5, Nonce: 3}, impl.Tx{Kind: kind, From: "a", Amount: 5, Nonce: 3})
	}
	for _, name := range noNames() {
		l = append(l, pay(name, "b", 5, 3), stakes(2, name, 5, 3), stakes(3, name, 5, 3), pay("a", name, 5, 3))
	}
	for _, to := range append(noNames()[1:], "a", "b", "0", "abcdefgh") {
		l = append(l, impl.Tx{Kind: 2, From: "a", To: to, Amount: 5, Nonce: 3}, impl.Tx{Kind: 3, From: "a", To: to, Amount: 5, Nonce: 3})
	}
	for _, n := range []int{0, -1, -5, -1000000, 1000001, 1000002, 1000000000, 1000000001, 1 << 32, 1<<32 + 5, math.MaxInt, math.MinInt} {
		l = append(l, pay("a", "b", n, 3), stakes(2, "a", n, 3), stakes(3, "a", n, 3))
	}
	for _, n := range []int{-1, -2, -10000, 10001, 10002, 1000000, 1 << 32, 1<<32 + 3, math.MaxInt, math.MinInt} {
		l = append(l, pay("a", "b", 5, n), stakes(2, "a", 5, n), stakes(3, "a", 5, n))
	}
	return append(l, impl.Tx{})
}

func txWanted(x impl.Tx) bool {
	if outside(x.Amount, 1, 1000000) || outside(x.Nonce, 0, 10000) || !nameWanted(x.From) {
		return false
	}
	switch x.Kind {
	case 1:
		return nameWanted(x.To)
	case 2, 3:
		return x.To == ""
	}
	return false
}

// numWanted: the bytes of a number of 0 or more, worked out without the program.
func numWanted(n int) string {
	n *= 2
	s := ""
	for ; n > 127; n >>= 7 {
		s += string([]byte{byte(n) | 128})
	}
	return s + string([]byte{byte(n)})
}

func textWanted(s string) string { return numWanted(len(s)) + s }

// txBytes: the bytes of the parts, whether the order is right or not (its numbers being 0 or more).
func txBytes(x impl.Tx) string {
	return numWanted(x.Kind) + textWanted(x.From) + textWanted(x.To) + numWanted(x.Amount) + numWanted(x.Nonce)
}

func refusesTx(t *testing.T, b []byte, at int) {
	t.Helper()
	if x, next, ok := impl.GetTx(b, at); x != (impl.Tx{}) || next != 0 || ok {
		t.Errorf("GetTx(%x, %d): %v %d %v", b, at, x, next, ok)
	}
}

func TestTxKinds(t *testing.T) {
	if impl.TxPay != 1 || impl.TxBond != 2 || impl.TxUnbond != 3 {
		t.Error(impl.TxPay, impl.TxBond, impl.TxUnbond)
	}
	var kind int = impl.TxUnbond
	if kind != 3 {
		t.Error(kind)
	}
}

func TestTxRight(t *testing.T) {
	for _, x := range rightTxs() {
		if !impl.TxOk(x) {
			t.Errorf("not right: %v", x)
		}
	}
}

func TestTxNotRight(t *testing.T) {
	for _, x := range wrongTxs() {
		if impl.TxOk(x) {
			t.Errorf("right: %v", x)
		}
		for _, ahead := range []string{"", "\x00", "ahead"} {
			if b := impl.PutTx([]byte(ahead), x); string(b) != ahead {
				t.Errorf("put: %v: %x", x, b)
			}
		}
		if b := impl.PutTx(nil, x); len(b) != 0 {
			t.Errorf("put behind nil: %v: %x", x, b)
		}
	}
}

func TestTxToOfEachKind(t *testing.T) {
	for kind := -1; kind <= 5; kind++ {
		for to, want := range map[string]bool{"": kind == 2 || kind == 3, "b": kind == 1, "a": kind == 1, "B": false, "\x00": false, "abcdefghi": false} {
			if got := impl.TxOk(impl.Tx{Kind: kind, From: "a", To: to, Amount: 1}); got != want {
				t.Errorf("kind %d to %q: %v", kind, to, got)
			}
		}
	}
}

func TestTxBytesKnown(t *testing.T) {
	for want, x := range map[string]impl.Tx{
		"\x02\x02a\x02b\x0a\x06":                         pay("a", "b", 5, 3),
		"\x04\x02a\x00\x0a\x06":                          stakes(2, "a", 5, 3),
		"\x06\x02a\x00\x0a\x06":                          stakes(3, "a", 5, 3),
		"\x02\x04ab\x10abcdefgh\x80\x89\x7a\xa0\x9c\x01": pay("ab", "abcdefgh", 1000000, 10000),
		"\x06\x060z9\x00\x02\x00":                        stakes(3, "0z9", 1, 0),
		"\x04\x02a\x00\x80\x01\x80\x01":                  stakes(2, "a", 64, 64),
	} {
		for _, ahead := range []string{"", "\x00", "\x80", "ahead"} {
			if b := impl.PutTx([]byte(ahead), x); string(b) != ahead+want {
				t.Errorf("PutTx(%q, %v): %x", ahead, x, b)
			}
		}
		if b := impl.PutTx(nil, x); string(b) != want {
			t.Errorf("behind nil: %x", b)
		}
	}
}

func TestTxComesBack(t *testing.T) {
	for _, x := range rightTxs() {
		for _, ahead := range []string{"", "\x02", "\xff\x80ahead"} {
			b := impl.PutTx([]byte(ahead), x)
			if string(b) != ahead+txBytes(x) {
				t.Fatalf("PutTx(%q, %v): %x", ahead, x, b)
			}
			for _, behind := range []string{"", "\x00", "\xff", "behind"} {
				y, next, ok := impl.GetTx([]byte(string(b)+behind), len(ahead))
				if y != x || next != len(b) || !ok {
					t.Errorf("%v: %v %d %v", x, y, next, ok)
				}
			}
		}
	}
}

func TestTxsOneBehindTheOther(t *testing.T) {
	b := []byte("ahead")
	for i, x := range rightTxs() {
		b = impl.PutTx(b, x)
		b = impl.PutTx(b, wrongTxs()[i%len(wrongTxs())]) // it leaves no bytes between
	}
	at := 5
	for _, x := range rightTxs() {
		y, next, ok := impl.GetTx(b, at)
		if y != x || !ok {
			t.Fatalf("%v: %v %v", x, y, ok)
		}
		at = next
	}
	if at != len(b) {
		t.Error("place", at, len(b))
	}
	refusesTx(t, b, at)
}

func TestTxCutShort(t *testing.T) {
	for _, x := range []impl.Tx{pay("a", "b", 5, 3), pay("abcdefgh", "z0", 1000000, 10000), stakes(2, "abc", 64, 64), stakes(3, "a", 1000000, 0)} {
		whole := txBytes(x)
		for cut := range len(whole) {
			refusesTx(t, []byte(whole[:cut]), 0)
			refusesTx(t, []byte("ab"+whole[:cut]), 2)
		}
	}
}

func TestTxWrongPlaces(t *testing.T) {
	for _, b := range [][]byte{nil, {}, []byte(txBytes(pay("a", "b", 5, 3))), []byte(txBytes(stakes(3, "a", 5, 3)) + txBytes(stakes(2, "a", 5, 3)))} {
		for _, at := range wrongPlaces(b) {
			refusesTx(t, b, at)
		}
	}
	refusesTx(t, nil, 0)
}

// Each part can be read, but the order that comes of them is not right.
func TestTxBytesOfNotRight(t *testing.T) {
	held := 0
	for _, x := range wrongTxs() {
		if outside(x.Kind, 0, impl.MaxNum) || outside(x.Amount, 0, impl.MaxNum) || outside(x.Nonce, 0, impl.MaxNum) {
			continue
		}
		held++
		refusesTx(t, []byte(txBytes(x)), 0)
		refusesTx(t, []byte("ab"+txBytes(x)+"behind"), 2)
	}
	if held < 100 {
		t.Error("too few were held against it:", held)
	}
	for _, s := range []string{
		"\x01\x02a\x02b\x0a\x06", "\x03\x02a\x02b\x0a\x06", "\x05\x02a\x00\x0a\x06", // kinds -1, -2, -3
		"\x02\x02a\x02b\x01\x06", "\x02\x02a\x02b\x0b\x06", "\x04\x02a\x00\xff\xa7\xd6\xb9\x07\x06", // amounts -1, -6, -MaxNum
		"\x02\x02a\x02b\x0a\x01", "\x06\x02a\x00\x0a\x03", "\x06\x02a\x00\x0a\xff\xa7\xd6\xb9\x07", // nonces -1, -2, -MaxNum
	} {
		refusesTx(t, []byte(s), 0)
	}
}

// A part that chapter 1 reads not is none here.
func TestTxBytesOfNoParts(t *testing.T) {
	for _, s := range []string{
		"\x82\x00\x02a\x02b\x0a\x06", "\x02\x82\x00a\x02b\x0a\x06", "\x02\x02a\x82\x00b\x0a\x06", "\x02\x02a\x02b\x8a\x00\x06", "\x02\x02a\x02b\x0a\x86\x00", // needless groups
		"\x02\x01a\x02b\x0a\x06", "\x02\x02a\x01b\x0a\x06", // texts of less than none
		"\x02\x80\xa8\xd6\xb9\x07a\x02b\x0a\x06", "\x02\x02a\x80\xa8\xd6\xb9\x07b\x0a\x06", // texts that are longer than all there is
		"\x02\x02a\x02b\x82\xa8\xd6\xb9\x07\x06", "\x02\x02a\x02b\x0a\x82\xa8\xd6\xb9\x07", "\xff\xff\xff\xff\x7f\x02a\x02b\x0a\x06", // numbers beyond MaxNum
		"\x80", "\xff", "\x02\x0aa\x02b", strings.Repeat("\x80", 40), strings.Repeat("\xff", 40),
	} {
		refusesTx(t, []byte(s), 0)
	}
}

// txAtWanted reads by the functions of chapter 1, which have tests of their own.
func txAtWanted(b []byte, at int) (impl.Tx, int, bool) {
	var x impl.Tx
	place, good := at, true
	num := func(n *int) {
		if good {
			*n, place, good = impl.GetNum(b, place)
		}
	}
	text := func(s *string) {
		if good {
			*s, place, good = impl.GetText(b, place)
		}
	}
	num(&x.Kind)
	text(&x.From)
	text(&x.To)
	num(&x.Amount)
	num(&x.Nonce)
	if !good || !txWanted(x) {
		return impl.Tx{}, 0, false
	}
	return x, place, true
}

// Orders whose bytes are changed somewhere, read at every place and around it.
func TestTxOfAnyBytes(t *testing.T) {
	r := rand.New(rand.NewSource(5))
	right, taken := rightTxs(), 0
	for range 30000 {
		b := []byte(txBytes(right[r.Intn(len(right))]) + txBytes(right[r.Intn(len(right))]))
		for range r.Intn(3) {
			b[r.Intn(len(b))] = byte(r.Intn(256) >> r.Intn(7))
		}
		for at := -1; at <= len(b)+1; at++ {
			want, wantNext, wantOk := txAtWanted(b, at)
			x, next, ok := impl.GetTx(b, at)
			if x != want || next != wantNext || ok != wantOk {
				t.Fatalf("GetTx(%x, %d): %v %d %v, not %v %d %v", b, at, x, next, ok, want, wantNext, wantOk)
			}
			if !ok {
				continue
			}
			taken++
			// What was read has no other bytes than these.
			if string(impl.PutTx(nil, x)) != string(b[at:next]) {
				t.Fatalf("%v came of %x", x, b[at:next])
			}
		}
	}
	if taken < 1000 {
		t.Error("too few could be read:", taken)
	}
}

// anyTx has parts of which most are right, and some are not.
func anyTx(r *rand.Rand) impl.Tx {
	names := append(noNames(), "a", "b", "a", "b", "c", "ab", "z9", "abcdefgh", "", "", "", "", "", "", "", "")
	ns := []int{0, 1, 2, 5, 9999, 10000, 10001, 999999, 1000000, 1000001, -1, math.MaxInt, math.MinInt}
	return impl.Tx{Kind: r.Intn(7) - 1, From: names[r.Intn(len(names))], To: names[r.Intn(len(names))], Amount: ns[r.Intn(len(ns))], Nonce: ns[r.Intn(len(ns))]}
}

func TestTxOfAnything(t *testing.T) {
	r := rand.New(rand.NewSource(6))
	taken := 0
	for range 200000 {
		x := anyTx(r)
		want := txWanted(x)
		if got := impl.TxOk(x); got != want {
			t.Fatalf("%v: %v", x, got)
		}
		b, wantBytes := impl.PutTx([]byte{7}, x), "\x07"
		if want {
			taken++
			wantBytes += txBytes(x)
		}
		if string(b) != wantBytes {
			t.Fatalf("%v: %x, not %x", x, b, wantBytes)
		}
		if y, next, ok := impl.GetTx(b, 1); ok != want || want && (y != x || next != len(b)) {
			t.Fatalf("%v: %v %d %v", x, y, next, ok)
		}
	}
	if taken < 1000 {
		t.Error("too few were right:", taken)
	}
}

// Of two orders that differ in one of the five alone that one tells; ahead of it no later one does.
func TestTxLessByEachInTurn(t *testing.T) {
	low, high := pay("b", "f", 10, 20), impl.Tx{Kind: 2, From: "c", To: "g", Amount: 11, Nonce: 21}
	parts := []func(to *impl.Tx, from impl.Tx){
		func(to *impl.Tx, from impl.Tx) { to.From = from.From },
		func(to *impl.Tx, from impl.Tx) { to.Nonce = from.Nonce },
		func(to *impl.Tx, from impl.Tx) { to.Kind = from.Kind },
		func(to *impl.Tx, from impl.Tx) { to.To = from.To },
		func(to *impl.Tx, from impl.Tx) { to.Amount = from.Amount },
	}
	for first := range parts {
		// The parts ahead are the same; this one is lower in a; those behind are any.
		for behind := range 1 << (2 * (4 - first)) {
			for ahead := range 1 << first {
				a, b := low, high
				for k, set := range parts {
					switch {
					case k < first:
						src := []impl.Tx{low, high}[ahead>>k&1]
						set(&a, src)
						set(&b, src)
					case k > first:
						set(&a, []impl.Tx{low, high}[behind>>(2*(k-first-1))&1])
						set(&b, []impl.Tx{low, high}[behind>>(2*(k-first-1)+1)&1])
					}
				}
				if !impl.TxLess(a, b) || impl.TxLess(b, a) {
					t.Errorf("by part %d: %v, %v", first, a, b)
				}
			}
		}
	}
}

func TestTxLessOfTheSame(t *testing.T) {
	for _, x := range append(rightTxs(), wrongTxs()...) {
		if y := x; impl.TxLess(x, y) {
			t.Errorf("%v is less than itself", x)
		}
	}
}

// Texts are ordered byte by byte, a beginning ahead of what goes on; numbers as numbers, the greatest and the smallest, too.
func TestTxLessKnown(t *testing.T) {
	texts := []string{"", "\x00", "0", "00", "9", "A", "a", "a\x00", "a0", "aa", "ab", "abcdefgh", "abcdefghi", "b", "z", "\x7f", "é", "\xff"}
	for i, s := range texts {
		for k, u := range texts {
			if impl.TxLess(impl.Tx{From: s}, impl.Tx{From: u}) != (i < k) || impl.TxLess(impl.Tx{To: s}, impl.Tx{To: u}) != (i < k) {
				t.Errorf("%q, %q", s, u)
			}
		}
	}
	ns := []int{math.MinInt, math.MinInt + 1, -1 << 32, -1000000, -2, -1, 0, 1, 2, 9, 10, 10000, 1000000, 1 << 32, math.MaxInt - 1, math.MaxInt}
	for i, n := range ns {
		for k, m := range ns {
			if impl.TxLess(impl.Tx{Nonce: n}, impl.Tx{Nonce: m}) != (i < k) || impl.TxLess(impl.Tx{Kind: n}, impl.Tx{Kind: m}) != (i < k) || impl.TxLess(impl.Tx{Amount: n}, impl.Tx{Amount: m}) != (i < k) {
				t.Errorf("%d, %d", n, m)
			}
		}
	}
}

// A byte 0 or 1 is told by two, so that the end of a text is less than whatever it may go on with.
var endsTold = strings.NewReplacer("\x00", "\x01\x02", "\x01", "\x01\x03")

// lessWanted holds the parts against each other as texts of one width that are joined.
func lessWanted(a, b impl.Tx) bool {
	joined := func(x impl.Tx) string {
		num := func(n int) string { return fmt.Sprintf("%016x", uint64(n)^1<<63) }
		text := func(s string) string { return endsTold.Replace(s) + "\x01\x01" }
		return text(x.From) + num(x.Nonce) + num(x.Kind) + text(x.To) + num(x.Amount)
	}
	return joined(a) < joined(b)
}

func TestTxLessOfAnything(t *testing.T) {
	r := rand.New(rand.NewSource(7))
	for range 100000 {
		a, b := anyTx(r), anyTx(r)
		for range r.Intn(6) {
			switch r.Intn(5) {
			case 0:
				b.From = a.From
			case 1:
				b.Nonce = a.Nonce
			case 2:
				b.Kind = a.Kind
			case 3:
				b.To = a.To
			case 4:
				b.Amount = a.Amount
			}
		}
		if got := impl.TxLess(a, b); got != lessWanted(a, b) {
			t.Fatalf("TxLess(%v, %v): %v", a, b, got)
		}
		if impl.TxLess(a, b) && impl.TxLess(b, a) || impl.TxLess(a, b) == impl.TxLess(b, a) && a != b {
			t.Fatalf("%v and %v both ways", a, b)
		}
	}
}

func TestTxsLeaveTheirArgument(t *testing.T) {
	for i, x := range []impl.Tx{pay("a", "b", 5, 3), stakes(2, "abcdefgh", 1000000, 10000), {}, stakes(4, "a", 1, 1), pay("a", "", 1, 1)} {
		for _, size := range []int{0, 1, 5} {
			room := bytes.Repeat([]byte{0xee}, 64)
			b := room[:size]
			kept := slices.Clone(room)
			got := impl.PutTx(b, x)
			want := slices.Clone(got)
			if !bytes.Equal(room, kept) {
				t.Errorf("%d: wrote into the argument or behind it", i)
			}
			clear(room)
			if !bytes.Equal(got, want) {
				t.Errorf("%d: the answer shares memory with the argument", i)
			}
			for k := range got[:cap(got)] {
				got[:cap(got)][k] = 0x55
			}
			if !bytes.Equal(room, make([]byte, 64)) {
				t.Errorf("%d: the argument is handed out", i)
			}
		}
	}
}

func TestTxsTwiceBehindTheSame(t *testing.T) {
	b := make([]byte, 2, 100)
	first := impl.PutTx(b, pay("a", "b", 5, 3))
	second := impl.PutTx(b, stakes(3, "ccc", 7, 8))
	third := impl.PutTx(first, stakes(2, "d", 9, 10))
	fourth := impl.PutTx(first, stakes(2, "e", 11, 12))
	none := impl.PutTx(first, impl.Tx{})
	for i, x := range []struct{ got, want string }{
		{string(first), "\x00\x00" + txBytes(pay("a", "b", 5, 3))},
		{string(second), "\x00\x00" + txBytes(stakes(3, "ccc", 7, 8))},
		{string(third), string(first) + txBytes(stakes(2, "d", 9, 10))},
		{string(fourth), string(first) + txBytes(stakes(2, "e", 11, 12))},
		{string(none), string(first)},
	} {
		if x.got != x.want {
			t.Errorf("%d: %x, not %x", i, x.got, x.want)
		}
	}
}

func TestGetTxLeavesItsArgument(t *testing.T) {
	x := pay("from", "to", 500, 300)
	room := []byte("ahead" + txBytes(x) + "behind")
	kept := slices.Clone(room)
	got, next, ok := impl.GetTx(room, 5)
	if !bytes.Equal(room, kept) {
		t.Error("wrote into the argument")
	}
	clear(room)
	if got != x || next != len(kept)-6 || !ok {
		t.Errorf("the answer shares memory with the argument: %v", got)
	}
	// What lies behind the length is not read.
	whole := []byte(txBytes(x))
	for cut := range len(whole) {
		refusesTx(t, whole[:cut], 0)
	}
}

func TestTxsKeepNothing(t *testing.T) {
	x := pay("a", "b", 5, 3)
	b := impl.PutTx(nil, x)
	kept := slices.Clone(b)
	for _, y := range append(wrongTxs(), rightTxs()...) {
		c := impl.PutTx(nil, y)
		impl.GetTx(c, 0)
		impl.GetTx(c, 1)
		impl.TxLess(y, x)
		impl.TxOk(y)
		clear(c)
	}
	again := impl.PutTx(nil, x)
	if !bytes.Equal(b, kept) || !bytes.Equal(again, kept) {
		t.Errorf("the second time something else comes: %x, %x", b, again)
	}
	if y, next, ok := impl.GetTx(b, 0); y != x || next != len(b) || !ok {
		t.Errorf("the second time something else comes: %v %d %v", y, next, ok)
	}
}
