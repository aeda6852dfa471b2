package tests

import (
	"bytes"
	"math"
	"math/big"
	"math/rand"
	"slices"
	"strconv"
	"strings"
	"testing"

	"loop.example/g00194/impl"
)

// numEdges are the numbers at which the count of groups, the sign or the limit turns.
func numEdges() []int {
	l := []int{0, 1, 2, 62, 63, 64, 65, 127, 128, 1000, 8191, 8192, 1048575, 1048576, 134217727, 134217728, impl.MaxNum - 1, impl.MaxNum}
	for _, n := range slices.Clone(l) {
		l = append(l, -n)
	}
	return append(l, -8193, -1048577, -134217729)
}

func wrongPlaces(b []byte) []int {
	return []int{-1, -2, math.MinInt, len(b), len(b) + 1, math.MaxInt - 1, math.MaxInt}
}

func refusesNum(t *testing.T, b []byte, at int) {
	t.Helper()
	if n, next, ok := impl.GetNum(b, at); n != 0 || next != 0 || ok {
		t.Errorf("GetNum(%x, %d): %d %d %v", b, at, n, next, ok)
	}
}

func refusesText(t *testing.T, b []byte, at int) {
	t.Helper()
	if s, next, ok := impl.GetText(b, at); s != "" || next != 0 || ok {
		t.Errorf("GetText(%x, %d): %q %d %v", b, at, s, next, ok)
	}
}

func refusesNames(t *testing.T, b []byte, at int) {
	t.Helper()
	if l, next, ok := impl.GetNames(b, at); len(l) != 0 || next != 0 || ok {
		t.Errorf("GetNames(%x, %d): %q %d %v", b, at, l, next, ok)
	}
}

func TestNumBytes(t *testing.T) {
	for _, x := range []struct {
		n    int
		want string
	}{
		{0, "\x00"}, {-1, "\x01"}, {1, "\x02"}, {-2, "\x03"}, {2, "\x04"},
		{63, "\x7e"}, {-64, "\x7f"}, {64, "\x80\x01"}, {-65, "\x81\x01"}, {150, "\xac\x02"},
		{8191, "\xfe\x7f"}, {-8192, "\xff\x7f"}, {8192, "\x80\x80\x01"}, {-8193, "\x81\x80\x01"},
		{impl.MaxNum, "\x80\xa8\xd6\xb9\x07"}, {-impl.MaxNum, "\xff\xa7\xd6\xb9\x07"},
		{impl.MaxNum + 1, "\x80\xa8\xd6\xb9\x07"}, {-impl.MaxNum - 1, "\xff\xa7\xd6\xb9\x07"},
		{math.MaxInt, "\x80\xa8\xd6\xb9\x07"}, {math.MinInt, "\xff\xa7\xd6\xb9\x07"},
	} {
		for _, ahead := range []string{"", "\x80", "ahead"} {
			if b := impl.PutNum([]byte(ahead), x.n); string(b) != ahead+x.want {
				t.Errorf("PutNum(%q, %d): %x", ahead, x.n, b)
			}
		}
	}
	if b := impl.PutNum(nil, 1); string(b) != "\x02" {
		t.Errorf("behind nil: %x", b)
	}
}

func TestNumComesBack(t *testing.T) {
	ns := numEdges()
	for n := -20000; n <= 20000; n++ {
		ns = append(ns, n)
	}
	for _, n := range ns {
		b := impl.PutNum([]byte{200, 7}, n)
		for _, behind := range []string{"", "\x00", "\xff"} {
			got, next, ok := impl.GetNum([]byte(string(b)+behind), 2)
			if got != n || next != len(b) || !ok {
				t.Errorf("%d: %d %d %v", n, got, next, ok)
			}
		}
	}
}

func TestNumsOneBehindTheOther(t *testing.T) {
	var b []byte
	for _, n := range numEdges() {
		b = impl.PutNum(b, n)
	}
	at := 0
	for _, n := range numEdges() {
		got, next, ok := impl.GetNum(b, at)
		if got != n || !ok {
			t.Fatalf("%d: %d %v", n, got, ok)
		}
		at = next
	}
	if at != len(b) {
		t.Error("place", at, len(b))
	}
}

func TestNumWrong(t *testing.T) {
	for _, s := range []string{
		"",
		"\x80", "\xff", "\x80\x80", "\x80\xa8\xd6\xb9", "\x80\x80\x80\x80\x80", // not whole
		"\x80\x00", "\x81\x00", "\xff\x80\x00", "\x80\xa8\xd6\xb9\x87\x00", "\x80\x80\x80\x80\x80\x80\x80\x80\x80\x00", // needless 0
		"\x81\xa8\xd6\xb9\x07",                             // -MaxNum less 1
		"\x82\xa8\xd6\xb9\x07",                             // MaxNum and 1
		"\xff\xff\xff\xff\x7f", "\x80\x80\x80\x80\x80\x01", // beyond it by far
		"\x82\x80\x80\x80\x80\x80\x80\x80\x80\x02", "\x82\x80\x80\x80\x80\x80\x80\x80\x80\x80\x01", // a 64th and a 70th bit
		strings.Repeat("\xff", 40), strings.Repeat("\x80", 40) + "\x01",
	} {
		refusesNum(t, []byte(s), 0)
		refusesNum(t, []byte("ab"+s), 2)
	}
	b := []byte{2, 4, 6}
	for _, at := range wrongPlaces(b) {
		refusesNum(t, b, at)
	}
	refusesNum(t, nil, 0)
}

func TestNumCutShort(t *testing.T) {
	for _, n := range numEdges() {
		b := impl.PutNum(nil, n)
		for k := range b {
			refusesNum(t, b[:k], 0)
			// The rest lies in the spare room, which is not there to be read.
			refusesNum(t, append([]byte{5}, b...)[:1+k], 1)
		}
	}
}

// bigNum reads a number as the document tells it, of any length.
func bigNum(b []byte) (int, int, bool) {
	sum := new(big.Int)
	for i, c := range b {
		group := big.NewInt(int64(c & 127))
		sum.Add(sum, group.Lsh(group, uint(7*i)))
		if c >= 128 {
			continue
		}
		half := new(big.Int).Rsh(sum, 1)
		if sum.Bit(0) == 1 {
			half.Add(half, big.NewInt(1))
		}
		if i > 0 && c == 0 || half.Cmp(big.NewInt(impl.MaxNum)) > 0 {
			return 0, 0, false
		}
		if sum.Bit(0) == 1 {
			half.Neg(half)
		}
		return int(half.Int64()), i + 1, true
	}
	return 0, 0, false
}

func holdAgainstBig(t *testing.T, b []byte) {
	t.Helper()
	n, next, ok := impl.GetNum(b, 0)
	wantN, wantNext, wantOk := bigNum(b)
	if n != wantN || next != wantNext || ok != wantOk {
		t.Fatalf("GetNum(%x): %d %d %v, not %d %d %v", b, n, next, ok, wantN, wantNext, wantOk)
	}
	if ok && !bytes.Equal(impl.PutNum(nil, n), b[:next]) {
		t.Fatalf("%x is a second form of %d", b[:next], n)
	}
}

func TestNumOfAnyBytes(t *testing.T) {
	for c := range 256 * 256 {
		holdAgainstBig(t, []byte{byte(c), byte(c >> 8)})
	}
	r := rand.New(rand.NewSource(1))
	for range 100000 {
		b := make([]byte, r.Intn(13))
		for i := range b {
			b[i] = byte(r.Intn(256)) | byte(r.Intn(4)/2*128)
		}
		holdAgainstBig(t, b)
	}
	// Every way to end five groups near MaxNum.
	for low := range 128 {
		for high := range 128 {
			holdAgainstBig(t, []byte{byte(low) | 128, 0xa8, 0xd6, 0xb9, byte(high)})
		}
	}
}

func textSamples() []string {
	return []string{"", "a", "abc", "\x00", "\x80\x00\xff", "\xc3\x28", "né ✓", strings.Repeat("x", 63), strings.Repeat("y", 64), strings.Repeat("z", 9000)}
}

func TestTextBytes(t *testing.T) {
	for _, x := range []struct{ s, want string }{
		{"", "\x00"}, {"a", "\x02a"}, {"abc", "\x06abc"}, {"né", "\x06n\xc3\xa9"}, {"\x00\xff", "\x04\x00\xff"},
		{strings.Repeat("y", 64), "\x80\x01" + strings.Repeat("y", 64)},
	} {
		for _, ahead := range []string{"", "ahead"} {
			if b := impl.PutText([]byte(ahead), x.s); string(b) != ahead+x.want {
				t.Errorf("PutText(%q, %q): %x", ahead, x.s, b)
			}
		}
	}
}

func TestTextComesBack(t *testing.T) {
	for _, s := range textSamples() {
		b := impl.PutText([]byte("one"), s)
		for _, behind := range []string{"", "behind"} {
			got, next, ok := impl.GetText([]byte(string(b)+behind), 3)
			if got != s || next != len(b) || !ok {
				t.Errorf("%q: %q %d %v", s, got, next, ok)
			}
		}
	}
}

func TestTextWrong(t *testing.T) {
	for _, s := range []string{
		"", "\x80", "\x80\x00", // no number
		"\x01", "\x01a", "\x03ab", "\xff\xa7\xd6\xb9\x07a", // below 0
		"\x02", "\x04a", "\x80\x01" + strings.Repeat("y", 63), "\x80\xa8\xd6\xb9\x07a", // past the end
		"\x82\xa8\xd6\xb9\x07a", // beyond MaxNum
	} {
		refusesText(t, []byte(s), 0)
		refusesText(t, []byte("ab"+s), 2)
	}
	b := []byte{2, 'a', 0}
	for _, at := range wrongPlaces(b) {
		refusesText(t, b, at)
	}
	refusesText(t, nil, 0)
}

func TestTextCutShort(t *testing.T) {
	for _, s := range []string{"", "a", "abc", strings.Repeat("y", 64)} {
		b := impl.PutText(nil, s)
		for k := range b {
			refusesText(t, b[:k], 0)
		}
	}
}

func manyNames(n int) []string {
	l := make([]string, n)
	for i := range l {
		l[i] = "n" + strconv.Itoa(1000+i)
	}
	return l
}

func TestNamesBytes(t *testing.T) {
	for _, x := range []struct {
		l    []string
		want string
	}{
		{nil, "\x00"}, {[]string{}, "\x00"}, {[]string{""}, "\x02\x00"}, {[]string{"a", "bc"}, "\x04\x02a\x04bc"}, {[]string{"b", "a", "a"}, "\x06\x02b\x02a\x02a"},
	} {
		for _, ahead := range []string{"", "ahead"} {
			if b := impl.PutNames([]byte(ahead), x.l); string(b) != ahead+x.want {
				t.Errorf("PutNames(%q, %q): %x", ahead, x.l, b)
			}
		}
	}
	// What is put is not bounded: only what is read back is.
	if b := impl.PutNames(nil, manyNames(101)); string(b[:2]) != "\xca\x01" || len(b) != 2+101*6 {
		t.Errorf("101 names: %d bytes", len(b))
	}
}

func TestNamesComeBack(t *testing.T) {
	for _, l := range [][]string{nil, {"a"}, {"a", "bc", "d9"}, {"", ""}, {"b", "a", "a"}, {"no name", "\xff"}, textSamples(), manyNames(20), manyNames(99), manyNames(100)} {
		b := impl.PutNames([]byte("one"), l)
		for _, behind := range []string{"", "behind"} {
			got, next, ok := impl.GetNames([]byte(string(b)+behind), 3)
			if !slices.Equal(got, l) || next != len(b) || !ok {
				t.Errorf("%q: %q %d %v", l, got, next, ok)
			}
		}
	}
}

func TestNamesWrong(t *testing.T) {
	refusesNames(t, impl.PutNames(nil, manyNames(101)), 0)
	refusesNames(t, impl.PutNames(nil, make([]string, 101)), 0)
	for _, s := range []string{
		"", "\x80", "\x84\x00\x02a\x02b", // no number
		"\x01", "\x03\x02a", // below 0
		"\x02", "\x04\x02a", "\x80\xa8\xd6\xb9\x07\x02a", // past the end
		"\x82\xa8\xd6\xb9\x07",              // beyond MaxNum
		"\x02\x01", "\x02\x04a", "\x02\x80", // a text that is none
		"\x04\x02a\x01", "\x04\x02a\x04b", "\x04\x01\x02a",
	} {
		refusesNames(t, []byte(s), 0)
		refusesNames(t, []byte("ab"+s), 2)
	}
	b := []byte{2, 2, 'a', 0}
	for _, at := range wrongPlaces(b) {
		refusesNames(t, b, at)
	}
	refusesNames(t, nil, 0)
}

func TestNamesCutShort(t *testing.T) {
	for _, l := range [][]string{nil, {""}, {"a", "bc", "d9"}, manyNames(100)} {
		b := impl.PutNames(nil, l)
		for k := range b {
			refusesNames(t, b[:k], 0)
		}
	}
}

func TestNameOk(t *testing.T) {
	for c := range 256 {
		want := c >= 'a' && c <= 'z' || c >= '0' && c <= '9'
		one := string([]byte{byte(c)})
		for _, s := range []string{one, "a" + one, one + "9", "abc" + one + "0123"} {
			if impl.NameOk(s) != want {
				t.Errorf("%q: %v", s, !want)
			}
		}
	}
	for n := range 20 {
		if want := n >= 1 && n <= 8; impl.NameOk(strings.Repeat("q", n)) != want {
			t.Errorf("%d bytes: %v", n, !want)
		}
	}
	for _, s := range []string{"é", "ａ", "a b", " a", "a\n", "a-b", "Ab", "a_"} {
		if impl.NameOk(s) {
			t.Errorf("%q", s)
		}
	}
}

func TestNamesOk(t *testing.T) {
	for _, l := range [][]string{nil, {}, {"a"}, {"a", "b"}, {"a", "aa", "ab", "b"}, {"0", "9", "a", "z"}, {"10", "9"}, {"a1b2c3d4", "b"}, manyNames(19), manyNames(20)} {
		if !impl.NamesOk(l) {
			t.Errorf("%q", l)
		}
	}
	swapped := manyNames(20)
	swapped[18], swapped[19] = swapped[19], swapped[18]
	for _, l := range [][]string{
		{""}, {"", "a"}, {"A"}, {"a", "B"}, {"a", "b", "c-"}, {"a1b2c3d4e"}, // no names
		{"b", "a"}, {"a", "c", "b"}, {"aa", "a"}, {"a", "9"}, swapped, // not ascending
		{"a", "a"}, {"a", "b", "b"}, // two alike
		manyNames(21), manyNames(100), // too many
	} {
		if impl.NamesOk(l) {
			t.Errorf("%q", l)
		}
	}
}

// puts are the ways to write behind bytes, each with something and with as little as it takes.
func puts() []func([]byte) []byte {
	return []func([]byte) []byte{
		func(b []byte) []byte { return impl.PutNum(b, 5) },
		func(b []byte) []byte { return impl.PutText(b, "abc") },
		func(b []byte) []byte { return impl.PutText(b, "") },
		func(b []byte) []byte { return impl.PutNames(b, []string{"a", "bc"}) },
		func(b []byte) []byte { return impl.PutNames(b, nil) },
	}
}

func TestPutsLeaveTheirArgument(t *testing.T) {
	for i, put := range puts() {
		for _, size := range []int{0, 1, 3} {
			room := bytes.Repeat([]byte{0xee}, 64)
			out := put(room[:size])
			first := bytes.Clone(out)
			if !bytes.Equal(room, bytes.Repeat([]byte{0xee}, 64)) {
				t.Errorf("put %d of %d bytes wrote into %x", i, size, room)
			}
			for k := range room {
				room[k] = 1
			}
			if !bytes.Equal(out, first) {
				t.Errorf("put %d of %d bytes shares its answer", i, size)
			}
			out = out[:cap(out)]
			for k := range out {
				out[k] = 2
			}
			if !bytes.Equal(room, bytes.Repeat([]byte{1}, 64)) {
				t.Errorf("put %d of %d bytes hands out the spare room", i, size)
			}
		}
	}
}

func TestPutsTwiceBehindTheSame(t *testing.T) {
	for i, put := range puts() {
		b := append(make([]byte, 0, 64), "ab"...)
		one := put(b)
		want := bytes.Clone(one)
		impl.PutNum(b, impl.MaxNum)
		impl.PutNum(one[:2], impl.MaxNum)
		if !bytes.Equal(one, want) {
			t.Errorf("put %d: %x, not %x", i, one, want)
		}
	}
}

func TestNamesLeaveTheirList(t *testing.T) {
	room := []string{"b", "a", "c", "c"}
	impl.PutNames(nil, room[:2])
	impl.NamesOk(room[:2])
	if !slices.Equal(room, []string{"b", "a", "c", "c"}) {
		t.Error("changed", room)
	}
	if !impl.NamesOk([]string{"a", "b", "a"}[:2]) {
		t.Error("what lies behind the list was read")
	}
}

func TestGetsLeaveTheirArgument(t *testing.T) {
	b := impl.PutNames(impl.PutText(impl.PutNum(nil, 70), "text"), []string{"a", "bc"})
	kept := bytes.Clone(b)
	n, at, _ := impl.GetNum(b, 0)
	s, at, _ := impl.GetText(b, at)
	l, at, _ := impl.GetNames(b, at)
	if !bytes.Equal(b, kept) || at != len(b) {
		t.Errorf("changed: %x, %d", b, at)
	}
	clear(b)
	if n != 70 || s != "text" || !slices.Equal(l, []string{"a", "bc"}) {
		t.Errorf("shared: %d %q %q", n, s, l)
	}
	again, _, _ := impl.GetNames(kept, 7)
	again[0] = "x"
	if other, _, _ := impl.GetNames(kept, 7); !slices.Equal(other, []string{"a", "bc"}) {
		t.Errorf("kept from one call to another: %q", other)
	}
}

func TestGetsReadNothingBehindTheLength(t *testing.T) {
	text := impl.PutText(nil, "abc")
	names := impl.PutNames(nil, []string{"a", "bc"})
	for k := range text {
		refusesText(t, text[:k:len(text)], 0)
	}
	for k := range names {
		refusesNames(t, names[:k:len(names)], 0)
	}
}

func TestGetsAnswerAtAnyBytesAndPlaces(t *testing.T) {
	r := rand.New(rand.NewSource(2))
	for range 20000 {
		b := make([]byte, r.Intn(12))
		for i := range b {
			b[i] = byte(r.Intn(9))
			if r.Intn(4) == 0 {
				b[i] = byte(r.Intn(256))
			}
		}
		for at := -2; at <= len(b)+2; at++ {
			checkTextAt(t, b, at)
			checkNamesAt(t, b, at)
		}
	}
}

// checkTextAt: what is read is what PutText would have put there, else nothing.
func checkTextAt(t *testing.T, b []byte, at int) {
	t.Helper()
	s, next, ok := impl.GetText(b, at)
	if !ok {
		refusesText(t, b, at)
	} else if next > len(b) || !bytes.Equal(impl.PutText(b[:at], s), b[:next]) {
		t.Fatalf("GetText(%x, %d): %q %d", b, at, s, next)
	}
}

func checkNamesAt(t *testing.T, b []byte, at int) {
	t.Helper()
	l, next, ok := impl.GetNames(b, at)
	if !ok {
		refusesNames(t, b, at)
	} else if next > len(b) || !bytes.Equal(impl.PutNames(b[:at], l), b[:next]) {
		t.Fatalf("GetNames(%x, %d): %q %d", b, at, l, next)
	}
}
