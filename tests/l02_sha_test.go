package tests

import (
	"bytes"
	"crypto/sha256"
	"encoding/binary"
	"encoding/hex"
	"math/rand"
	"strings"
	"testing"

	"loop.example/g00194/impl"
)

// countedBytes are bytes of which hardly any block is like another.
func countedBytes(n int) []byte {
	b := make([]byte, n)
	for i := range b {
		b[i] = byte(i*7 + i/251)
	}
	return b
}

func TestPaddedLengths(t *testing.T) {
	for _, x := range []struct{ n, want int }{
		{0, 64}, {1, 64}, {3, 64}, {54, 64}, {55, 64},
		{56, 128}, {57, 128}, {63, 128}, {64, 128}, {65, 128}, {118, 128}, {119, 128},
		{120, 192}, {127, 192}, {128, 192}, {183, 192}, {184, 256}, {1015, 1024}, {1016, 1088},
	} {
		if got := len(impl.Padded(make([]byte, x.n))); got != x.want {
			t.Errorf("%d bytes: padded to %d, not %d", x.n, got, x.want)
		}
	}
}

// checkPadded holds each part of Padded against what the document says of it.
func checkPadded(t *testing.T, b []byte) {
	t.Helper()
	p := impl.Padded(b)
	if len(p)%64 != 0 || len(p) < len(b)+9 || len(p)-64 >= len(b)+9 {
		t.Fatalf("%d bytes: padded to %d", len(b), len(p))
	}
	if !bytes.Equal(p[:len(b)], b) || p[len(b)] != 128 {
		t.Fatalf("%d bytes: begins %x", len(b), p[:len(b)+1])
	}
	if zeros := p[len(b)+1 : len(p)-8]; len(bytes.Trim(zeros, "\x00")) != 0 {
		t.Fatalf("%d bytes: no zeros %x", len(b), zeros)
	}
	if bits := binary.BigEndian.Uint64(p[len(p)-8:]); bits != uint64(len(b))*8 {
		t.Fatalf("%d bytes: %d bits", len(b), bits)
	}
}

func TestPaddedParts(t *testing.T) {
	checkPadded(t, nil)
	for n := range 400 {
		checkPadded(t, countedBytes(n))
		checkPadded(t, bytes.Repeat([]byte{128}, n))
		checkPadded(t, bytes.Repeat([]byte{0xff}, n))
	}
	// From here on the count of bits takes two, three and four bytes.
	for _, n := range []int{8191, 8192, 8193, 2097151, 2097152} {
		checkPadded(t, countedBytes(n))
	}
}

func TestPaddedBytes(t *testing.T) {
	zeros := strings.Repeat("\x00", 64)
	for _, x := range []struct{ b, want string }{
		{"", "\x80" + zeros[:63]},
		{"abc", "abc\x80" + zeros[:52] + zeros[:7] + "\x18"},
		{zeros[:55], zeros[:55] + "\x80" + zeros[:6] + "\x01\xb8"},
		{zeros[:56], zeros[:56] + "\x80" + zeros[:7] + zeros[:56] + zeros[:6] + "\x01\xc0"},
		{zeros[:63], zeros[:63] + "\x80" + zeros[:56] + zeros[:6] + "\x01\xf8"},
		{zeros[:64], zeros[:64] + "\x80" + zeros[:55] + zeros[:6] + "\x02\x00"},
		{zeros + zeros[:55], zeros + zeros[:55] + "\x80" + zeros[:6] + "\x03\xb8"},
		{zeros + zeros[:56], zeros + zeros[:56] + "\x80" + zeros[:7] + zeros[:56] + zeros[:6] + "\x03\xc0"},
	} {
		if p := impl.Padded([]byte(x.b)); string(p) != x.want {
			t.Errorf("%d bytes: %x", len(x.b), p)
		}
	}
}

func TestDigestKnown(t *testing.T) {
	for _, x := range []struct{ b, want string }{
		{"", "e3b0c44298fc1c149afbf4c8996fb92427ae41e4649b934ca495991b7852b855"},
		{"a", "ca978112ca1bbdcafac231b39a23dc4da786eff8147c4e72b9807785afee48bb"},
		{"abc", "ba7816bf8f01cfea414140de5dae2223b00361a396177a9cb410ff61f20015ad"},
		{"The quick brown fox jumps over the lazy dog", "d7a8fbb307d7809469ca9abcb0082e4f8d5651e46d3cdb762d02d0bf37c9e592"},
		{"abcdbcdecdefdefgefghfghighijhijkijkljklmklmnlmnomnopnopq", "248d6a61d20638b8e5c026930c3e6039a33ce45964ff2167f6ecedd419db06c1"},
		{"abcdefghbcdefghicdefghijdefghijkefghijklfghijklmghijklmnhijklmnoijklmnopjklmnopqklmnopqrlmnopqrsmnopqrstnopqrstu",
			"cf5b16a778af8380036ce59e7b0492370b249b11e8f07a51afac45037afee9d1"},
		{strings.Repeat("a", 1000000), "cdc76e5c9914fb9281a1c7e284d73e67f1809a48a497200e046d39ccc7112cd0"},
	} {
		if got := hex.EncodeToString([]byte(impl.Digest([]byte(x.b)))); got != x.want {
			t.Errorf("%d bytes: %s, not %s", len(x.b), got, x.want)
		}
	}
	if impl.Digest(nil) != impl.Digest([]byte{}) {
		t.Error("no bytes at all are not the same as nil")
	}
}

func checkDigest(t *testing.T, b []byte) {
	t.Helper()
	want := sha256.Sum256(b)
	if got := impl.Digest(b); got != string(want[:]) {
		t.Fatalf("%x: %x, not %x", b, got, want)
	}
}

func TestDigestOfEveryLength(t *testing.T) {
	for n := range 400 {
		checkDigest(t, countedBytes(n))
		checkDigest(t, make([]byte, n))
		checkDigest(t, bytes.Repeat([]byte{0xff}, n))
	}
	checkDigest(t, countedBytes(100000))
}

func TestDigestOfAnyBytes(t *testing.T) {
	r := rand.New(rand.NewSource(3))
	for range 3000 {
		b := make([]byte, r.Intn(300))
		r.Read(b)
		checkDigest(t, b)
	}
}

func TestDigestHas32Bytes(t *testing.T) {
	seen := map[string]int{}
	for n := range 300 {
		d := impl.Digest(make([]byte, n))
		if len(d) != 32 {
			t.Fatalf("%d bytes: a digest of %d", n, len(d))
		}
		if other, was := seen[d]; was {
			t.Fatalf("%d and %d bytes: one digest", other, n)
		}
		seen[d] = n
	}
}

func TestHexOfEveryByte(t *testing.T) {
	for c := range 256 {
		s := string([]byte{byte(c)})
		want := hex.EncodeToString([]byte(s))
		if h := impl.HexOf(s); h != want {
			t.Errorf("%d: %q", c, h)
		}
		if back, ok := impl.UnHex(want); back != s || !ok {
			t.Errorf("%q: %q %v", want, back, ok)
		}
	}
}

func TestHexOfTexts(t *testing.T) {
	all := make([]byte, 256)
	for i := range all {
		all[i] = byte(i)
	}
	for _, x := range []struct{ s, want string }{
		{"", ""}, {"\x00", "00"}, {"\x00\xff\x1a", "00ff1a"}, {"abc", "616263"}, {"né ✓", "6ec3a920e29c93"}, {"\x0a\xa0", "0aa0"}, {"\xc3\x28", "c328"},
		{string(all), hex.EncodeToString(all)}, {impl.Digest(nil), "e3b0c44298fc1c149afbf4c8996fb92427ae41e4649b934ca495991b7852b855"},
	} {
		if h := impl.HexOf(x.s); h != x.want {
			t.Errorf("HexOf(%q): %q", x.s, h)
		}
		if s, ok := impl.UnHex(x.want); s != x.s || !ok {
			t.Errorf("UnHex(%q): %q %v", x.want, s, ok)
		}
	}
}

func refusesHex(t *testing.T, s string) {
	t.Helper()
	if got, ok := impl.UnHex(s); got != "" || ok {
		t.Errorf("UnHex(%q): %q %v", s, got, ok)
	}
}

func isHexByte(c int) bool {
	return strings.IndexByte("0123456789abcdef", byte(c)) >= 0
}

func TestUnHexWrongBytes(t *testing.T) {
	const digits = "00ff1a9b"
	for c := range 256 {
		if isHexByte(c) {
			continue
		}
		for at := range digits {
			refusesHex(t, digits[:at]+string([]byte{byte(c)})+digits[at+1:])
		}
	}
	for _, s := range []string{"AA", "aA", "Aa", "0F", "00FF1A", "0g", "g0", " 0", "0 ", "0x", "0x00", "-1", "00\n0", "é", "１", "００"} {
		refusesHex(t, s)
	}
}

func TestUnHexOddNumber(t *testing.T) {
	for n := 1; n < 80; n += 2 {
		refusesHex(t, strings.Repeat("a", n))
	}
	for _, s := range []string{"0", "f", "00f", "00ff1", "x", "0g0", " ff"} {
		refusesHex(t, s)
	}
}

func TestUnHexOfAnyText(t *testing.T) {
	r := rand.New(rand.NewSource(4))
	const letters = "0123456789abcdefABCFg/:`@"
	for range 20000 {
		b := make([]byte, r.Intn(7))
		for i := range b {
			b[i] = letters[r.Intn(len(letters))]
			if r.Intn(3) > 0 {
				b[i] = letters[r.Intn(16)]
			}
		}
		want, err := hex.DecodeString(strings.ToLower(string(b)))
		right := err == nil && strings.ToLower(string(b)) == string(b)
		if !right {
			refusesHex(t, string(b))
		} else if s, ok := impl.UnHex(string(b)); s != string(want) || !ok {
			t.Errorf("UnHex(%q): %q %v", b, s, ok)
		}
	}
}

func TestPaddedLeavesItsArgument(t *testing.T) {
	for _, size := range []int{0, 1, 55, 56, 63, 64, 119, 120} {
		untouched := bytes.Repeat([]byte{0xee}, 300)
		room := bytes.Clone(untouched)
		p := impl.Padded(room[:size])
		first := bytes.Clone(p)
		if !bytes.Equal(room, untouched) {
			t.Errorf("%d bytes: wrote into the argument or behind it", size)
		}
		clear(room)
		if !bytes.Equal(p, first) {
			t.Errorf("%d bytes: the answer shares memory with the argument", size)
		}
		p = p[:cap(p)]
		for i := range p {
			p[i] = 1
		}
		if !bytes.Equal(room, make([]byte, len(room))) {
			t.Errorf("%d bytes: the argument is handed out", size)
		}
	}
}

func TestDigestLeavesItsArgument(t *testing.T) {
	for _, size := range []int{0, 1, 55, 56, 64, 120} {
		room := bytes.Repeat([]byte{0xee}, 300)
		got := impl.Digest(room[:size])
		if !bytes.Equal(room, bytes.Repeat([]byte{0xee}, 300)) {
			t.Errorf("%d bytes: wrote into the argument or behind it", size)
		}
		want := sha256.Sum256(bytes.Repeat([]byte{0xee}, size))
		clear(room)
		if got != string(want[:]) {
			t.Errorf("%d bytes: %x, not %x", size, got, want)
		}
	}
}

func TestDigestsKeepNothing(t *testing.T) {
	one, padded := impl.Digest([]byte("abc")), impl.Padded([]byte("abc"))
	kept := bytes.Clone(padded)
	impl.Digest(countedBytes(1000))
	clear(impl.Padded([]byte("abc")))
	impl.UnHex("0g")
	if !bytes.Equal(padded, kept) {
		t.Error("two answers of Padded share memory")
	}
	if again := impl.Digest([]byte("abc")); again != one {
		t.Errorf("the second time: %x, not %x", again, one)
	}
	if again := impl.Padded([]byte("abc")); !bytes.Equal(again, kept) {
		t.Errorf("the second time: %x, not %x", again, kept)
	}
}
