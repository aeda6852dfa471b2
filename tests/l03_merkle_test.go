package tests

import (
	"crypto/sha256"
	"encoding/hex"
	"fmt"
	"math"
	"math/rand"
	"slices"
	"strings"
	"testing"

	"loop.example/g00194/impl"
)

func shaOf(parts ...string) string {
	sum := sha256.Sum256([]byte(strings.Join(parts, "")))
	return string(sum[:])
}

func leafOf(s string) string    { return shaOf("\x00", s) }
func pairOf(a, b string) string { return shaOf("\x01", a, b) }

// A step is a part of a path, and whether it stands ahead of what it is joined with.
type step struct {
	part  string
	ahead bool
}

// layersOf goes another way than the document: pairs of neighbours, layer by layer; who has no neighbour goes up alone.
func layersOf(l []string, i int) (string, []step) {
	var layer []string
	for _, s := range l {
		layer = append(layer, leafOf(s))
	}
	var steps []step
	for ; len(layer) > 1; i /= 2 {
		if other := i ^ 1; other < len(layer) {
			steps = append(steps, step{layer[other], other < i})
		}
		var above []string
		for at := 0; at < len(layer); at += 2 {
			if at+1 < len(layer) {
				above = append(above, pairOf(layer[at], layer[at+1]))
			} else {
				above = append(above, layer[at])
			}
		}
		layer = above
	}
	return layer[0], steps
}

func partsOf(steps []step) []string {
	var l []string
	for _, x := range steps {
		l = append(l, x.part)
	}
	return l
}

// checkWanted: what CheckPath must answer, by the layers of n places.
func checkWanted(s string, i int, n int, path []string, root string) bool {
	if n < 1 || n > 64 || i < 0 || i >= n {
		return false
	}
	_, steps := layersOf(make([]string, n), i)
	if len(steps) != len(path) {
		return false
	}
	sum := leafOf(s)
	for k, x := range steps {
		if x.ahead {
			sum = pairOf(path[k], sum)
		} else {
			sum = pairOf(sum, path[k])
		}
	}
	return sum == root
}

// countedTexts are texts of which no two are alike, the first one empty.
func countedTexts(n int) []string {
	l := make([]string, n)
	for i := range l {
		l[i] = string(countedBytes(i * 3))
	}
	return l
}

// someTexts: n texts, each unlike the others, all empty, and all the same.
func someTexts(n int) [][]string {
	same := make([]string, n)
	for i := range same {
		same[i] = "same"
	}
	return [][]string{countedTexts(n), make([]string, n), same}
}

func wantCheck(t *testing.T, want bool, s string, i int, n int, path []string, root string) {
	t.Helper()
	if got := impl.CheckPath(s, i, n, path, root); got != want {
		t.Errorf("CheckPath(%q, %d, %d, %d parts, %x): %v", s, i, n, len(path), root, got)
	}
}

func TestMarkedDigests(t *testing.T) {
	for _, s := range append(textSamples(), countedTexts(40)...) {
		if impl.LeafDigest(s) != leafOf(s) {
			t.Errorf("LeafDigest(%q): %x", s, impl.LeafDigest(s))
		}
		for _, b := range []string{"", "x", leafOf("x"), s} {
			if impl.NodeDigest(s, b) != pairOf(s, b) || impl.NodeDigest(b, s) != pairOf(b, s) {
				t.Errorf("NodeDigest of %q and %q", s, b)
			}
		}
	}
	if impl.LeafDigest("") == impl.Digest(nil) || impl.NodeDigest("", "") == impl.LeafDigest("") {
		t.Error("a mark is missing")
	}
	if impl.NodeDigest("a", "b") == impl.NodeDigest("b", "a") {
		t.Error("the order of two parts does not count")
	}
}

func TestRootsKnown(t *testing.T) {
	l := []string{"", "\x00", "\x10", "\x20\x21", "\x30\x31", "\x40\x41\x42\x43", "\x50\x51\x52\x53\x54\x55\x56\x57", "\x60\x61\x62\x63\x64\x65\x66\x67\x68\x69\x6a\x6b\x6c\x6d\x6e\x6f"}
	for n, want := range []string{
		"e3b0c44298fc1c149afbf4c8996fb92427ae41e4649b934ca495991b7852b855",
		"6e340b9cffb37a989ca544e6bb780a2c78901d3fb33738768511a30617afa01d",
		"fac54203e7cc696cf0dfcb42c92a1d9dbaf70ad9e621f4bd8d98662f00e3c125",
		"aeb6bcfe274b70a14fb067a5e5578264db0fa9b51af5e0ba159158f329e06e77",
		"d37ee418976dd95753c1c73862b9398fa2a2cf9b4ff0fdfe8b30cd95209614b7",
		"4e3bbb1f7b478dcfe71fb631631519a3bca12c9aefca1612bfce4c13a86264d4",
		"76e67dadbcdf1e10e1b74ddc608abd2f98dfb16fbce75277b5232a127f2087ef",
		"ddb89be403809e325750d3d263cd78929c2942b7942a34b77e122c9594a74c8c",
		"5dc9da79a70659a9ad559cb701ded9a2ab9d823aad2f4960cfe370eff4604328",
	} {
		if got := hex.EncodeToString([]byte(impl.RootOf(l[:n]))); got != want {
			t.Errorf("%d texts: %s, not %s", n, got, want)
		}
	}
}

func TestRootsPartByPart(t *testing.T) {
	l := []string{"a", "b", "", "d", "e", "f", "a"}
	var leaf []string
	for _, s := range l {
		leaf = append(leaf, leafOf(s))
	}
	ab, cd, ef := pairOf(leaf[0], leaf[1]), pairOf(leaf[2], leaf[3]), pairOf(leaf[4], leaf[5])
	four := pairOf(ab, cd)
	for n, want := range []string{
		shaOf(), leaf[0], ab, pairOf(ab, leaf[2]), four, pairOf(four, leaf[4]), pairOf(four, ef), pairOf(four, pairOf(ef, leaf[6])),
	} {
		if got := impl.RootOf(l[:n]); got != want {
			t.Errorf("%d texts: %x, not %x", n, got, want)
		}
	}
	if impl.RootOf(nil) != shaOf() || impl.RootOf([]string{}) != shaOf() || impl.RootOf([]string{""}) != shaOf("\x00") {
		t.Error("no texts, or one of no bytes")
	}
}

func TestPathsPartByPart(t *testing.T) {
	l := []string{"a", "b", "c", "d", "e", "f", "g"}
	var leaf []string
	for _, s := range l {
		leaf = append(leaf, leafOf(s))
	}
	ab, cd, ef := pairOf(leaf[0], leaf[1]), pairOf(leaf[2], leaf[3]), pairOf(leaf[4], leaf[5])
	four := pairOf(ab, cd)
	for _, x := range []struct {
		n, i int
		want []string
	}{
		{1, 0, nil},
		{2, 0, []string{leaf[1]}}, {2, 1, []string{leaf[0]}},
		{3, 0, []string{leaf[1], leaf[2]}}, {3, 1, []string{leaf[0], leaf[2]}}, {3, 2, []string{ab}},
		{4, 3, []string{leaf[2], ab}},
		{5, 0, []string{leaf[1], cd, leaf[4]}}, {5, 4, []string{four}},
		{6, 2, []string{leaf[3], ab, ef}}, {6, 4, []string{leaf[5], four}}, {6, 5, []string{leaf[4], four}},
		{7, 1, []string{leaf[0], cd, pairOf(ef, leaf[6])}}, {7, 4, []string{leaf[5], leaf[6], four}}, {7, 6, []string{ef, four}},
	} {
		if got := impl.PathOf(l[:x.n], x.i); !slices.Equal(got, x.want) {
			t.Errorf("the path of %d of %d: %x, not %x", x.i, x.n, got, x.want)
		}
	}
}

func TestRootsOfEveryNumber(t *testing.T) {
	for n := 1; n <= impl.MaxLeaves; n++ {
		for _, l := range someTexts(n) {
			want, _ := layersOf(l, 0)
			if got := impl.RootOf(l); got != want {
				t.Errorf("%d texts: %x, not %x", n, got, want)
			}
		}
	}
	if impl.MaxLeaves != 64 {
		t.Error("MaxLeaves:", impl.MaxLeaves)
	}
}

// The promise itself: each text of each number of them has its path, and that is right.
func TestEachTextHasItsPath(t *testing.T) {
	for n := 1; n <= impl.MaxLeaves; n++ {
		for _, l := range someTexts(n) {
			root := impl.RootOf(l)
			for i, s := range l {
				path := impl.PathOf(l, i)
				if _, steps := layersOf(l, i); !slices.Equal(path, partsOf(steps)) {
					t.Fatalf("the path of %d of %d: %x", i, n, path)
				}
				wantCheck(t, true, s, i, n, path, root)
			}
		}
	}
}

func TestPathsOfAnyTexts(t *testing.T) {
	r := rand.New(rand.NewSource(5))
	for range 300 {
		l := make([]string, 1+r.Intn(impl.MaxLeaves))
		for i := range l {
			b := make([]byte, r.Intn(80))
			r.Read(b)
			l[i] = string(b)
		}
		i := r.Intn(len(l))
		root, steps := layersOf(l, i)
		if impl.RootOf(l) != root || !slices.Equal(impl.PathOf(l, i), partsOf(steps)) {
			t.Fatalf("%d of %d texts", i, len(l))
		}
		wantCheck(t, true, l[i], i, len(l), impl.PathOf(l, i), root)
	}
}

func TestTooManyTexts(t *testing.T) {
	for _, n := range []int{65, 66, 127, 128, 129, 1000} {
		for _, l := range someTexts(n) {
			if got := impl.RootOf(l); got != "" {
				t.Errorf("the root of %d texts: %x", n, got)
			}
			for _, i := range []int{-1, 0, 1, 63, 64, n - 1, n} {
				if got := impl.PathOf(l, i); len(got) != 0 {
					t.Errorf("the path of %d of %d: %x", i, n, got)
				}
			}
		}
	}
}

func wrongLeaves(n int) []int {
	return []int{-1, -2, -n, math.MinInt, n, n + 1, 2 * n, 64, 65, math.MaxInt}
}

func TestNoSuchText(t *testing.T) {
	for n := 0; n <= impl.MaxLeaves; n++ {
		l := countedTexts(n)
		for _, i := range wrongLeaves(n) {
			if i >= 0 && i < n {
				continue
			}
			if got := impl.PathOf(l, i); len(got) != 0 {
				t.Errorf("the path of %d of %d: %x", i, n, got)
			}
			wantCheck(t, false, "", i, n, impl.PathOf(l, max(n-1, 0)), impl.RootOf(l))
			wantCheck(t, false, "", i, n, nil, impl.LeafDigest(""))
		}
	}
}

func TestCheckWrongNumber(t *testing.T) {
	l := countedTexts(64)
	root, path := impl.RootOf(l), impl.PathOf(l, 0)
	for _, n := range []int{0, -1, -64, math.MinInt, 65, 66, 128, math.MaxInt} {
		wantCheck(t, false, l[0], 0, n, path, root)
		wantCheck(t, false, "", 0, n, nil, impl.LeafDigest(""))
		wantCheck(t, false, "", 0, n, nil, impl.RootOf(nil))
		wantCheck(t, false, "", 0, n, nil, "")
	}
	// 65 texts have a root as any number has; only the limit refuses it.
	more := countedTexts(65)
	long, steps := layersOf(more, 64)
	wantCheck(t, false, more[64], 64, 65, partsOf(steps), long)
	wantCheck(t, true, l[63], 63, 64, impl.PathOf(l, 63), root)
}

// spoiltPaths: the path with one part more, less, changed, or not of 32 bytes, at each of its places.
func spoiltPaths(path []string) [][]string {
	var out [][]string
	some := leafOf("some")
	for at := 0; at <= len(path); at++ {
		out = append(out, slices.Insert(slices.Clone(path), at, some), slices.Insert(slices.Clone(path), at, ""))
	}
	for at, part := range path {
		out = append(out, slices.Delete(slices.Clone(path), at, at+1))
		flipped := []byte(part)
		flipped[at%32] ^= 1
		for _, other := range []string{some, string(flipped), "", part[:31], part[1:], part + "\x00", "\x00" + part, part + part, hex.EncodeToString([]byte(part))} {
			changed := slices.Clone(path)
			changed[at] = other
			out = append(out, changed)
		}
	}
	return append(out, slices.Concat(path, path, []string{some}), slices.Repeat([]string{some}, 1000))
}

func TestCheckSpoiltPath(t *testing.T) {
	for n := 1; n <= impl.MaxLeaves; n++ {
		l := countedTexts(n)
		root := impl.RootOf(l)
		for _, i := range []int{0, n / 3, n / 2, n - 1} {
			path := impl.PathOf(l, i)
			for _, spoilt := range spoiltPaths(path) {
				wantCheck(t, false, l[i], i, n, spoilt, root)
			}
			if len(path) > 0 {
				wantCheck(t, false, l[i], i, n, nil, root)
			}
		}
	}
}

func TestCheckPartsOutOfOrder(t *testing.T) {
	for _, n := range []int{3, 5, 7, 8, 13, 64} {
		l := countedTexts(n)
		path := impl.PathOf(l, 0)
		for at := 1; at < len(path); at++ {
			swapped := slices.Clone(path)
			swapped[at-1], swapped[at] = swapped[at], swapped[at-1]
			wantCheck(t, false, l[0], 0, n, swapped, impl.RootOf(l))
		}
	}
}

func TestCheckAnotherRoot(t *testing.T) {
	for n := 1; n <= impl.MaxLeaves; n++ {
		l := countedTexts(n)
		root := impl.RootOf(l)
		flipped := []byte(root)
		flipped[n%32] ^= 128
		shorter := impl.RootOf(l[:n-1])
		for i, s := range l {
			path := impl.PathOf(l, i)
			for _, other := range []string{"", string(flipped), root[:31], root[1:], root + "\x00", "\x00" + root, impl.RootOf(nil), hex.EncodeToString([]byte(root)), shorter} {
				wantCheck(t, false, s, i, n, path, other)
			}
		}
	}
}

func TestCheckAnotherText(t *testing.T) {
	for n := 1; n <= impl.MaxLeaves; n++ {
		l := countedTexts(n)
		root := impl.RootOf(l)
		for i, s := range l {
			path := impl.PathOf(l, i)
			for _, other := range []string{s + "\x00", "\x00" + s, "other", l[(i+1)%n]} {
				wantCheck(t, other == s, other, i, n, path, root)
			}
		}
	}
}

// Digests that are handed in as a text don't pass for the part that is made of them.
func TestCheckTextOfDigests(t *testing.T) {
	l := []string{"a", "b", "c", "d"}
	left, right := impl.RootOf(l[:2]), impl.RootOf(l[2:])
	root := impl.RootOf(l)
	for _, s := range []string{left, "\x01" + left, leafOf("a") + leafOf("b"), "\x01" + leafOf("a") + leafOf("b")} {
		wantCheck(t, false, s, 0, 2, []string{right}, root)
	}
	for _, s := range []string{root, left + right, "\x01" + left + right, ""} {
		wantCheck(t, false, s, 0, 1, nil, root)
	}
}

// Other places and other numbers: right only where the steps to the root are the same ones.
func TestCheckAnotherPlace(t *testing.T) {
	for _, n := range []int{1, 2, 3, 4, 5, 6, 7, 8, 11, 16, 31, 33, 63, 64} {
		for _, l := range someTexts(n) {
			root := impl.RootOf(l)
			for _, i := range []int{0, n / 2, n - 1} {
				path := impl.PathOf(l, i)
				for otherN := -1; otherN <= 66; otherN++ {
					for otherI := -1; otherI <= otherN+1; otherI += 1 + otherN/8 {
						wantCheck(t, checkWanted(l[i], otherI, otherN, path, root), l[i], otherI, otherN, path, root)
					}
				}
			}
		}
	}
}

func TestCheckAnotherPlaceOfTheSameTexts(t *testing.T) {
	for n := 2; n <= impl.MaxLeaves; n++ {
		l := countedTexts(n)
		root := impl.RootOf(l)
		for i := range l {
			path := impl.PathOf(l, i)
			for _, other := range []int{i - 1, i + 1, n - 1 - i, i ^ 1} {
				wantCheck(t, other == i, l[i], other, n, path, root)
			}
		}
	}
}

// The document bounds how many parts there are, not how long one is: a root that is made with a short part has that path.
func TestCheckPartsOfAnyLength(t *testing.T) {
	for _, part := range []string{"", "x", strings.Repeat("y", 31), strings.Repeat("z", 33), strings.Repeat("q", 500)} {
		wantCheck(t, true, "s", 0, 2, []string{part}, pairOf(leafOf("s"), part))
		wantCheck(t, true, "s", 1, 2, []string{part}, pairOf(part, leafOf("s")))
		// On which side a part of no bytes stands makes no difference.
		wantCheck(t, part == "", "s", 1, 2, []string{part}, pairOf(leafOf("s"), part))
		wantCheck(t, true, "s", 2, 3, []string{part}, pairOf(part, leafOf("s")))
	}
}

func TestCheckOfAnything(t *testing.T) {
	r := rand.New(rand.NewSource(6))
	for range 20000 {
		n, i := r.Intn(69)-2, r.Intn(69)-2
		path := make([]string, r.Intn(8))
		for k := range path {
			path[k] = leafOf(fmt.Sprint(r.Intn(3)))[:32-r.Intn(2)*r.Intn(33)]
		}
		root := leafOf("s")
		for _, part := range path {
			if r.Intn(2) == 0 {
				root = pairOf(root, part)
			} else {
				root = pairOf(part, root)
			}
		}
		wantCheck(t, checkWanted("s", i, n, path, root), "s", i, n, path, root)
	}
}

func TestTreesLeaveTheirArguments(t *testing.T) {
	for _, n := range []int{0, 1, 2, 3, 5, 7, 8, 63, 64, 65} {
		room := slices.Concat(countedTexts(n), []string{"behind", "it", "is", "more"})
		kept := slices.Clone(room)
		root := impl.RootOf(room[:n])
		path := impl.PathOf(room[:n], n/2)
		parts := append(slices.Clone(path), "more", "parts")
		keptParts := slices.Clone(parts)
		impl.CheckPath("", n/2, n, parts[:len(path)], root)
		if !slices.Equal(room, kept) || !slices.Equal(parts, keptParts) {
			t.Errorf("%d texts: wrote into an argument or behind it", n)
		}
		if root != impl.RootOf(slices.Clone(kept[:n])) {
			t.Errorf("%d texts: what lies behind the list was read", n)
		}
		first := slices.Clone(path)
		clear(room)
		if !slices.Equal(path, first) {
			t.Errorf("%d texts: the path shares memory with the texts", n)
		}
		path = path[:cap(path)]
		for k := range path {
			path[k] = "changed"
		}
		if !slices.Equal(room, make([]string, len(room))) {
			t.Errorf("%d texts: the texts are handed out", n)
		}
	}
}

func TestCheckReadsNothingBehindThePath(t *testing.T) {
	l := countedTexts(13)
	for i, s := range l {
		path := impl.PathOf(l, i)
		for k := range path {
			wantCheck(t, false, s, i, 13, path[:k:len(path)], impl.RootOf(l))
		}
		wantCheck(t, true, s, i, 13, append(path, "behind")[:len(path)], impl.RootOf(l))
	}
}

func TestTreesKeepNothing(t *testing.T) {
	l := countedTexts(11)
	root, path := impl.RootOf(l), impl.PathOf(l, 4)
	kept := slices.Clone(path)
	clear(impl.PathOf(l, 4))
	impl.PathOf(l, 10)
	impl.RootOf(make([]string, 65))
	impl.CheckPath("x", 1, 2, []string{"y"}, "z")
	if !slices.Equal(path, kept) {
		t.Error("two answers of PathOf share memory")
	}
	if impl.RootOf(l) != root || !slices.Equal(impl.PathOf(l, 4), kept) {
		t.Error("the second time something else comes")
	}
	wantCheck(t, true, l[4], 4, 11, kept, root)
}
