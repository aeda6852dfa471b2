package tests

import (
	"bytes"
	"fmt"
	"math"
	"math/rand"
	"slices"
	"strings"
	"testing"

	"loop.example/g00194/impl"
)

const root32 = "0123456789abcdef\x00\x01\x02\x03\x04\x05\x06\x07\xf8\xf9\xfa\xfb\xfc\xfd\xfe\xff"

func rootQc() impl.Qc { return impl.Qc{Round: 0, Block: -1} }

// firstBlock comes behind the root, in the first round.
func firstBlock() impl.Block { return impl.Block{Round: 1, By: "a", Qc: rootQc()} }

// nextBlock comes behind the block 2 of the round 5, in the round 6.
func nextBlock() impl.Block {
	return impl.Block{Id: 4, Epoch: 1, Round: 6, By: "b", Qc: qcOf(5, 2, "a b c"), Txs: []impl.Tx{pay("a", "b", 5, 3)}}
}

// leftBlock comes behind the block 2 of the round 3, in the round 6: the rounds 4 and 5 were left out, the last of them with a Tc.
func leftBlock() impl.Block {
	b := nextBlock()
	b.Qc, b.Tc = qcOf(3, 2, "a b c"), tcOf(5, "a c d", 1, 3, 0)
	b.Txs = []impl.Tx{stakes(2, "c", 1, 0), pay("a", "a", 1000000, 10000)}
	return b
}

func endBlock() impl.Block {
	b := leftBlock()
	b.End, b.Next, b.Root = true, valsTold("a:5 b:1000000 zz:64"), root32
	return b
}

// fullBlock has as much of everything as there may be.
func fullBlock() impl.Block {
	names, highs := longNames(20), make([]int, 20)
	for i := range highs {
		highs[i] = 9998 - i
	}
	var next []impl.Val
	for _, name := range longNames(12) {
		next = append(next, impl.Val{Name: name, Weight: 1000000})
	}
	order := pay("zzzzzzzz", "abcdefgh", 1000000, 10000)
	return impl.Block{
		Id: 100000, Epoch: 900, Round: 10000, By: "zzzzzzzz", Qc: impl.Qc{Round: 9999, Block: 99999, Who: names}, Tc: impl.Tc{Round: 9999, Who: longNames(20), Highs: highs},
		Txs: []impl.Tx{order, order, order, order}, End: true, Next: next, Root: strings.Repeat("\xff", 32),
	}
}

func longNames(n int) []string {
	l := manyNames(n)
	for i := range l {
		l[i] += "xyz"
	}
	return l
}

func cloneBlock(b impl.Block) impl.Block {
	b.Qc.Who, b.Tc.Who, b.Tc.Highs = slices.Clone(b.Qc.Who), slices.Clone(b.Tc.Who), slices.Clone(b.Tc.Highs)
	b.Txs, b.Next = slices.Clone(b.Txs), slices.Clone(b.Next)
	return b
}

// with is b, changed, and in memory of its own.
func with(b impl.Block, change func(b *impl.Block)) impl.Block {
	b = cloneBlock(b)
	change(&b)
	return b
}

func someTxs(n int) []impl.Tx {
	return []impl.Tx{stakes(3, "a", 64, 0), pay("b", "ann", 1, 1), stakes(2, "c9", 1000000, 10000), pay("d", "d", 128, 63), stakes(2, "e", 1, 1)}[:n]
}

// rightBlocks: each certificate with each Tc, each number of orders, and each end.
func rightBlocks() []impl.Block {
	qcs := []impl.Qc{rootQc(), qcOf(1, 0, ""), qcOf(5, 3, "a b c"), qcOf(3, 0, "zz"), {Round: 2, Block: 1, Who: longNames(20)}}
	tcs := []impl.Tc{{}, tcOf(1, ""), tcOf(5, "a b", 0, 4), tcOf(5, "b", 3), {Round: 4, Who: longNames(20), Highs: make([]int, 20)}}
	ends := [][]impl.Val{nil, valsTold("a:1"), valsTold("a:5 ab:64 b:1000000"), alikeVals(12, 9)}
	l := []impl.Block{firstBlock(), nextBlock(), leftBlock(), endBlock(), fullBlock()}
	for _, q := range qcs {
		for _, x := range tcs {
			for _, n := range []int{0, 1, 2, 4} {
				for _, next := range ends {
					b := impl.Block{Id: 4, Epoch: 1, Round: 6, By: "ann", Qc: q, Tc: x, Txs: someTxs(n), Next: next}
					if b.End = len(next) > 0; b.End {
						b.Root = root32
					}
					l = append(l, cloneBlock(b))
				}
			}
		}
	}
	return l
}

// outsideOf is n, or, where that lies between, what is just too great.
func outsideOf(n, least, most int) int {
	if outside(n, least, most) {
		return n
	}
	return most + 1
}

// wrongBlocks: each is a block that is right but for one fault.
func wrongBlocks() []impl.Block {
	var l []impl.Block
	spoil := func(change func(b *impl.Block)) {
		for _, b := range []impl.Block{firstBlock(), nextBlock(), leftBlock(), endBlock(), fullBlock()} {
			l = append(l, with(b, change))
		}
	}
	for _, n := range append(greatNumbers(), -1, 100001, 100002) {
		spoil(func(b *impl.Block) { b.Id = outsideOf(n, 0, 100000) })
		spoil(func(b *impl.Block) { b.Epoch = n })
		spoil(func(b *impl.Block) { b.Round = n })
		spoil(func(b *impl.Block) { b.Qc = qcOf(n, 0, "a") })
		spoil(func(b *impl.Block) { b.Qc = impl.Qc{Round: n, Block: -1} })
		spoil(func(b *impl.Block) { b.Qc = qcOf(1, outsideOf(n, 0, b.Id-1), "a") })
		spoil(func(b *impl.Block) { b.Qc = impl.Qc{Block: n, Who: []string{"a"}} })
		spoil(func(b *impl.Block) { b.Tc = tcOf(n, "a", 0) })
		spoil(func(b *impl.Block) { b.Tc = tcOf(n, "") })
		spoil(func(b *impl.Block) { b.Tc = tcOf(2, "a", n) })
		spoil(func(b *impl.Block) { b.Tc = tcOf(0, "", n) })
		spoil(func(b *impl.Block) {
			b.End, b.Next, b.Root = true, []impl.Val{{Name: "a", Weight: outsideOf(n, 1, 1000000)}}, root32
		})
	}
	for _, name := range noNames() {
		spoil(func(b *impl.Block) { b.By = name })
		spoil(func(b *impl.Block) { b.Qc.Who = append(b.Qc.Who, name) })
		spoil(func(b *impl.Block) { b.Qc.Who = slices.Insert(b.Qc.Who, 0, name) })
		spoil(func(b *impl.Block) { b.Tc.Who, b.Tc.Highs = append(b.Tc.Who, name), append(b.Tc.Highs, 0) })
		spoil(func(b *impl.Block) {
			b.Tc.Who, b.Tc.Highs = slices.Insert(b.Tc.Who, 0, name), slices.Insert(b.Tc.Highs, 0, 0)
		})
	}
	for _, x := range wrongTxs() {
		l = append(l, with(nextBlock(), func(b *impl.Block) { b.Txs[0] = x }), with(endBlock(), func(b *impl.Block) { b.Txs = append(b.Txs, x) }), with(fullBlock(), func(b *impl.Block) { b.Txs[3] = x }), with(firstBlock(), func(b *impl.Block) { b.Txs = []impl.Tx{x} }))
	}
	for _, next := range wrongSets() {
		spoil(func(b *impl.Block) { b.End, b.Next, b.Root = true, next, root32 })
	}
	return append(l, impl.Block{}, with(nextBlock(), func(b *impl.Block) { b.Qc = impl.Qc{} }))
}

func namesWanted(l []string) bool {
	sorted := slices.Clone(l)
	slices.Sort(sorted)
	return len(l) <= 20 && slices.Equal(l, slices.Compact(sorted)) && !slices.ContainsFunc(l, func(s string) bool { return !nameWanted(s) })
}

func blockWanted(b impl.Block) bool {
	if outside(b.Id, 0, 100000) || outside(b.Epoch, 0, 900) || outside(b.Round, 1, 10000) || !nameWanted(b.By) || len(b.Txs) > 4 {
		return false
	}
	if slices.ContainsFunc(b.Txs, func(x impl.Tx) bool { return !txWanted(x) }) {
		return false
	}
	if isRoot := sameQc(b.Qc, rootQc()); !isRoot && (b.Qc.Round < 1 || b.Qc.Round >= b.Round || b.Qc.Block < 0 || b.Qc.Block >= b.Id || !namesWanted(b.Qc.Who)) {
		return false
	}
	if isNone := sameTc(b.Tc, impl.Tc{}); !isNone && (b.Tc.Round < 1 || b.Tc.Round >= b.Round || !namesWanted(b.Tc.Who) || len(b.Tc.Highs) != len(b.Tc.Who)) {
		return false
	}
	if slices.ContainsFunc(b.Tc.Highs, func(high int) bool { return high < 0 || high >= b.Tc.Round }) {
		return false
	}
	if b.End {
		return setWanted(b.Next) && len(b.Root) == 32
	}
	return len(b.Next) == 0 && len(b.Root) == 0
}

// A blockPart is a number or the bytes of a text behind its number.
type blockPart struct {
	isNum bool
	n     int
	text  string
}

// blockParts: all that is put of a block, one by one, whether it is right or not.
func blockParts(b impl.Block) []blockPart {
	var l []blockPart
	num := func(ns ...int) {
		for _, n := range ns {
			l = append(l, blockPart{isNum: true, n: n})
		}
	}
	text := func(texts ...string) {
		for _, s := range texts {
			num(len(s))
			l = append(l, blockPart{text: s})
		}
	}
	num(b.Id, b.Epoch, b.Round)
	text(b.By)
	num(b.Qc.Round, b.Qc.Block, len(b.Qc.Who))
	text(b.Qc.Who...)
	num(b.Tc.Round, len(b.Tc.Who))
	text(b.Tc.Who...)
	num(b.Tc.Highs...)
	num(len(b.Txs))
	for _, x := range b.Txs {
		num(x.Kind)
		text(x.From, x.To)
		num(x.Amount, x.Nonce)
	}
	num(map[bool]int{false: 0, true: 1}[b.End], len(b.Next))
	for _, v := range b.Next {
		text(v.Name)
		num(v.Weight)
	}
	text(b.Root)
	return l
}

// anyNumWanted: the bytes of any number up to MaxNum either way.
func anyNumWanted(n int) string {
	folded := 2 * n
	if n < 0 {
		folded = -2*n - 1
	}
	s := ""
	for ; folded > 127; folded >>= 7 {
		s += string([]byte{byte(folded) | 128})
	}
	return s + string([]byte{byte(folded)})
}

func (p blockPart) bytes() string {
	if p.isNum {
		return anyNumWanted(p.n)
	}
	return p.text
}

func bytesOfParts(parts []blockPart) string {
	s := ""
	for _, p := range parts {
		s += p.bytes()
	}
	return s
}

func blockBytes(b impl.Block) string { return bytesOfParts(blockParts(b)) }

// putable: whether every number of the block is one that PutNum can tell from its neighbours.
func putable(b impl.Block) bool {
	return !slices.ContainsFunc(blockParts(b), func(p blockPart) bool { return outside(p.n, -impl.MaxNum, impl.MaxNum) })
}

// A blockLook reads by the functions of chapter 1, which have tests of their own.
type blockLook struct {
	b    []byte
	at   int
	good bool
}

func (k *blockLook) num() int {
	n, at, ok := impl.GetNum(k.b, k.at)
	k.at, k.good = at, k.good && ok
	return n
}

func (k *blockLook) text() string {
	s, at, ok := impl.GetText(k.b, k.at)
	k.at, k.good = at, k.good && ok
	return s
}

// many does as often as the next number says, unless that is more than could be right.
func (k *blockLook) many(most int, do func()) {
	n := k.num()
	k.good = k.good && !outside(n, 0, most)
	for i := 0; i < n && k.good; i++ {
		do()
	}
}

func blockAtWanted(bytes []byte) (impl.Block, bool) {
	k := &blockLook{b: bytes, good: true}
	var b impl.Block
	b.Id, b.Epoch, b.Round, b.By = k.num(), k.num(), k.num(), k.text()
	b.Qc.Round, b.Qc.Block = k.num(), k.num()
	k.many(20, func() { b.Qc.Who = append(b.Qc.Who, k.text()) })
	b.Tc.Round = k.num()
	k.many(20, func() { b.Tc.Who = append(b.Tc.Who, k.text()) })
	for i := 0; i < len(b.Tc.Who) && k.good; i++ {
		b.Tc.Highs = append(b.Tc.Highs, k.num())
	}
	k.many(4, func() {
		b.Txs = append(b.Txs, impl.Tx{Kind: k.num(), From: k.text(), To: k.text(), Amount: k.num(), Nonce: k.num()})
	})
	end := k.num()
	b.End = end == 1
	k.many(12, func() { b.Next = append(b.Next, impl.Val{Name: k.text(), Weight: k.num()}) })
	b.Root = k.text()
	if !k.good || k.at != len(bytes) || outside(end, 0, 1) || !blockWanted(b) {
		return impl.Block{}, false
	}
	return b, true
}

// sameFields goes through the fields one by one; an empty list and nil are the same.
func sameFields(a, b impl.Block) bool {
	if a.Id != b.Id || a.Epoch != b.Epoch || a.Round != b.Round || a.By != b.By || a.End != b.End || a.Root != b.Root {
		return false
	}
	return sameQc(a.Qc, b.Qc) && sameTc(a.Tc, b.Tc) && slices.Equal(a.Txs, b.Txs) && slices.Equal(a.Next, b.Next)
}

// fieldsOf tells each field by a text.
func fieldsOf(b impl.Block) []string {
	var l []string
	for _, field := range []any{b.Id, b.Epoch, b.Round, b.By, b.Qc.Round, b.Qc.Block, b.Qc.Who, b.Tc.Round, b.Tc.Who, b.Tc.Highs, b.Txs, b.End, b.Next, b.Root} {
		l = append(l, fmt.Sprintf("%q", field))
	}
	return l
}

func isZeroBlock(b impl.Block) bool { return sameFields(b, impl.Block{}) }

func refusesBlock(t *testing.T, b []byte) {
	t.Helper()
	if x, ok := impl.GetBlock(b); ok || !isZeroBlock(x) {
		t.Errorf("GetBlock(%.600x): %+v %v", b, x, ok)
	}
}

// checkGet holds what is read against what is wanted, and answers whether it was a block.
func checkGet(t *testing.T, b []byte) bool {
	t.Helper()
	x, ok := impl.GetBlock(b)
	if want, wantOk := blockAtWanted(b); ok != wantOk || !sameFields(x, want) {
		t.Errorf("GetBlock(%.600x): %+v %v, not %+v %v", b, x, ok, want, wantOk)
	}
	if ok && !bytes.Equal(impl.PutBlock(x), b) {
		t.Errorf("GetBlock(%.600x): a block whose bytes are %.600x", b, impl.PutBlock(x))
	}
	return ok
}

// checkBlock holds all that a block answers against what is wanted, and answers whether it is right.
func checkBlock(t *testing.T, b impl.Block) bool {
	t.Helper()
	want, wantBytes := blockWanted(b), ""
	if want {
		wantBytes = blockBytes(b)
	}
	if got := impl.BlockOk(b); got != want {
		t.Errorf("BlockOk(%.900v): %v", fmt.Sprintf("%+v", b), got)
	}
	put := impl.PutBlock(b)
	if string(put) != wantBytes {
		t.Errorf("PutBlock(%.900v): %.900x, not %.900x", fmt.Sprintf("%+v", b), put, wantBytes)
	}
	if x, ok := impl.GetBlock(put); ok != want || ok && (!sameFields(x, b) || !impl.SameBlock(x, b)) {
		t.Errorf("back of its bytes: %.900v: %+v %v", fmt.Sprintf("%+v", b), x, ok)
	}
	if got := impl.Follows(b); got != followsWanted(b) {
		t.Errorf("Follows(%.900v): %v", fmt.Sprintf("%+v", b), got)
	}
	if !impl.SameBlock(b, b) || !impl.SameBlock(b, cloneBlock(b)) {
		t.Errorf("not the same as itself: %.900v", fmt.Sprintf("%+v", b))
	}
	return want
}

func followsWanted(b impl.Block) bool {
	if b.Round == math.MinInt {
		return false
	}
	before := b.Round - 1
	if sameTc(b.Tc, impl.Tc{}) {
		return b.Qc.Round == before
	}
	return b.Tc.Round > 0 && b.Tc.Round == before && b.Qc.Round >= highWanted(b.Tc)
}

func TestBlocksRight(t *testing.T) {
	for _, b := range rightBlocks() {
		if !checkBlock(t, b) || !impl.BlockOk(b) {
			t.Errorf("not right: %+v", b)
		}
	}
	if impl.MaxTxs != 4 {
		t.Error("MaxTxs", impl.MaxTxs)
	}
}

func TestBlocksNotRight(t *testing.T) {
	for _, b := range wrongBlocks() {
		if checkBlock(t, b) || impl.BlockOk(b) || len(impl.PutBlock(b)) != 0 {
			t.Errorf("right: %.900v", fmt.Sprintf("%+v", b))
		}
	}
}

func TestBlockBytesKnown(t *testing.T) {
	for _, x := range []struct {
		b    impl.Block
		want string
	}{
		{firstBlock(), "\x00\x00\x02\x02a" + "\x00\x01\x00" + "\x00\x00" + "\x00" + "\x00\x00\x00"},
		{nextBlock(), "\x08\x02\x0c\x02b" + "\x0a\x04\x06\x02a\x02b\x02c" + "\x00\x00" + "\x02\x02\x02a\x02b\x0a\x06" + "\x00\x00\x00"},
		{leftBlock(), "\x08\x02\x0c\x02b" + "\x06\x04\x06\x02a\x02b\x02c" + "\x0a\x06\x02a\x02c\x02d\x02\x06\x00" + "\x04\x04\x02c\x00\x02\x00\x02\x02a\x02a\x80\x89\x7a\xa0\x9c\x01" + "\x00\x00\x00"},
		{endBlock(), "\x08\x02\x0c\x02b" + "\x06\x04\x06\x02a\x02b\x02c" + "\x0a\x06\x02a\x02c\x02d\x02\x06\x00" + "\x04\x04\x02c\x00\x02\x00\x02\x02a\x02a\x80\x89\x7a\xa0\x9c\x01" + "\x02\x06\x02a\x0a\x02b\x80\x89\x7a\x04zz\x80\x01" + "\x40" + root32},
	} {
		if got := impl.PutBlock(x.b); string(got) != x.want {
			t.Errorf("%+v: %x, not %x", x.b, got, x.want)
		}
		if b, ok := impl.GetBlock([]byte(x.want)); !ok || !sameFields(b, x.b) {
			t.Errorf("%x: %+v %v", x.want, b, ok)
		}
	}
}

func TestBlockNumbers(t *testing.T) {
	for id, want := range map[int]bool{-2: false, -1: false, 0: true, 1: true, 99999: true, 100000: true, 100001: false, 100002: false} {
		if checkBlock(t, with(firstBlock(), func(b *impl.Block) { b.Id = id })) != want {
			t.Errorf("the Id %d", id)
		}
	}
	for epoch, want := range map[int]bool{-1: false, 0: true, 1: true, 899: true, 900: true, 901: false, 902: false} {
		for _, b := range []impl.Block{firstBlock(), endBlock()} {
			if checkBlock(t, with(b, func(b *impl.Block) { b.Epoch = epoch })) != want {
				t.Errorf("the Epoch %d", epoch)
			}
		}
	}
	for round, want := range map[int]bool{-1: false, 0: false, 1: true, 2: true, 9999: true, 10000: true, 10001: false, 10002: false} {
		if checkBlock(t, with(firstBlock(), func(b *impl.Block) { b.Round = round })) != want {
			t.Errorf("the Round %d", round)
		}
	}
	for _, name := range []string{"a", "z", "0", "9", "a0z9", "abcdefgh", "00000000"} {
		if !checkBlock(t, with(endBlock(), func(b *impl.Block) { b.By = name })) {
			t.Errorf("made by %q", name)
		}
	}
}

// The root's certificate is right of every block; what differs from it in one field alone is right of none.
func TestBlockBehindTheRoot(t *testing.T) {
	for _, b := range rightBlocks() {
		for _, q := range []impl.Qc{rootQc(), {Block: -1, Who: []string{}}, {Block: -1, Who: namesOf(fourVals())[:0]}} {
			b.Qc = q
			if !checkBlock(t, b) {
				t.Errorf("not right behind the root: %+v", b)
			}
		}
		for _, q := range []impl.Qc{{}, {Block: 0}, {Block: 1}, {Block: -2}, {Round: 1, Block: -1}, {Round: -1, Block: -1}, {Round: 5, Block: -1}, qcOf(0, -1, "a"), {Block: -1, Who: []string{""}}, qcOf(0, -1, "a b c"), qcOf(0, 0, "a b c"), qcOf(0, 1, "a b c")} {
			b.Qc = q
			if checkBlock(t, b) {
				t.Errorf("right: %+v", b)
			}
		}
	}
}

func TestBlockQcEdges(t *testing.T) {
	for _, base := range []impl.Block{nextBlock(), leftBlock(), endBlock(), fullBlock()} {
		for round, want := range map[int]bool{-1: false, 0: false, 1: true, base.Round - 2: true, base.Round - 1: true, base.Round: false, base.Round + 1: false} {
			if checkBlock(t, with(base, func(b *impl.Block) { b.Qc.Round = round })) != want {
				t.Errorf("in the Round %d a Qc of the Round %d", base.Round, round)
			}
		}
		for block, want := range map[int]bool{-2: false, -1: false, 0: true, base.Id - 2: true, base.Id - 1: true, base.Id: false, base.Id + 1: false} {
			if checkBlock(t, with(base, func(b *impl.Block) { b.Qc.Block = block })) != want {
				t.Errorf("of the Id %d a Qc of the Block %d", base.Id, block)
			}
		}
	}
	// There is no round below 1, and no block below 0, for another certificate than the root's.
	for _, q := range []impl.Qc{qcOf(1, 0, "a"), qcOf(0, 0, "a"), qcOf(1, -1, "a"), qcOf(1, 0, "")} {
		b := firstBlock()
		b.Qc = q
		if checkBlock(t, b) {
			t.Errorf("right in the round 1, as the block 0: %+v", q)
		}
		b.Id = 1
		if checkBlock(t, b) {
			t.Errorf("right in the round 1: %+v", q)
		}
		b.Id, b.Round = 0, 2
		if checkBlock(t, b) {
			t.Errorf("right as the block 0: %+v", q)
		}
	}
	if b := (impl.Block{Id: 1, Round: 2, By: "a", Qc: qcOf(1, 0, "a")}); !checkBlock(t, b) {
		t.Errorf("not right: %+v", b)
	}
}

// What differs from the Tc that is none in one field alone is no Tc; a round alone is one of no names, if the round is right.
func TestBlockTcThatIsNone(t *testing.T) {
	for _, b := range rightBlocks() {
		for _, x := range []impl.Tc{{}, {Who: []string{}, Highs: []int{}}, {Who: namesOf(fourVals())[:0], Highs: []int{7}[:0]}} {
			b.Tc = x
			if !checkBlock(t, b) {
				t.Errorf("not right without a Tc: %+v", b)
			}
		}
		for _, x := range []impl.Tc{tcOf(0, "a"), tcOf(0, "", 0), tcOf(0, "", -1), tcOf(0, "", 1), tcOf(0, "a", 0), tcOf(0, "a", -1), tcOf(0, "a b", 0, 0), {Who: []string{""}}, tcOf(-1, ""), tcOf(b.Round, ""), tcOf(math.MinInt, "")} {
			b.Tc = x
			if checkBlock(t, b) {
				t.Errorf("right: %+v", b)
			}
		}
	}
	if !checkBlock(t, with(nextBlock(), func(b *impl.Block) { b.Tc = tcOf(1, "") })) || checkBlock(t, with(firstBlock(), func(b *impl.Block) { b.Tc = tcOf(1, "") })) {
		t.Error("a round that no one is told to have left")
	}
}

func TestBlockTcEdges(t *testing.T) {
	for _, base := range []impl.Block{nextBlock(), leftBlock(), endBlock(), fullBlock()} {
		for round, want := range map[int]bool{-1: false, 0: false, 1: true, 2: true, base.Round - 2: true, base.Round - 1: true, base.Round: false, base.Round + 1: false} {
			if checkBlock(t, with(base, func(b *impl.Block) { b.Tc = tcOf(round, "a b", 0, 0) })) != want {
				t.Errorf("in the Round %d a Tc of the Round %d", base.Round, round)
			}
			for high, fits := range map[int]bool{-2: false, -1: false, 0: true, round - 1: true, round: false, round + 1: false} {
				for at := range 3 {
					x := tcOf(round, "a b c", 0, 0, 0)
					x.Highs[at] = high
					if checkBlock(t, with(base, func(b *impl.Block) { b.Tc = x })) != (want && fits) {
						t.Errorf("in the Round %d a Tc %v", base.Round, x)
					}
				}
			}
		}
		for names := range 23 {
			for highs := range 25 {
				x := impl.Tc{Round: 3, Who: manyNames(names), Highs: make([]int, highs)}
				if checkBlock(t, with(base, func(b *impl.Block) { b.Tc = x })) != (names == highs && names <= 20) {
					t.Errorf("%d names with %d Highs", names, highs)
				}
			}
			if checkBlock(t, with(base, func(b *impl.Block) { b.Qc = impl.Qc{Round: 1, Block: 1, Who: manyNames(names)} })) != (names <= 20) {
				t.Errorf("%d names voted", names)
			}
		}
	}
}

// Names that are not ascending, or alike, vote for nothing and leave nothing; whether they are a quorum is not asked here.
func TestBlockNamesOfCerts(t *testing.T) {
	for who, want := range map[string]bool{
		"": true, "a": true, "a b": true, "a ab b": true, "0 9 a z": true, "b a": false, "a a": false, "a b b": false, "a c b": false, "ab a": false, "a B": false, "a abcdefghi": false, "A": false, "a- b": false, "c b a": false,
	} {
		highs := make([]int, len(strings.Fields(who)))
		for _, base := range []impl.Block{nextBlock(), leftBlock(), endBlock()} {
			if checkBlock(t, with(base, func(b *impl.Block) { b.Qc.Who = strings.Fields(who) })) != want {
				t.Errorf("voted: %q", who)
			}
			if checkBlock(t, with(base, func(b *impl.Block) { b.Tc = tcOf(4, who, highs...) })) != want {
				t.Errorf("left: %q", who)
			}
		}
	}
}

func TestBlockTxs(t *testing.T) {
	for _, base := range []impl.Block{firstBlock(), leftBlock(), endBlock()} {
		for n := range 10 {
			// One order may stand there several times: what it does there is another chapter's.
			for _, txs := range [][]impl.Tx{slices.Repeat(someTxs(1), n), slices.Repeat(someTxs(5), 2)[:n]} {
				if checkBlock(t, with(base, func(b *impl.Block) { b.Txs = txs })) != (n <= 4) {
					t.Errorf("%d orders", n)
				}
			}
		}
		for _, x := range rightTxs() {
			for at := range 4 {
				if !checkBlock(t, with(base, func(b *impl.Block) { b.Txs = someTxs(4); b.Txs[at] = x })) {
					t.Errorf("not right: %v at %d", x, at)
				}
			}
		}
		for _, x := range wrongTxs() {
			for at := range 4 {
				if checkBlock(t, with(base, func(b *impl.Block) { b.Txs = someTxs(4); b.Txs[at] = x })) {
					t.Errorf("right: %v at %d", x, at)
				}
			}
		}
	}
}

func TestBlockEnds(t *testing.T) {
	sets := append(quorumSets(), wrongSets()...)
	for _, base := range []impl.Block{firstBlock(), leftBlock(), fullBlock()} {
		for _, next := range sets {
			for _, size := range []int{0, 1, 31, 32, 33, 64} {
				for _, end := range []bool{false, true} {
					b := with(base, func(b *impl.Block) { b.End, b.Next, b.Root = end, next, strings.Repeat("\x00", size) })
					want := end && impl.SetOk(next) && size == 32 || !end && len(next) == 0 && size == 0
					if checkBlock(t, b) != want {
						t.Errorf("End %v, Next %.200v, a Root of %d", end, fmt.Sprint(next), size)
					}
				}
			}
		}
	}
	for what, b := range map[string]impl.Block{
		"an end with no Next":         with(endBlock(), func(b *impl.Block) { b.Next = nil }),
		"an end with an empty Next":   with(endBlock(), func(b *impl.Block) { b.Next = []impl.Val{} }),
		"an end with no Root":         with(endBlock(), func(b *impl.Block) { b.Root = "" }),
		"an end with neither":         with(nextBlock(), func(b *impl.Block) { b.End = true }),
		"both without an end":         with(endBlock(), func(b *impl.Block) { b.End = false }),
		"a Next without an end":       with(endBlock(), func(b *impl.Block) { b.End, b.Root = false, "" }),
		"a Root without an end":       with(endBlock(), func(b *impl.Block) { b.End, b.Next = false, nil }),
		"a Root of 31":                with(endBlock(), func(b *impl.Block) { b.Root = root32[:31] }),
		"a Root of 33":                with(endBlock(), func(b *impl.Block) { b.Root = root32 + "\x00" }),
		"thirteen who vote next":      with(endBlock(), func(b *impl.Block) { b.Next = alikeVals(13, 1) }),
		"a short Root without an end": with(nextBlock(), func(b *impl.Block) { b.Root = "\x00" }),
	} {
		if checkBlock(t, b) || impl.BlockOk(b) {
			t.Error("right:", what)
		}
	}
}

// Bytes that are cut at each place, or have more behind them, are no block; what lies behind their length is not read.
func TestBlockBytesCut(t *testing.T) {
	for _, x := range rightBlocks() {
		b := impl.PutBlock(x)
		for k := range b {
			refusesBlock(t, b[:k])
			refusesBlock(t, b[:k:k])
			if k > 0 {
				refusesBlock(t, b[k:])
			}
		}
		for _, more := range []string{"\x00", "\x01", "\x02", "\x7f", "\x80", "\xff", "a", "\x00\x00", string(b)} {
			refusesBlock(t, []byte(string(b)+more))
			checkGet(t, []byte(more+string(b)))
			room := []byte(string(b) + more)
			if y, ok := impl.GetBlock(room[:len(b)]); !ok || !sameFields(x, y) {
				t.Errorf("with room behind them: %+v %v", y, ok)
			}
		}
	}
	for _, b := range [][]byte{nil, {}, {0}, {1}, {255}, make([]byte, 12), make([]byte, 1000), bytes.Repeat([]byte{255}, 1000), bytes.Repeat([]byte{2}, 1000)} {
		refusesBlock(t, b)
	}
	for n := range 256 {
		refusesBlock(t, append(impl.PutBlock(endBlock()), byte(n)))
		refusesBlock(t, append(impl.PutBlock(firstBlock()), byte(n)))
	}
}

// Bytes that differ from a block's in one byte are another block's, or no one's.
func TestBlockBytesChanged(t *testing.T) {
	blocks := append(rightBlocks()[5:9], firstBlock(), nextBlock(), leftBlock(), endBlock())
	others := 0
	for _, x := range blocks {
		b := impl.PutBlock(x)
		for at := range b {
			kept := b[at]
			for c := range 256 {
				if b[at] = byte(c); byte(c) == kept {
					continue
				}
				if checkGet(t, b) {
					others++
				}
				if y, ok := impl.GetBlock(b); ok && (impl.SameBlock(x, y) || sameFields(x, y)) {
					t.Errorf("one block of two kinds of bytes: %x", b)
				}
			}
			b[at] = kept
		}
	}
	if others < 1000 {
		t.Error("too few were other blocks:", others)
	}
	for _, x := range rightBlocks() {
		b := impl.PutBlock(x)
		for at := range b {
			for _, flip := range []byte{1, 2, 3, 128} {
				b[at] ^= flip
				checkGet(t, b)
				b[at] ^= flip
			}
			checkGet(t, slices.Delete(slices.Clone(b), at, at+1))
			checkGet(t, slices.Insert(slices.Clone(b), at, 0))
			checkGet(t, slices.Insert(slices.Clone(b), at, b[at]))
		}
	}
}

// What would read as a block that is not right is none.
func TestBlockBytesOfWrongBlocks(t *testing.T) {
	told := 0
	for _, x := range wrongBlocks() {
		if !putable(x) {
			continue
		}
		told++
		b := []byte(blockBytes(x))
		refusesBlock(t, b)
		if checkGet(t, b) {
			t.Errorf("%+v", x)
		}
	}
	if told < 1000 {
		t.Error("too few have bytes:", told)
	}
	for _, change := range []func(b *impl.Block){
		func(b *impl.Block) { b.Tc.Highs = append(b.Tc.Highs, 0) }, func(b *impl.Block) { b.Tc.Highs = b.Tc.Highs[1:] },
		func(b *impl.Block) { b.Txs = slices.Repeat(someTxs(1), 5) }, func(b *impl.Block) { b.Next = alikeVals(13, 5) },
		func(b *impl.Block) { b.Qc.Who = longNames(21) }, func(b *impl.Block) { b.Qc.Who = longNames(100) }, func(b *impl.Block) { b.Qc.Who = longNames(101) },
		func(b *impl.Block) { b.Tc.Who, b.Tc.Highs = longNames(21), make([]int, 21) }, func(b *impl.Block) { b.Tc.Who, b.Tc.Highs = longNames(101), make([]int, 101) },
		func(b *impl.Block) { b.End = false }, func(b *impl.Block) { b.Root = "" }, func(b *impl.Block) { b.Next = nil }, func(b *impl.Block) { b.Qc.Block = -1 }, func(b *impl.Block) { b.Qc = impl.Qc{} },
	} {
		refusesBlock(t, []byte(blockBytes(with(endBlock(), change))))
		refusesBlock(t, []byte(blockBytes(with(fullBlock(), change))))
	}
}

// Each number in turn is another one: a count that does not fit, or is very great, is refused, and not gone through.
func TestBlockNumbersInBytes(t *testing.T) {
	for _, x := range []impl.Block{firstBlock(), nextBlock(), leftBlock(), endBlock(), fullBlock()} {
		parts := blockParts(x)
		for at, p := range parts {
			if !p.isNum {
				continue
			}
			for _, n := range []int{p.n - 1, p.n + 1, -p.n, 0, 1, 2, 3, -1, -2, 4, 5, 12, 13, 20, 21, 31, 33, 100, 101, 901, 10001, 100001, 1000001, impl.MaxNum - 1, impl.MaxNum, -impl.MaxNum} {
				changed := slices.Clone(parts)
				changed[at].n = n
				checkGet(t, []byte(bytesOfParts(changed)))
			}
		}
	}
}

// A number has one form alone, and so has an End: a second form would be a second kind of bytes for one block.
func TestBlockBytesOfAnotherForm(t *testing.T) {
	for _, x := range []impl.Block{firstBlock(), nextBlock(), leftBlock(), endBlock(), fullBlock()} {
		parts := blockParts(x)
		for at, p := range parts {
			if !p.isNum {
				continue
			}
			ahead, short, behind := bytesOfParts(parts[:at]), p.bytes(), bytesOfParts(parts[at+1:])
			last := len(short) - 1
			for _, needless := range []string{"\x00", "\x80\x00", "\x80\x80\x80\x00", "\x80\x80\x80\x80\x80\x80\x80\x80\x80\x00"} {
				long := short[:last] + string([]byte{short[last] | 128}) + needless
				refusesBlock(t, []byte(ahead+long+behind))
			}
		}
	}
	for _, end := range []int{2, 3, -1, -2, 256, 257, impl.MaxNum, -impl.MaxNum} {
		for _, x := range []impl.Block{firstBlock(), endBlock()} {
			b := blockBytes(x)
			tail := len(b) - len("\x00\x00\x00")
			if x.End {
				tail = strings.LastIndex(b, "\x02\x06\x02a\x0a")
			}
			refusesBlock(t, []byte(b[:tail]+anyNumWanted(end)+b[tail+1:]))
		}
	}
}

func TestSameBlock(t *testing.T) {
	all := []impl.Block{firstBlock(), nextBlock(), leftBlock(), endBlock(), fullBlock()}
	for i, a := range all {
		for j, b := range all {
			if impl.SameBlock(a, b) != (i == j) || impl.SameBlock(a, cloneBlock(b)) != (i == j) {
				t.Errorf("%d and %d", i, j)
			}
		}
	}
	for what, change := range fieldChanges() {
		for i, a := range all {
			b := with(a, change)
			if impl.SameBlock(a, b) || impl.SameBlock(b, a) || !impl.SameBlock(b, with(a, change)) {
				t.Errorf("%d: %s is another, but the block the same", i, what)
			}
		}
	}
}

// fieldChanges: each changes one field alone, of any block; what comes of it may be right or not.
func fieldChanges() map[string]func(b *impl.Block) {
	return map[string]func(b *impl.Block){
		"Id": func(b *impl.Block) { b.Id++ }, "Epoch": func(b *impl.Block) { b.Epoch-- }, "Round": func(b *impl.Block) { b.Round++ }, "By": func(b *impl.Block) { b.By += "x" }, "no By": func(b *impl.Block) { b.By = "" },
		"Qc.Round": func(b *impl.Block) { b.Qc.Round++ }, "Qc.Block": func(b *impl.Block) { b.Qc.Block-- }, "Qc.Who": func(b *impl.Block) { b.Qc.Who = append(b.Qc.Who, "zzz") }, "Qc.Who with nothing": func(b *impl.Block) { b.Qc.Who = append(b.Qc.Who, "") }, "Qc.Who ahead": func(b *impl.Block) { b.Qc.Who = slices.Insert(b.Qc.Who, 0, "0") },
		"Tc.Round": func(b *impl.Block) { b.Tc.Round++ }, "Tc.Who": func(b *impl.Block) { b.Tc.Who = append(b.Tc.Who, "zzz") }, "Tc.Who with nothing": func(b *impl.Block) { b.Tc.Who = append(b.Tc.Who, "") }, "Tc.Highs": func(b *impl.Block) { b.Tc.Highs = append(b.Tc.Highs, 0) },
		"Txs": func(b *impl.Block) { b.Txs = append(b.Txs, pay("a", "b", 1, 1)) }, "Txs with nothing": func(b *impl.Block) { b.Txs = append(b.Txs, impl.Tx{}) }, "Txs ahead": func(b *impl.Block) { b.Txs = slices.Insert(b.Txs, 0, pay("x", "b", 1, 1)) },
		"End": func(b *impl.Block) { b.End = !b.End }, "Next": func(b *impl.Block) { b.Next = append(b.Next, impl.Val{Name: "zzz", Weight: 1}) }, "Next with nothing": func(b *impl.Block) { b.Next = append(b.Next, impl.Val{}) },
		"Root": func(b *impl.Block) { b.Root += "\x00" }, "Root ahead": func(b *impl.Block) { b.Root = "\x00" + b.Root },
	}
}

// Within the lists of a block, too: each part of each element, their order, and how many there are.
func TestSameBlockWithinLists(t *testing.T) {
	for _, base := range []impl.Block{endBlock(), fullBlock()} {
		last := len(base.Txs) - 1
		for what, change := range map[string]func(b *impl.Block){
			"a name that voted": func(b *impl.Block) { b.Qc.Who[1] = "a0" }, "one fewer voted": func(b *impl.Block) { b.Qc.Who = b.Qc.Who[:len(b.Qc.Who)-1] }, "the order of who voted": func(b *impl.Block) { slices.Reverse(b.Qc.Who) }, "no one voted": func(b *impl.Block) { b.Qc.Who = nil },
			"a name that left": func(b *impl.Block) { b.Tc.Who[2] = "a0" }, "one fewer left": func(b *impl.Block) { b.Tc.Who = b.Tc.Who[1:] }, "the order of who left": func(b *impl.Block) { slices.Reverse(b.Tc.Who) },
			"a High": func(b *impl.Block) { b.Tc.Highs[2]++ }, "the order of Highs": func(b *impl.Block) { slices.Reverse(b.Tc.Highs) }, "no Highs": func(b *impl.Block) { b.Tc.Highs = nil }, "no Tc": func(b *impl.Block) { b.Tc = impl.Tc{} },
			"a Kind": func(b *impl.Block) { b.Txs[last].Kind = 3 }, "a From": func(b *impl.Block) { b.Txs[last].From = "b" }, "a To": func(b *impl.Block) { b.Txs[last].To = "b" }, "an Amount": func(b *impl.Block) { b.Txs[last].Amount-- }, "a Nonce": func(b *impl.Block) { b.Txs[last].Nonce-- }, "one order fewer": func(b *impl.Block) { b.Txs = b.Txs[1:] }, "no orders": func(b *impl.Block) { b.Txs = nil },
			"a name that votes next": func(b *impl.Block) { b.Next[1].Name = "bb" }, "a weight": func(b *impl.Block) { b.Next[2].Weight-- }, "the order of who votes next": func(b *impl.Block) { slices.Reverse(b.Next) }, "one fewer votes next": func(b *impl.Block) { b.Next = b.Next[:len(b.Next)-1] },
			"the first byte of Root": func(b *impl.Block) { b.Root = "1" + b.Root[1:] }, "the last byte of Root": func(b *impl.Block) { b.Root = b.Root[:31] + "\x00" }, "no Root": func(b *impl.Block) { b.Root = "" },
		} {
			if b := with(base, change); impl.SameBlock(base, b) || impl.SameBlock(b, base) || !impl.SameBlock(b, b) {
				t.Errorf("%s is another, but the block the same", what)
			}
		}
	}
	if a := leftBlock(); impl.SameBlock(a, with(a, func(b *impl.Block) { slices.Reverse(b.Txs) })) {
		t.Error("the order of the orders")
	}
}

// An empty list and nil are the same value, with room behind it or without.
func TestSameBlockOfNothing(t *testing.T) {
	empty := with(firstBlock(), func(b *impl.Block) {
		b.Qc.Who, b.Tc.Who, b.Tc.Highs, b.Txs, b.Next = []string{}, namesOf(fourVals())[:0], []int{7}[:0], someTxs(3)[:0], []impl.Val{}
	})
	if !impl.SameBlock(empty, firstBlock()) || !impl.SameBlock(firstBlock(), empty) || !bytes.Equal(impl.PutBlock(empty), impl.PutBlock(firstBlock())) || !checkBlock(t, empty) {
		t.Error("an empty list and nil")
	}
	// Two that are not right have no bytes, and are still two.
	wrong := wrongBlocks()
	for i, a := range wrong[:400] {
		for j, b := range wrong[:400] {
			if got := impl.SameBlock(a, b); got && i != j && !sameFields(a, b) || !got && i == j {
				t.Errorf("%+v and %+v: %v", a, b, got)
			}
		}
	}
	if !impl.SameBlock(impl.Block{}, impl.Block{}) || impl.SameBlock(impl.Block{}, impl.Block{Id: -1}) || impl.SameBlock(impl.Block{Id: math.MaxInt}, impl.Block{Id: math.MinInt}) {
		t.Error("what is no block")
	}
}

func TestFollows(t *testing.T) {
	for _, x := range []struct {
		round int
		qc    int
		tc    impl.Tc
		want  bool
	}{
		// Behind its certificate, with no Tc.
		{1, 0, impl.Tc{}, true}, {2, 1, impl.Tc{}, true}, {6, 5, impl.Tc{}, true}, {10000, 9999, impl.Tc{}, true},
		// Rounds that were left out, without a reason.
		{2, 0, impl.Tc{}, false}, {6, 4, impl.Tc{}, false}, {6, 0, impl.Tc{}, false}, {10000, 0, impl.Tc{}, false}, {6, 6, impl.Tc{}, false}, {6, 7, impl.Tc{}, false},
		// With one: the Tc's Round comes just ahead, and the Qc is no older than what those who left knew.
		{2, 0, tcOf(1, "a b", 0, 0), true}, {6, 3, tcOf(5, "a b c", 1, 3, 0), true}, {6, 4, tcOf(5, "a b c", 1, 3, 0), true}, {6, 2, tcOf(5, "a b c", 1, 3, 0), false}, {6, 0, tcOf(5, "a b c", 1, 3, 0), false},
		{6, 3, tcOf(4, "a b c", 1, 3, 0), false}, {6, 3, tcOf(3, "a b", 0, 0), false}, {6, 3, tcOf(6, "a b", 0, 0), false}, {6, 3, tcOf(1, "a b", 0, 0), false}, {6, 3, tcOf(7, "a b", 0, 0), false},
		{6, 0, tcOf(5, "a b", 0, 0), true}, {6, 4, tcOf(5, "a", 4), true}, {6, 3, tcOf(5, "a", 4), false}, {6, 0, tcOf(5, ""), true}, {10000, 9998, tcOf(9999, "a", 9998), true}, {10000, 9997, tcOf(9999, "a", 9998), false},
		// A Tc where no round was left out: it must fit, too.
		{6, 5, tcOf(5, "a", 4), true}, {6, 5, tcOf(4, "a", 0), false}, {6, 5, tcOf(3, ""), false}, {6, 5, tcOf(1, "a", 0), false},
		// None has nothing: what has a name or a High is not none.
		{6, 5, tcOf(0, "a"), false}, {6, 5, tcOf(0, "", 0), false}, {6, 5, tcOf(0, "a", 0), false}, {1, 0, tcOf(0, "a"), false}, {1, 0, tcOf(0, "", 0), false}, {1, 0, tcOf(0, "a", 0), false},
		// The block need not be right.
		{0, -1, impl.Tc{}, true}, {-5, -6, impl.Tc{}, true}, {10002, 10001, impl.Tc{}, true}, {10002, 7, tcOf(10001, "a", 7), true}, {0, 5, tcOf(-1, "a", 0), false}, {-5, 5, tcOf(-6, "a", 0), false},
		{6, 3, tcOf(5, "", 3), true}, {6, 3, tcOf(5, "", 4), false}, {6, 9, tcOf(5, "b a", 8, 9, 7), true}, {6, -3, tcOf(5, "a", -3), true}, {6, -4, tcOf(5, "a", -3), false}, {6, -1, tcOf(5, ""), false},
	} {
		for _, b := range []impl.Block{firstBlock(), endBlock(), {}} {
			b.Round, b.Qc.Round, b.Tc = x.round, x.qc, x.tc
			if got := impl.Follows(b); got != x.want || followsWanted(b) != x.want {
				t.Errorf("in the Round %d, a Qc of the Round %d, a Tc %+v: %v", x.round, x.qc, x.tc, got)
			}
		}
	}
	for _, b := range []impl.Block{firstBlock(), nextBlock(), leftBlock(), endBlock(), fullBlock()} {
		if !impl.Follows(b) {
			t.Errorf("does not follow: %+v", b)
		}
	}
}

// One less than the least number is none, least of all the greatest.
func TestFollowsOfGreatNumbers(t *testing.T) {
	numbers := append(greatNumbers(), 0, 1, -1, 2, 5, 10000, 10001, math.MaxInt-2, math.MinInt+2)
	for _, round := range numbers {
		for _, qc := range numbers {
			for _, tc := range numbers {
				for _, x := range []impl.Tc{{}, {Round: tc}, tcOf(tc, "a", tc), tcOf(tc, "a b", 0, qc), tcOf(tc, "", round)} {
					b := impl.Block{Round: round, Qc: impl.Qc{Round: qc}, Tc: x}
					if got := impl.Follows(b); got != followsWanted(b) {
						t.Errorf("in the Round %d, a Qc of the Round %d, a Tc %+v: %v", round, qc, x, got)
					}
				}
			}
		}
	}
	for _, b := range []impl.Block{{Round: math.MinInt, Qc: impl.Qc{Round: math.MaxInt}}, {Round: math.MinInt, Qc: impl.Qc{Round: math.MaxInt}, Tc: tcOf(math.MaxInt, "a", 0)}} {
		if impl.Follows(b) {
			t.Errorf("follows: %+v", b)
		}
	}
	if !impl.Follows(impl.Block{Round: math.MinInt + 1, Qc: impl.Qc{Round: math.MinInt}}) || !impl.Follows(impl.Block{Round: math.MaxInt, Tc: tcOf(math.MaxInt-1, "a", 0)}) {
		t.Error("the least and the greatest that follow")
	}
}

// anyBlockOf has parts of which most are right, and some are not.
func anyBlockOf(r *rand.Rand) impl.Block {
	b := impl.Block{Id: pick(r, 3, 4, 100000, 1, 0, -1, 100001, math.MaxInt, math.MinInt), Epoch: pick(r, 3, 0, 1, 900, 901, -1, math.MaxInt), Round: pick(r, 3, 6, 10000, 3, 1, 2, 0, 10001, math.MinInt), By: anyVoter(r)}
	b.Qc = impl.Qc{Round: pick(r, 3, 1, 2, b.Round-1, 0, b.Round, -1, math.MaxInt), Block: pick(r, 3, 0, 0, b.Id-1, b.Id, -1, math.MinInt), Who: anyWho(r)}
	if r.Intn(3) == 0 {
		b.Qc = rootQc()
	}
	if r.Intn(3) > 0 {
		b.Tc = impl.Tc{Round: pick(r, 3, b.Round-1, 2, 1, 0, b.Round, math.MaxInt, math.MinInt), Who: anyWho(r)}
		for range len(b.Tc.Who) + pick(r, 1, 0, 1, 2) {
			b.Tc.Highs = append(b.Tc.Highs, pick(r, 3, 0, 0, b.Tc.Round-1, 1, b.Tc.Round, -1, math.MaxInt))
		}
	}
	right := rightTxs()
	for range pick(r, 5, 0, 1, 2, 3, 4, 5) {
		b.Txs = append(b.Txs, right[r.Intn(len(right))])
		if r.Intn(30) == 0 {
			b.Txs[0] = anyTx(r)
		}
	}
	if b.End = r.Intn(2) == 0; b.End {
		b.Next, b.Root = anyVals(r), root32
	}
	if r.Intn(12) == 0 {
		b.Root = root32[:pick(r, 2, 0, 31, 1)]
	}
	if r.Intn(12) == 0 {
		b.End = !b.End
	}
	return b
}

func anyWho(r *rand.Rand) []string {
	var who []string
	for range r.Intn(5) {
		who = append(who, anyVoter(r))
	}
	if r.Intn(8) > 0 {
		slices.Sort(who)
		who = slices.Compact(who)
	}
	return who
}

func TestBlocksOfAnything(t *testing.T) {
	r := rand.New(rand.NewSource(27))
	right, follow := 0, 0
	for range 20000 {
		b := anyBlockOf(r)
		if checkBlock(t, b) {
			right++
		}
		if impl.Follows(b) {
			follow++
		}
		if putable(b) {
			if checkGet(t, []byte(blockBytes(b))) && !blockWanted(b) && !blockPartsMoved(b) {
				t.Errorf("read, but not right: %+v", b)
			}
		}
		other := anyBlockOf(r)
		if impl.SameBlock(b, other) != sameFields(b, other) {
			t.Errorf("%+v and %+v", b, other)
		}
	}
	if right < 2000 || follow < 2000 {
		t.Errorf("too few are right, or follow: %d, %d", right, follow)
	}
}

// blockPartsMoved: with another number of Highs than of names, bytes are read as other parts than they were put as.
func blockPartsMoved(b impl.Block) bool { return len(b.Tc.Highs) != len(b.Tc.Who) }

func TestBlocksOfAnyBytes(t *testing.T) {
	r := rand.New(rand.NewSource(28))
	blocks, taken := rightBlocks(), 0
	for range 60000 {
		b := []byte(blockBytes(blocks[r.Intn(len(blocks))]))
		for range r.Intn(4) {
			b[r.Intn(len(b))] = byte(r.Intn(256) >> r.Intn(7))
		}
		if r.Intn(6) == 0 {
			from := r.Intn(len(b))
			b = append(b[:from:from], b[from+r.Intn(len(b)-from):]...)
		}
		if checkGet(t, b) {
			taken++
		}
	}
	for range 60000 {
		b := make([]byte, r.Intn(40))
		for i := range b {
			b[i] = byte(r.Intn(256) >> r.Intn(8))
		}
		checkGet(t, b)
	}
	if taken < 5000 {
		t.Error("too few could be read:", taken)
	}
}

// A blockCall is a block and bytes, and all that chapter 9 can be asked of them.
type blockCall struct {
	a, b  impl.Block
	bytes []byte
}

func blockCalls() []blockCall {
	wrong := with(endBlock(), func(b *impl.Block) { b.Root = "" })
	return []blockCall{
		{firstBlock(), firstBlock(), []byte(blockBytes(firstBlock()))},
		{nextBlock(), leftBlock(), []byte(blockBytes(leftBlock()))},
		{endBlock(), endBlock(), []byte(blockBytes(endBlock()))},
		{fullBlock(), endBlock(), []byte(blockBytes(fullBlock()))},
		{wrong, wrong, []byte(blockBytes(wrong))},
		{leftBlock(), impl.Block{}, []byte(blockBytes(endBlock()))[:60]},
		{with(leftBlock(), func(b *impl.Block) { slices.Reverse(b.Tc.Who) }), leftBlock(), []byte(blockBytes(nextBlock()) + "\x00")},
		{impl.Block{}, impl.Block{}, nil},
	}
}

func (c blockCall) ask() string {
	got, ok := impl.GetBlock(c.bytes)
	return fmt.Sprintf("%v %x %q %v %v %v", impl.BlockOk(c.a), impl.PutBlock(c.a), fieldsOf(got), ok, impl.SameBlock(c.a, c.b), impl.Follows(c.a))
}

func (c blockCall) wanted() string {
	put := ""
	if blockWanted(c.a) {
		put = blockBytes(c.a)
	}
	got, ok := blockAtWanted(c.bytes)
	return fmt.Sprintf("%v %x %q %v %v %v", blockWanted(c.a), put, fieldsOf(got), ok, sameFields(c.a, c.b), followsWanted(c.a))
}

// roomyBlock lays what would change an answer behind each list, in its spare room.
func roomyBlock(b impl.Block) impl.Block {
	b.Qc.Who = append(slices.Clone(b.Qc.Who), "zz", "zzz")
	b.Tc.Who = append(slices.Clone(b.Tc.Who), "zz", "zzz")
	b.Tc.Highs = append(slices.Clone(b.Tc.Highs), 0, 9999)
	b.Txs = append(slices.Clone(b.Txs), pay("x", "y", 1, 1), impl.Tx{Kind: 9})
	b.Next = append(slices.Clone(b.Next), impl.Val{Name: "zzz", Weight: 7}, impl.Val{})
	return b
}

// cutBlock is b with lists as long as those of d.
func cutBlock(b, d impl.Block) impl.Block {
	b.Qc.Who, b.Tc.Who, b.Tc.Highs = b.Qc.Who[:len(d.Qc.Who)], b.Tc.Who[:len(d.Tc.Who)], b.Tc.Highs[:len(d.Tc.Highs)]
	b.Txs, b.Next = b.Txs[:len(d.Txs)], b.Next[:len(d.Next)]
	return b
}

func (c blockCall) roomy() blockCall {
	return blockCall{roomyBlock(c.a), roomyBlock(c.b), []byte(string(c.bytes) + "\x00\x01\x02\xffroom")}
}

func (c blockCall) cutTo(d blockCall) blockCall {
	return blockCall{cutBlock(c.a, d.a), cutBlock(c.b, d.b), c.bytes[:len(d.bytes)]}
}

func TestBlocksLeaveTheirArguments(t *testing.T) {
	for i, c := range blockCalls() {
		// Both are made ahead of the first call: it could write into what they are made of.
		room, kept, keptCall := c.roomy(), c.roomy(), fmt.Sprintf("%+v", c)
		want := c.wanted()
		if got := c.ask(); got != want {
			t.Errorf("%d: %s, not %s", i, got, want)
		}
		if got := room.cutTo(c).ask(); got != want {
			t.Errorf("%d: what lies behind the lists was read: %s, not %s", i, got, want)
		}
		if fmt.Sprintf("%+v", room) != fmt.Sprintf("%+v", kept) || fmt.Sprintf("%+v", c) != keptCall {
			t.Errorf("%d: wrote into an argument or behind it: %+v, not %+v", i, room, kept)
		}
	}
}

// scribbleBlock writes over one list of a block after the other, to the end of its room, and tells after each what the others are.
func scribbleBlock(b impl.Block, look func(list string)) {
	fill(b.Qc.Who, "written")
	look("Qc.Who")
	fill(b.Tc.Who, "written")
	look("Tc.Who")
	fill(b.Tc.Highs, -99)
	look("Tc.Highs")
	fill(b.Txs, impl.Tx{Kind: -99})
	look("Txs")
	fill(b.Next, impl.Val{Name: "written", Weight: -99})
	look("Next")
}

func fill[T any](l []T, x T) {
	l = l[:cap(l)]
	for i := range l {
		l[i] = x
	}
}

// The lists of an answer are apart from each other: what is written into one is seen in no other.
func TestBlockListsAreApart(t *testing.T) {
	for _, want := range []impl.Block{leftBlock(), endBlock(), fullBlock()} {
		got, _ := impl.GetBlock([]byte(blockBytes(want)))
		// Each list that was written over is put back, so that only another one can differ.
		scribbleBlock(got, func(list string) {
			whole := got
			switch list {
			case "Qc.Who":
				whole.Qc.Who = want.Qc.Who
			case "Tc.Who":
				whole.Qc.Who, whole.Tc.Who = want.Qc.Who, want.Tc.Who
			case "Tc.Highs":
				whole.Qc.Who, whole.Tc = want.Qc.Who, want.Tc
			case "Txs":
				whole.Qc.Who, whole.Tc, whole.Txs = want.Qc.Who, want.Tc, want.Txs
			default:
				whole.Qc.Who, whole.Tc, whole.Txs, whole.Next = want.Qc.Who, want.Tc, want.Txs, want.Next
			}
			if !sameFields(whole, want) {
				t.Errorf("what is written into %s is seen elsewhere: %+v", list, whole)
			}
		})
	}
}

// What is answered shares no memory with an argument, nor with another answer; no call keeps anything for another.
func TestBlocksKeepNothing(t *testing.T) {
	for i, c := range blockCalls() {
		room, kept, want := c.roomy(), c.roomy(), c.ask()
		cut := room.cutTo(c)
		put := impl.PutBlock(cut.a)
		got, ok := impl.GetBlock(cut.bytes)
		wantPut, wantGot := slices.Clone(put), cloneBlock(got)
		for _, other := range append(blockCalls(), c) {
			fill(impl.PutBlock(other.a), 99)
			b, _ := impl.GetBlock(other.bytes)
			scribbleBlock(b, func(string) {})
			other.ask()
		}
		if !bytes.Equal(put, wantPut) || !sameFields(got, wantGot) {
			t.Errorf("%d: two answers share memory: %x, %+v", i, put, got)
		}
		fill(room.bytes, 99)
		scribbleBlock(room.a, func(string) {})
		if !bytes.Equal(put, wantPut) || !sameFields(got, wantGot) || ok == isZeroBlock(got) {
			t.Errorf("%d: an answer shares memory with an argument: %x, %+v", i, put, got)
		}
		again := c.roomy()
		fill(impl.PutBlock(again.cutTo(c).a), 99)
		got, _ = impl.GetBlock(again.cutTo(c).bytes)
		scribbleBlock(got, func(string) {})
		if fmt.Sprintf("%+v", again) != fmt.Sprintf("%+v", kept) || c.ask() != want {
			t.Errorf("%d: what is written into an answer is seen elsewhere: %s, not %s", i, c.ask(), want)
		}
	}
}

// What was refused leaves nothing behind: what comes next is answered as if it came first.
func TestBlocksBehindOneAnother(t *testing.T) {
	right, wrong := rightBlocks(), wrongBlocks()
	for i, b := range right {
		want := blockBytes(b)
		refusesBlock(t, []byte(want[:len(want)-1]))
		if w := wrong[i%len(wrong)]; len(impl.PutBlock(w)) != 0 || string(impl.PutBlock(b)) != want {
			t.Errorf("behind %+v: %x, not %x", w, impl.PutBlock(b), want)
		}
		if got, ok := impl.GetBlock([]byte(want)); !ok || !sameFields(got, b) {
			t.Errorf("behind what was refused: %+v %v", got, ok)
		}
	}
}

func TestBlocksOfVeryMany(t *testing.T) {
	long := strings.Repeat("a", 1<<20)
	for what, b := range map[string]impl.Block{
		"By": with(endBlock(), func(b *impl.Block) { b.By = long }), "Qc.Who": with(endBlock(), func(b *impl.Block) { b.Qc.Who = manyNames(9000) }), "Tc.Who": with(endBlock(), func(b *impl.Block) { b.Tc.Who, b.Tc.Highs = manyNames(9000), make([]int, 9000) }), "Tc.Highs": with(endBlock(), func(b *impl.Block) { b.Tc.Highs = make([]int, 1<<20) }),
		"Txs": with(endBlock(), func(b *impl.Block) { b.Txs = slices.Repeat(someTxs(1), 1<<16) }), "Next": with(endBlock(), func(b *impl.Block) { b.Next = alikeVals(9000, 5) }), "Root": with(endBlock(), func(b *impl.Block) { b.Root = long }),
	} {
		if impl.BlockOk(b) || len(impl.PutBlock(b)) != 0 || !impl.SameBlock(b, cloneBlock(b)) || impl.SameBlock(b, endBlock()) {
			t.Errorf("very much of %s", what)
		}
		if what != "Tc.Highs" { // as bytes it moves what comes behind
			refusesBlock(t, []byte(blockBytes(with(b, func(b *impl.Block) { b.Txs = b.Txs[:min(len(b.Txs), 200)] }))))
		}
	}
}
