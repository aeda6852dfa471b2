package tests

import (
	"fmt"
	"math"
	"math/rand"
	"slices"
	"strings"
	"testing"

	"loop.example/g00194/impl"
)

// A bodyMade is what MakeBody answers.
type bodyMade struct {
	txs  []impl.Tx
	end  bool
	next []impl.Val
	root string
}

func madeAt(base impl.Ledger, l []impl.Block, p int, txs []impl.Tx) bodyMade {
	var m bodyMade
	m.txs, m.end, m.next, m.root = impl.MakeBody(base, l, p, txs)
	return m
}

func bodyOfBlock(b impl.Block) bodyMade { return bodyMade{b.Txs, b.End, b.Next, b.Root} }

func (m bodyMade) same(x bodyMade) bool {
	return slices.Equal(m.txs, x.txs) && m.end == x.end && slices.Equal(m.next, x.next) && m.root == x.root
}

func (m bodyMade) isNone() bool { return m.same(bodyMade{}) }

// in is the block with this body.
func (m bodyMade) in(b impl.Block) impl.Block {
	b.Txs, b.End, b.Next, b.Root = m.txs, m.end, m.next, m.root
	return cloneBlock(b)
}

func (m bodyMade) String() string {
	return fmt.Sprintf("%v %v %v %q", m.txs, m.end, m.next, m.root)
}

func ledgerAtWanted(base impl.Ledger, l []impl.Block, id int) (impl.Ledger, bool) {
	chain := chainWanted(l, id)
	for _, x := range chain {
		b, _ := blockAtIdWanted(l, x)
		base, _ = applyAllWanted(base, b.Txs)
	}
	return base, len(chain) > 0 || id == -1
}

func endedWanted(l []impl.Block, id int) bool {
	return slices.ContainsFunc(chainWanted(l, id), func(x int) bool {
		b, _ := blockAtIdWanted(l, x)
		return b.End
	})
}

func bodyWanted(base impl.Ledger, l []impl.Block, b impl.Block) bool {
	at, there := ledgerAtWanted(base, l, b.Qc.Block)
	if !treeWanted(l) || !there {
		return false
	}
	nothingMore := len(b.Next) == 0 && b.Root == ""
	if endedWanted(l, b.Qc.Block) {
		return len(b.Txs) == 0 && !b.End && nothingMore
	}
	after, good := applyAllWanted(at, b.Txs)
	if good != len(b.Txs) || b.End != (len(chainWanted(l, b.Qc.Block)) == 1) {
		return false
	}
	next := nextWanted(after)
	return !b.End && nothingMore || b.End && slices.Equal(b.Next, setOfWanted(next)) && b.Root == rootWanted(next)
}

func makeWanted(base impl.Ledger, l []impl.Block, p int, txs []impl.Tx) bodyMade {
	var m bodyMade
	at, there := ledgerAtWanted(base, l, p)
	if !treeWanted(l) || !there || endedWanted(l, p) {
		return m
	}
	for _, x := range txs {
		if after, code := applyWanted(at, x); code == 0 && len(m.txs) < 4 {
			m.txs, at = append(m.txs, x), after
		}
	}
	if len(chainWanted(l, p)) == 1 {
		m.end, m.next, m.root = true, setOfWanted(nextWanted(at)), rootWanted(nextWanted(at))
	}
	return m
}

// placed is a block of no body, with the next Id, behind p.
func placed(l []impl.Block, p int) impl.Block {
	b := impl.Block{Round: 1, By: "ann", Qc: rootQc()}
	if len(l) > 0 {
		b.Id, b.Epoch = l[len(l)-1].Id+1, l[0].Epoch
	}
	if x, ok := blockAtIdWanted(l, p); ok {
		b.Round, b.Qc = x.Round+1, qcOf(x.Round, x.Id, "a b c")
	}
	return b
}

func checkLedgerAt(t *testing.T, base impl.Ledger, l []impl.Block, id int) (impl.Ledger, bool) {
	t.Helper()
	got, ok := impl.LedgerAt(base, l, id)
	if want, wantOk := ledgerAtWanted(base, l, id); ok != wantOk || !sameLedger(got, want) {
		t.Errorf("LedgerAt(%.300v, %s, %d): %.300v %v, not %.300v %v", fmt.Sprint(base), tells(l), id, fmt.Sprint(got), ok, fmt.Sprint(want), wantOk)
	}
	if impl.Ended(l, id) != endedWanted(l, id) {
		t.Errorf("Ended(%s, %d): %v", tells(l), id, !endedWanted(l, id))
	}
	return got, ok
}

func checkBody(t *testing.T, base impl.Ledger, l []impl.Block, b impl.Block) bool {
	t.Helper()
	got := impl.BodyOk(base, l, b)
	if got != bodyWanted(base, l, b) {
		t.Errorf("BodyOk(%.300v, %s, %.600v): %v", fmt.Sprint(base), tells(l), fmt.Sprintf("%+v", b), got)
	}
	return got
}

// checkMake holds what is made for a place against what is wanted, and against what a block there must do.
func checkMake(t *testing.T, base impl.Ledger, l []impl.Block, p int, txs []impl.Tx) bodyMade {
	t.Helper()
	made, want := madeAt(base, l, p, txs), makeWanted(base, l, p, txs)
	if !made.same(want) {
		t.Errorf("MakeBody(%.300v, %s, %d, %.300v): %v, not %v", fmt.Sprint(base), tells(l), p, fmt.Sprint(txs), made, want)
	}
	_, there := ledgerAtWanted(base, l, p)
	b := made.in(placed(l, p))
	// A place that is not there can't be told by a block's Qc unless it is told that of the block alone.
	b.Qc.Block = p
	if got, right := checkBody(t, base, l, b), there && treeWanted(l); got != right {
		t.Errorf("what is made for %d of %s is BodyOk: %v", p, tells(l), got)
	}
	return made
}

// changesOfBody: a body, changed in one way, by what that is. (Not each change is one: a body without orders has none to take away.)
func changesOfBody(m bodyMade) map[string]bodyMade {
	flip := func(c byte) string { return string([]byte{c ^ 1}) }
	other := map[string]bodyMade{
		"another End": {m.txs, !m.end, m.next, m.root}, "another End, and nothing else": {m.txs, !m.end, nil, ""}, "another End, with all that is told": {m.txs, !m.end, valsTold("a:20 c:5"), root32},
		"no Next": {m.txs, m.end, nil, m.root}, "another Next": {m.txs, m.end, valsTold("zz:9"), m.root}, "one more in Next": {m.txs, m.end, append(slices.Clone(m.next), impl.Val{Name: "zzz", Weight: 5}), m.root},
		"no Root": {m.txs, m.end, m.next, ""}, "another Root": {m.txs, m.end, m.next, root32}, "a longer Root": {m.txs, m.end, m.next, m.root + "\x00"},
		"an order that is not there": {append(slices.Clone(m.txs), impl.Tx{}), m.end, m.next, m.root}, "an order of nobody": {append([]impl.Tx{pay("nobody", "a", 1, 0)}, m.txs...), m.end, m.next, m.root},
		"no orders": {nil, m.end, m.next, m.root}, "each order twice": {append(slices.Clone(m.txs), m.txs...), m.end, m.next, m.root},
	}
	if len(m.txs) > 0 {
		other["without the first order"] = bodyMade{m.txs[1:], m.end, m.next, m.root}
		other["without the last order"] = bodyMade{m.txs[:len(m.txs)-1], m.end, m.next, m.root}
		back := slices.Clone(m.txs)
		slices.Reverse(back)
		other["the orders back to front"] = bodyMade{back, m.end, m.next, m.root}
	}
	for i, v := range m.next {
		for what, put := range map[string][]impl.Val{"more": {{Name: v.Name, Weight: v.Weight + 1}}, "less": {{Name: v.Name, Weight: v.Weight - 1}}, "nothing": nil, "another name": {{Name: v.Name + "x", Weight: v.Weight}}, "the same twice": {v, v}} {
			other[fmt.Sprintf("the %d-th of Next weighs %s", i, what)] = bodyMade{m.txs, m.end, slices.Concat(m.next[:i], put, m.next[i+1:]), m.root}
		}
	}
	for i := 0; i < len(m.root); i += 31 {
		other[fmt.Sprintf("another %d-th byte of Root", i)] = bodyMade{m.txs, m.end, m.next, m.root[:i] + flip(m.root[i]) + m.root[i+1:]}
	}
	return other
}

// stakedBase: b has one less than MinStake at stake, c just that; what of c leaves is free in the next epoch.
func stakedBase() impl.Ledger {
	return ledgerOf(0, impl.Acct{Name: "a", Free: 10, Stake: 20}, impl.Acct{Name: "b", Free: 10, Stake: 4}, impl.Acct{Name: "c", Free: 3, Stake: 5, Leaves: leavesAt(2, 1)})
}

// deeds lays orders into the blocks of a tree, one list a block.
func deeds(l []impl.Block, txs ...[]impl.Tx) []impl.Block {
	for i := range txs {
		l[i].Txs = txs[i]
	}
	return l
}

// deedTree: two blocks behind 0, another branch, and orders that are not good in 5.
func deedTree() []impl.Block {
	return deeds(treeTold("0/1 1/2<0 2/2<0 3/1 4/3<3 5/4<1"),
		[]impl.Tx{pay("a", "b", 4, 0)}, []impl.Tx{stakes(2, "b", 9, 0)}, []impl.Tx{stakes(3, "a", 5, 1), pay("b", "new", 1, 0)}, nil,
		[]impl.Tx{stakes(3, "a", 20, 0), stakes(2, "c", 3, 0)}, []impl.Tx{pay("a", "a", 1, 1), pay("a", "c", 99, 2), stakes(2, "b", 5, 1), pay("a", "b", 1, 0)})
}

// endsAt marks these blocks of a tree as Ends.
func endsAt(l []impl.Block, ids ...int) []impl.Block {
	for i := range l {
		if slices.Contains(ids, l[i].Id) {
			l[i].End, l[i].Next, l[i].Root = true, valsTold("a:20 c:5"), root32
		}
	}
	return l
}

// deedTrees: trees of none, one and several blocks, with and without orders, with and without an End.
func deedTrees() [][]impl.Block {
	first := deeds(treeTold("7/3"), []impl.Tx{stakes(2, "b", 1, 0), stakes(3, "c", 1, 0)})
	return [][]impl.Block{
		nil, {}, treeTold("0/1"), treeTold("0/1 1/1 2/1"), first, deedTree(), deedTree()[:1], deedTree()[:2], rowTold(2), rowTold(3), rowTold(6),
		endsAt(cloneTree(first), 7), endsAt(deedTree(), 0), endsAt(deedTree(), 1), endsAt(deedTree(), 2, 4), endsAt(deedTree(), 3), endsAt(rowTold(5), 1), endsAt(rowTold(5), 1, 3), endsAt(rowTold(5), 0),
		deeds(treeTold("99999/9998 100000/10000<99999"), []impl.Tx{stakes(3, "a", 16, 0)}),
	}
}

// someOrders: lists of orders that fit at stakedBase, that do not, and that fit behind one another alone.
func someOrders() [][]impl.Tx {
	return [][]impl.Tx{
		nil, {}, {pay("a", "b", 4, 0)}, {stakes(2, "a", 99, 0)}, {pay("a", "b", 4, 0), stakes(2, "b", 14, 0)}, {stakes(2, "b", 14, 0), pay("a", "b", 4, 0)}, {pay("a", "z", 5, 0), pay("z", "b", 3, 0)}, {pay("z", "b", 3, 0), pay("a", "z", 5, 0)},
		{stakes(2, "b", 1, 0)}, {stakes(3, "c", 1, 0)}, {stakes(3, "a", 15, 0)}, {stakes(3, "a", 16, 0)}, {stakes(3, "a", 20, 0), stakes(3, "c", 5, 0)}, {stakes(2, "b", 1, 0), stakes(3, "b", 5, 1), stakes(3, "b", 1, 1)},
		{pay("a", "b", 1, 0), pay("a", "b", 1, 1), pay("a", "b", 1, 2), pay("a", "b", 1, 3), pay("a", "b", 1, 4)}, {pay("a", "b", 1, 1), pay("a", "b", 2, 0), pay("a", "b", 3, 1)}, {pay("a", "c", 1, 1), stakes(2, "b", 2, 1), pay("b", "c", 1, 1)},
		{{}, pay("a", "b", 1, 0), {Kind: 9, From: "a", Amount: 1}, stakes(2, "b", 1, 0), pay("c", "A", 1, 0), stakes(3, "c", 1, 0)}, {pay("a", "b", 1, 10000), pay("a", "b", math.MaxInt, 0), pay("a", "b", math.MinInt, 0), pay("a", "b", 0, 0)},
	}
}

func someBases() []impl.Ledger {
	first, last := ledgerOf(899, stakedBase().Accts...), ledgerOf(900, stakedBase().Accts...)
	return []impl.Ledger{stakedBase(), first, last, ledgerOf(0), ledgerOf(3, mixedAccts()...), ledgerOf(5, threeAccts()...), ledgerOf(901, stakedBase().Accts...), ledgerOf(-1, stakedBase().Accts...), ledgerOf(0, impl.Acct{Name: "b", Free: 9, Stake: 9}, impl.Acct{Name: "a", Free: 9, Stake: 9})}
}

func TestEpochLen(t *testing.T) {
	if impl.EpochLen != 2 {
		t.Error("EpochLen", impl.EpochLen)
	}
}

func TestLedgerAtKnown(t *testing.T) {
	a, b, c := stakedBase().Accts[0], stakedBase().Accts[1], stakedBase().Accts[2]
	paid := []impl.Acct{{Name: "a", Free: 6, Nonce: 1, Stake: 20}, {Name: "b", Free: 14, Stake: 4}, c}
	for id, want := range map[int][]impl.Acct{
		-1: {a, b, c}, 0: paid, 1: {paid[0], {Name: "b", Free: 5, Nonce: 1, Stake: 13}, c},
		2: {{Name: "a", Free: 6, Nonce: 2, Stake: 15, Leaves: leavesAt(5, 2)}, {Name: "b", Free: 13, Nonce: 1, Stake: 4}, c, {Name: "new", Free: 1}}, 3: {a, b, c},
		4: {{Name: "a", Free: 10, Nonce: 1, Leaves: leavesAt(20, 2)}, b, {Name: "c", Nonce: 1, Stake: 8, Leaves: leavesAt(2, 1)}},
		// Two of the four orders of 5 are not good: they are left out.
		5: {{Name: "a", Free: 6, Nonce: 2, Stake: 20}, {Name: "b", Nonce: 2, Stake: 18}, c},
	} {
		if got, ok := checkLedgerAt(t, stakedBase(), deedTree(), id); !ok || !sameLedger(got, ledgerOf(0, want...)) {
			t.Errorf("at %d: %v %v, not %v", id, got, ok, want)
		}
		// An End among them is no end of the orders, and brings no other epoch.
		if got, ok := checkLedgerAt(t, stakedBase(), endsAt(deedTree(), 0, 1, 3), id); !ok || !sameLedger(got, ledgerOf(0, want...)) {
			t.Errorf("with Ends, at %d: %v %v, not %v", id, got, ok, want)
		}
	}
}

func TestLedgerAtEachPlace(t *testing.T) {
	for _, base := range append(someBases(), wrongLedgers()...) {
		for _, l := range deedTrees() {
			for _, id := range idsOf(l) {
				got, ok := checkLedgerAt(t, base, l, id)
				if _, there := blockAtIdWanted(l, id); ok != (there || id == -1) || !ok && !sameLedger(got, base) {
					t.Errorf("%s: at %d: %v", tells(l), id, ok)
				}
				if !ledgerWanted(base) && !sameLedger(got, base) {
					t.Errorf("a base that is not right is another one: %.300v", fmt.Sprint(got))
				}
			}
		}
	}
}

// The root is named ahead of a list that is no tree.
func TestLedgerAtOfNoTrees(t *testing.T) {
	for what, l := range wrongTrees() {
		for _, base := range []impl.Ledger{stakedBase(), ledgerOf(901, stakedBase().Accts...)} {
			for _, id := range idsOf(l) {
				if got, ok := checkLedgerAt(t, base, l, id); ok != (id == -1) || !sameLedger(got, base) || impl.Ended(l, id) {
					t.Errorf("%s: at %d: %v %v", what, id, got, ok)
				}
			}
		}
	}
	unsorted := endsAt(treeTold("1/2<0 0/1"), 0, 1)
	if impl.Ended(unsorted, 0) || impl.Ended(unsorted, 1) {
		t.Error("an End of no tree")
	}
}

func TestEndedKnown(t *testing.T) {
	told := "0/1 1/2<0 2/2<0 3/3<1 4/4<3 5/3<2 6/1"
	for _, x := range []struct {
		ends []int
		want []int
	}{
		{nil, nil}, {[]int{0}, []int{0, 1, 2, 3, 4, 5}}, {[]int{1}, []int{1, 3, 4}}, {[]int{2}, []int{2, 5}}, {[]int{3}, []int{3, 4}}, {[]int{4}, []int{4}}, {[]int{5}, []int{5}}, {[]int{6}, []int{6}},
		{[]int{1, 2}, []int{1, 2, 3, 4, 5}}, {[]int{1, 3}, []int{1, 3, 4}}, {[]int{4, 6}, []int{4, 6}},
	} {
		l := endsAt(treeTold(told), x.ends...)
		for _, id := range idsOf(l) {
			if got := impl.Ended(l, id); got != slices.Contains(x.want, id) {
				t.Errorf("Ends %v: Ended %d: %v", x.ends, id, got)
			}
		}
	}
	if impl.Ended(nil, -1) || impl.Ended(nil, 0) {
		t.Error("an End of no block")
	}
}

// The promise itself: what is made for a place, put into a block there, is what that block must do, and nothing else is.
func TestWhatIsMadeIsWhatABlockMustDo(t *testing.T) {
	right, ends := 0, 0
	for _, base := range someBases() {
		for _, l := range deedTrees() {
			for _, p := range placesOf(l) {
				for _, txs := range someOrders() {
					made := checkMake(t, base, l, p, txs)
					if right++; made.end {
						ends++
					}
					checkMadeStands(t, base, l, p, made)
				}
			}
		}
	}
	if right < 5000 || ends < 1000 {
		t.Errorf("too few: %d, %d", right, ends)
	}
}

func placesOf(l []impl.Block) []int {
	places := []int{-1}
	for _, b := range l {
		places = append(places, b.Id)
	}
	return places
}

// checkMadeStands: with the block that was made the tree goes on, the ledger at it is what its Root tells of, and it is Ended just if it is an End, or was.
func checkMadeStands(t *testing.T, base impl.Ledger, l []impl.Block, p int, made bodyMade) {
	t.Helper()
	b := made.in(placed(l, p))
	grown, ok := impl.AddTo(l, b)
	if !ok {
		// What must be done may be no block all the same: where nobody votes in the next epoch, or its number is too great.
		if nobody := made.end && len(made.next) == 0; !nobody && !outside(b.Id, 0, 100000) {
			t.Errorf("%s: no block: %+v", tells(l), b)
		}
		return
	}
	before, _ := impl.LedgerAt(base, l, p)
	after, there := impl.LedgerAt(base, grown, b.Id)
	want, good := impl.ApplyAll(before, made.txs)
	if !there || good != len(made.txs) || !sameLedger(after, want) {
		t.Errorf("%s: the ledger at %d: %v, not %v", tells(grown), b.Id, after, want)
	}
	if next := impl.NextEpoch(after); made.end && (made.root != impl.StateRoot(next) || !slices.Equal(made.next, impl.SetOf(next))) {
		t.Errorf("%s: %v does not tell of %v", tells(grown), made, next)
	}
	if impl.Ended(grown, b.Id) != (made.end || impl.Ended(l, p)) || made.end && impl.Ended(l, p) {
		t.Errorf("%s: Ended %d: %v", tells(grown), b.Id, impl.Ended(grown, b.Id))
	}
}

func TestBodiesChanged(t *testing.T) {
	for _, base := range someBases()[:4] {
		for _, l := range deedTrees() {
			for _, p := range placesOf(l) {
				for i, txs := range someOrders() {
					made := madeAt(base, l, p, txs)
					for what, m := range changesOfBody(made) {
						if got := checkBody(t, base, l, m.in(placed(l, p))); got && !m.same(made) && slices.Equal(m.txs, made.txs) {
							t.Errorf("%s: behind %d, of the orders %d, with %s: right", tells(l), p, i, what)
						}
					}
				}
			}
		}
	}
}

func TestOrdersTaken(t *testing.T) {
	base := ledgerOf(0, impl.Acct{Name: "a", Free: 10, Stake: 20}, impl.Acct{Name: "b", Free: 10})
	many := func(n int) []impl.Tx {
		var l []impl.Tx
		for i := range n {
			l = append(l, pay("a", "b", 1, i))
		}
		return l
	}
	bad := []impl.Tx{stakes(2, "a", 99, 0), pay("nobody", "a", 1, 0), pay("a", "b", 1, 9), {}, stakes(3, "b", 1, 0), pay("b", "A", 1, 0)}
	var between []impl.Tx
	for i, x := range many(6) {
		between = append(between, bad[i%6], x, bad[(i+3)%6])
	}
	for what, x := range map[string]struct{ txs, want []impl.Tx }{
		"none": {nil, nil}, "none of an empty list": {[]impl.Tx{}, nil}, "one": {many(1), many(1)}, "three": {many(3), many(3)}, "just four": {many(4), many(4)}, "one too many": {many(5), many(4)}, "far too many": {many(10), many(4)},
		"one that does not fit": {bad[:1], nil}, "none that fit": {bad, nil}, "good ones between others": {between, many(4)}, "good ones behind others": {append(slices.Clone(bad), many(5)...), many(4)}, "others behind good ones": {append(many(3), bad...), many(3)},
		"all that is free": {[]impl.Tx{pay("a", "b", 10, 0)}, []impl.Tx{pay("a", "b", 10, 0)}}, "one more than is free": {[]impl.Tx{pay("a", "b", 11, 0)}, nil}, "all at stake": {[]impl.Tx{stakes(3, "a", 20, 0)}, []impl.Tx{stakes(3, "a", 20, 0)}}, "one more than is at stake": {[]impl.Tx{stakes(3, "a", 21, 0)}, nil},
		"one behind the other":               {[]impl.Tx{pay("a", "b", 10, 0), stakes(2, "b", 20, 0), stakes(3, "b", 20, 1)}, []impl.Tx{pay("a", "b", 10, 0), stakes(2, "b", 20, 0), stakes(3, "b", 20, 1)}},
		"what fits behind a later one alone": {[]impl.Tx{stakes(2, "b", 20, 0), pay("a", "b", 10, 0)}, []impl.Tx{pay("a", "b", 10, 0)}}, "once more behind it": {[]impl.Tx{stakes(2, "b", 20, 0), pay("a", "b", 10, 0), stakes(2, "b", 20, 0)}, []impl.Tx{pay("a", "b", 10, 0), stakes(2, "b", 20, 0)}},
		"to one who is new, and on": {[]impl.Tx{pay("a", "z", 2, 0), pay("z", "y", 2, 0), pay("z", "y", 1, 1)}, []impl.Tx{pay("a", "z", 2, 0), pay("z", "y", 2, 0)}}, "of one who is not there yet": {[]impl.Tx{pay("z", "y", 2, 0), pay("a", "z", 2, 0)}, []impl.Tx{pay("a", "z", 2, 0)}},
		"the same twice": {[]impl.Tx{pay("a", "b", 1, 0), pay("a", "b", 1, 0)}, many(1)}, "two of one nonce": {[]impl.Tx{pay("a", "b", 2, 0), pay("a", "b", 1, 0)}, []impl.Tx{pay("a", "b", 2, 0)}}, "back to front": {[]impl.Tx{pay("a", "b", 1, 2), pay("a", "b", 1, 1), pay("a", "b", 1, 0)}, many(1)},
	} {
		// In an empty tree, behind a block that does nothing, and behind that, where the epoch ends.
		for p, l := range [][]impl.Block{nil, rowTold(1), rowTold(2)} {
			if made := checkMake(t, base, l, p-1, x.txs); !slices.Equal(made.txs, x.want) || made.end != (p == 1) {
				t.Errorf("%s, behind %d: %v, not %v", what, p-1, made, x.want)
			}
		}
		if made := checkMake(t, base, endsAt(rowTold(2), 1), 1, x.txs); !made.isNone() {
			t.Errorf("%s, behind an End: %v", what, made)
		}
	}
}

// What the chain ordered ahead of a block counts there, and what another branch ordered does not.
func TestOrdersAtTheirPlace(t *testing.T) {
	second, first := pay("a", "b", 1, 1), pay("a", "c", 2, 0)
	for p, want := range map[int][]impl.Tx{-1: {first}, 0: {second}, 1: {second}, 2: nil, 3: {first}, 4: {second}, 5: nil} {
		if made := checkMake(t, stakedBase(), deedTree(), p, []impl.Tx{second, first}); !slices.Equal(made.txs, want) {
			t.Errorf("behind %d: %v, not %v", p, made.txs, want)
		}
		for _, x := range []impl.Tx{first, second} {
			b := placed(deedTree(), p)
			b.Txs = []impl.Tx{x}
			if len(chainWanted(deedTree(), p)) != 1 && checkBody(t, stakedBase(), deedTree(), b) != slices.Contains(want, x) {
				t.Errorf("behind %d: whether %v is good", p, x)
			}
		}
	}
}

// How many orders a block may have, BlockOk asks: of a body each must be good, and no more.
func TestBodiesOfManyOrders(t *testing.T) {
	for n := range 11 {
		b := placed(nil, -1)
		for i := range n {
			b.Txs = append(b.Txs, pay("a", "b", 1, i))
		}
		if !checkBody(t, stakedBase(), nil, b) || impl.BlockOk(b) != (n <= 4) {
			t.Errorf("%d good orders", n)
		}
		for at := range n + 1 {
			spoilt := with(b, func(b *impl.Block) { b.Txs = slices.Insert(b.Txs, at, stakes(2, "a", 99, at)) })
			if checkBody(t, stakedBase(), nil, spoilt) {
				t.Errorf("%d good orders, and at %d one that is not", n, at)
			}
		}
	}
}

// The epoch ends with the EpochLen-th block of a chain, not ahead of it, and not behind it.
func TestEndsAtEpochLen(t *testing.T) {
	for n := range 7 {
		l := rowTold(n)
		for _, txs := range someOrders() {
			made := checkMake(t, stakedBase(), l, n-1, txs)
			if ends := n == 1; made.end != ends || len(made.next) > 0 && !ends || (made.root != "") != ends {
				t.Errorf("behind %d blocks: %v", n, made)
			}
		}
		b := placed(l, n-1)
		if checkBody(t, stakedBase(), l, b) != (n != 1) {
			t.Errorf("behind %d blocks one that is no End", n)
		}
		next := impl.NextEpoch(stakedBase())
		b.End, b.Next, b.Root = true, impl.SetOf(next), impl.StateRoot(next)
		if checkBody(t, stakedBase(), l, b) != (n == 1) {
			t.Errorf("behind %d blocks one that is an End", n)
		}
	}
	// It is the chain that counts, not how many blocks there are, nor their rounds or Ids.
	bush := bushTold(40)
	for _, p := range placesOf(bush) {
		if made := checkMake(t, stakedBase(), bush, p, nil); made.end != (p >= 0) {
			t.Errorf("behind %d of many: %v", p, made)
		}
	}
	far := treeTold("99998/9000")
	if !madeAt(stakedBase(), far, 99998, nil).end || madeAt(stakedBase(), far, -1, nil).end {
		t.Error("of great numbers")
	}
}

func TestEndsOfLongChains(t *testing.T) {
	l := rowTold(400)
	for i := range l {
		l[i].Txs = []impl.Tx{pay("a", "b", 1, 2*i), pay("b", "a", 1, i), pay("a", "a", 1, 2*i+1)}
	}
	got, ok := checkLedgerAt(t, stakedBase(), l, 399)
	if !ok || got.Accts[0].Nonce != 800 || got.Accts[1].Nonce != 400 || got.Accts[0].Free != 10 || got.Accts[1].Free != 10 {
		t.Error("behind 400 blocks:", got, ok)
	}
	if made := checkMake(t, stakedBase(), l, 399, []impl.Tx{pay("a", "b", 1, 799), pay("a", "b", 1, 800)}); made.end || len(made.txs) != 1 {
		t.Error("behind 400 blocks:", made)
	}
	if more := append(l, placed(l, 399)); !madeAt(stakedBase(), more, -1, nil).isNone() || impl.BodyOk(stakedBase(), more, placed(nil, -1)) {
		t.Error("of 401 blocks")
	}
}

// Behind an End nothing is done, however far behind, and also where the chain has as many blocks as an epoch's last one comes behind.
func TestBehindAnEnd(t *testing.T) {
	good := []impl.Tx{pay("a", "b", 1, 0)}
	next := impl.NextEpoch(stakedBase())
	for n := 1; n < 6; n++ {
		for end := range n {
			l := endsAt(rowTold(n), end)
			for p := end; p < n; p++ {
				if made := checkMake(t, stakedBase(), l, p, good); !made.isNone() {
					t.Errorf("the End at %d, behind %d: %v", end, p, made)
				}
				if !checkBody(t, stakedBase(), l, placed(l, p)) {
					t.Errorf("the End at %d, behind %d: nothing is not right", end, p)
				}
				for what, m := range map[string]bodyMade{
					"an order": {good, false, nil, ""}, "an order that is not good": {[]impl.Tx{{}}, false, nil, ""}, "an End": {nil, true, nil, ""}, "a Next": {nil, false, impl.SetOf(next), ""}, "a Root": {nil, false, nil, impl.StateRoot(next)}, "a Root of one byte": {nil, false, nil, "\x00"},
					"a Next and a Root": {nil, false, impl.SetOf(next), impl.StateRoot(next)}, "an End with all of it": {nil, true, impl.SetOf(next), impl.StateRoot(next)}, "all of it, and an order": {good, true, impl.SetOf(next), impl.StateRoot(next)}, "an empty Val": {nil, false, []impl.Val{{}}, ""},
				} {
					if checkBody(t, stakedBase(), l, m.in(placed(l, p))) {
						t.Errorf("the End at %d, behind %d: %s is right", end, p, what)
					}
				}
			}
			// Ahead of the End, and beside it, it is not there.
			for p := -1; p < end; p++ {
				if made := checkMake(t, stakedBase(), l, p, good); len(made.txs) != 1 || made.end != (p == 0) {
					t.Errorf("the End at %d, behind %d: %v", end, p, made)
				}
			}
		}
	}
}

// In the last epoch there is no next one: what is told of it is told of this one, and what leaves does not become free.
func TestLastEpochs(t *testing.T) {
	accts := []impl.Acct{{Name: "a", Free: 7, Stake: 20, Leaves: leavesAt(3, 899, 900, 901)}, {Name: "b", Free: 6, Stake: 4}}
	orders := []impl.Tx{stakes(2, "b", 1, 0), stakes(3, "a", 2, 0)}
	l := rowTold(1)
	for _, x := range []struct {
		epoch int
		want  impl.Ledger
	}{
		{898, ledgerOf(899, impl.Acct{Name: "a", Free: 10, Nonce: 1, Stake: 18, Leaves: leavesTold("900:5 901:3")}, impl.Acct{Name: "b", Free: 5, Nonce: 1, Stake: 5})},
		{899, ledgerOf(900, impl.Acct{Name: "a", Free: 13, Nonce: 1, Stake: 18, Leaves: leavesTold("901:5")}, impl.Acct{Name: "b", Free: 5, Nonce: 1, Stake: 5})},
		{900, ledgerOf(900, impl.Acct{Name: "a", Free: 7, Nonce: 1, Stake: 18, Leaves: leavesTold("899:3 900:3 901:3 902:2")}, impl.Acct{Name: "b", Free: 5, Nonce: 1, Stake: 5})},
	} {
		base := ledgerOf(x.epoch, accts...)
		made := checkMake(t, base, l, 0, orders)
		if !made.same(bodyMade{orders, true, valsTold("a:18 b:5"), rootWanted(x.want)}) || len(made.root) != 32 {
			t.Errorf("epoch %d: %v", x.epoch, made)
		}
		if wrong := made; checkBody(t, base, l, with(wrong.in(placed(l, 0)), func(b *impl.Block) { b.Root = rootWanted(ledgerOf(0, accts...)) })) {
			t.Errorf("epoch %d: the Root of another ledger", x.epoch)
		}
	}
}

func TestMinStakeAtTheEnd(t *testing.T) {
	for what, x := range map[string]struct {
		first, last []impl.Tx
		next        string
	}{
		"as it is":                          {nil, nil, "a:20 c:5"},
		"one more of b":                     {nil, []impl.Tx{stakes(2, "b", 1, 0)}, "a:20 b:5 c:5"},
		"one more of b, in the first block": {[]impl.Tx{stakes(2, "b", 1, 0)}, nil, "a:20 b:5 c:5"},
		"one less of c":                     {nil, []impl.Tx{stakes(3, "c", 1, 0)}, "a:20"},
		"one less of c, in the first block": {[]impl.Tx{stakes(3, "c", 1, 0)}, nil, "a:20"},
		"just MinStake left of a":           {nil, []impl.Tx{stakes(3, "a", 15, 0)}, "a:5 c:5"},
		"one less than that":                {nil, []impl.Tx{stakes(3, "a", 16, 0)}, "c:5"},
		"one less than that, in two steps":  {[]impl.Tx{stakes(3, "a", 15, 0)}, []impl.Tx{stakes(3, "a", 1, 1)}, "c:5"},
		"away and back again":               {[]impl.Tx{stakes(3, "c", 1, 0)}, []impl.Tx{stakes(2, "c", 1, 1)}, "a:20 c:5"},
		"one who is new":                    {[]impl.Tx{pay("a", "z", 5, 0)}, []impl.Tx{stakes(2, "z", 5, 0)}, "a:20 c:5 z:5"},
		"one who is new, with too little":   {[]impl.Tx{pay("a", "z", 5, 0)}, []impl.Tx{stakes(2, "z", 4, 0)}, "a:20 c:5"},
		"nobody":                            {[]impl.Tx{stakes(3, "a", 20, 0)}, []impl.Tx{stakes(3, "c", 5, 0)}, ""},
	} {
		l := deeds(rowTold(1), x.first)
		made := checkMake(t, stakedBase(), l, 0, x.last)
		if !made.end || !slices.Equal(made.next, valsTold(x.next)) || len(made.root) != 32 || !slices.Equal(made.txs, x.last) {
			t.Errorf("%s: %v", what, made)
		}
		// Where nobody votes, what must be is no block.
		if b := made.in(placed(l, 0)); !checkBody(t, stakedBase(), l, b) || impl.BlockOk(b) != (x.next != "") {
			t.Errorf("%s: BlockOk %v", what, impl.BlockOk(b))
		}
	}
}

// What was free already, and what is the ledger at the end of this epoch, is not what the next one begins with.
func TestRootsOfOtherLedgers(t *testing.T) {
	l := deeds(rowTold(1), []impl.Tx{pay("a", "b", 4, 0)})
	made := checkMake(t, stakedBase(), l, 0, []impl.Tx{stakes(2, "b", 9, 0)})
	before, _ := impl.LedgerAt(stakedBase(), l, 0)
	after, _ := impl.ApplyAll(before, made.txs)
	twice := impl.NextEpoch(impl.NextEpoch(after))
	for what, other := range map[string]impl.Ledger{"the base": stakedBase(), "the base, an epoch later": impl.NextEpoch(stakedBase()), "the ledger ahead of the block": before, "that, an epoch later": impl.NextEpoch(before), "the ledger behind the block, in the same epoch": after} {
		b := made.in(placed(l, 0))
		if b.Root = impl.StateRoot(other); checkBody(t, stakedBase(), l, b) {
			t.Error("the Root of", what)
		}
		if b.Root, b.Next = made.root, impl.SetOf(other); checkBody(t, stakedBase(), l, b) != slices.Equal(b.Next, made.next) {
			t.Error("the Next of", what)
		}
	}
	if made.root != impl.StateRoot(impl.NextEpoch(after)) || made.root != impl.StateRoot(twice) {
		t.Error("the Root tells of the accounts at the beginning of the next epoch")
	}
}

func TestBodiesOfNoTrees(t *testing.T) {
	good := []impl.Tx{pay("a", "b", 1, 0)}
	for what, l := range wrongTrees() {
		for _, p := range idsOf(l[:min(len(l), 9)]) {
			if made := madeAt(stakedBase(), l, p, good); !made.isNone() {
				t.Errorf("%s: made behind %d: %v", what, p, made)
			}
			for _, m := range []bodyMade{{}, {txs: good}, makeWanted(stakedBase(), nil, -1, good), makeWanted(stakedBase(), rowTold(1), 0, good)} {
				b := m.in(placed(nil, -1))
				if b.Qc.Block = p; impl.BodyOk(stakedBase(), l, b) {
					t.Errorf("%s: right behind %d", what, p)
				}
			}
		}
	}
}

func TestBodiesAtNoPlace(t *testing.T) {
	good := []impl.Tx{pay("a", "b", 1, 0)}
	for _, l := range deedTrees() {
		for _, p := range idsOf(l) {
			if slices.Contains(placesOf(l), p) {
				continue
			}
			if made := checkMake(t, stakedBase(), l, p, good); !made.isNone() {
				t.Errorf("%s: made behind %d: %v", tells(l), p, made)
			}
			for _, m := range []bodyMade{{}, {txs: good}, makeWanted(stakedBase(), rowTold(1), 0, good)} {
				b := m.in(placed(l, -1))
				if b.Qc.Block = p; checkBody(t, stakedBase(), l, b) {
					t.Errorf("%s: right behind %d", tells(l), p)
				}
			}
		}
	}
}

// At a base that is not right no order is good, and nobody votes; where the epoch ends, it ends with nothing told.
func TestBodiesOfWrongBases(t *testing.T) {
	var orders []impl.Tx
	for _, name := range []string{"a", "b", "c", "0", "aa", "zz"} {
		orders = append(orders, eachKind(name, 1, 0)...)
	}
	for _, base := range wrongLedgers() {
		for n, want := range []bodyMade{{}, {end: true}, {}, {}} {
			l := rowTold(n)
			if made := checkMake(t, base, l, n-1, orders); !made.same(want) {
				t.Errorf("%.200v, behind %d blocks: %v", fmt.Sprint(base), n, made)
			}
			for _, m := range []bodyMade{{txs: orders[:1], end: want.end}, {end: !want.end}, {end: want.end, next: valsTold("a:5")}, {end: want.end, root: root32}, {end: want.end, next: valsTold("a:5"), root: root32}} {
				if checkBody(t, base, l, m.in(placed(l, n-1))) {
					t.Errorf("%.200v, behind %d blocks: %v is right", fmt.Sprint(base), n, m)
				}
			}
		}
	}
}

func TestBodiesOfOrdersNotRight(t *testing.T) {
	base := ledgerOf(0, impl.Acct{Name: "a", Free: 500, Nonce: 3, Stake: 500}, impl.Acct{Name: "b", Free: 5})
	for n, l := range [][]impl.Block{nil, rowTold(1), rowTold(2)} {
		if made := checkMake(t, base, l, n-1, wrongTxs()); len(made.txs) != 0 {
			t.Errorf("behind %d: %v", n-1, made.txs)
		}
		for _, x := range wrongTxs() {
			made := checkMake(t, base, l, n-1, []impl.Tx{x, pay("a", "b", 1, 3), x})
			if !slices.Equal(made.txs, []impl.Tx{pay("a", "b", 1, 3)}) {
				t.Errorf("%v, behind %d: %v", x, n-1, made.txs)
			}
			b := made.in(placed(l, n-1))
			if b.Txs = append(b.Txs, x); checkBody(t, base, l, b) {
				t.Errorf("%v, behind %d: right", x, n-1)
			}
			if b.Txs = []impl.Tx{x}; checkBody(t, base, l, b) {
				t.Errorf("%v alone, behind %d: right", x, n-1)
			}
		}
	}
}

// Nothing else of a block is asked: not who made it, when, with which number, nor by whose certificates.
func TestBodiesAskNothingElse(t *testing.T) {
	for _, l := range deedTrees() {
		for _, p := range placesOf(l) {
			right := madeAt(stakedBase(), l, p, []impl.Tx{pay("a", "b", 1, 0), stakes(2, "b", 1, 0)})
			wrong := bodyMade{right.txs, !right.end, right.next, right.root}
			for _, n := range append(greatNumbers(), 0, 1, -1) {
				other := impl.Block{Id: n, Epoch: n, Round: n, By: fmt.Sprint(n), Qc: impl.Qc{Round: n, Block: p, Who: []string{"zz", "", "a"}}, Tc: impl.Tc{Round: n, Who: []string{"B"}, Highs: []int{n, n}}}
				if !checkBody(t, stakedBase(), l, right.in(other)) || checkBody(t, stakedBase(), l, wrong.in(other)) {
					t.Errorf("%s: behind %d, of %d", tells(l), p, n)
				}
			}
		}
	}
}

// anyDeeds is a tree whose blocks order things that are often good, and end epochs now and then.
func anyDeeds(r *rand.Rand, base impl.Ledger) []impl.Block {
	l := anyTree(r)
	for i := range l {
		at, _ := ledgerAtWanted(base, l[:i], l[i].Qc.Block)
		for range r.Intn(4) {
			x := anyOrder(r, at)
			if !txWanted(x) && r.Intn(20) > 0 {
				continue
			}
			l[i].Txs = append(l[i].Txs, x)
			at, _ = applyWanted(at, x)
		}
		if r.Intn(6) == 0 {
			l[i].End, l[i].Next, l[i].Root = true, valsTold("a:20"), root32
		}
	}
	return l
}

func TestBodiesOfAnything(t *testing.T) {
	r := rand.New(rand.NewSource(33))
	taken, ended, right, wrong, ends := 0, 0, 0, 0, 0
	for range 6000 {
		base := ledgerOf(pick(r, 6, r.Intn(3), 898, 899, 900, 901, -1), impl.Acct{Name: "a", Free: r.Intn(40), Stake: r.Intn(9)}, impl.Acct{Name: "b", Free: r.Intn(40), Stake: 3 + r.Intn(5)}, impl.Acct{Name: "c", Nonce: r.Intn(2), Stake: r.Intn(20), Leaves: leavesAt(1+r.Intn(3), r.Intn(4))})
		if r.Intn(12) == 0 {
			base.Accts = anyAccts(r)
		}
		l := anyDeeds(r, base)
		for range 4 {
			p := r.Intn(12) - 2
			if len(l) > 0 && r.Intn(2) == 0 {
				p = l[r.Intn(len(l))].Id
			}
			at, _ := checkLedgerAt(t, base, l, p)
			if impl.Ended(l, p) {
				ended++
			}
			var txs []impl.Tx
			for range r.Intn(9) {
				txs = append(txs, anyOrder(r, at))
				at, _ = impl.Apply(at, txs[len(txs)-1])
			}
			r.Shuffle(len(txs)*r.Intn(2), func(i, j int) { txs[i], txs[j] = txs[j], txs[i] })
			made := checkMake(t, base, l, p, txs)
			taken += len(made.txs)
			if made.end {
				ends++
			}
			b := impl.Block{Qc: impl.Qc{Block: p}}
			if checkBody(t, base, l, made.in(b)) {
				right++
			}
			for _, m := range []bodyMade{{txs, made.end, made.next, made.root}, {txs[:len(txs)/2], made.end, made.next, made.root}, {made.txs, !made.end, made.next, made.root}, {end: made.end, next: made.next, root: made.root}, {}} {
				if !checkBody(t, base, l, m.in(b)) {
					wrong++
				}
			}
		}
	}
	if taken < 5000 || ended < 1000 || right < 5000 || wrong < 5000 || ends < 2000 {
		t.Errorf("too few are taken, ended, right, wrong, ends: %d, %d, %d, %d, %d", taken, ended, right, wrong, ends)
	}
}

// A bodyCall is all that chapter 11 can be asked of a base and a list.
type bodyCall struct {
	base impl.Ledger
	l    []impl.Block
	b    impl.Block
	id   int
	txs  []impl.Tx
}

func bodyCalls() []bodyCall {
	orders := someOrders()
	end := madeAt(stakedBase(), deedTree(), 0, orders[10])
	full := with(end.in(placed(deedTree(), 0)), func(b *impl.Block) { b.Tc = tcOf(1, "a b", 0, 0) })
	shared := leavesAt(2, 1, 902)
	alike := ledgerOf(0, impl.Acct{Name: "a", Free: 10, Stake: 20, Leaves: shared}, impl.Acct{Name: "b", Free: 10, Leaves: shared}, impl.Acct{Name: "c", Leaves: shared[:1]})
	return []bodyCall{
		{stakedBase(), deedTree(), full, 0, orders[10]}, {stakedBase(), deedTree(), full, 2, orders[14]}, {stakedBase(), nil, placed(nil, -1), -1, orders[4]}, {stakedBase(), deedTree(), endBlock(), -1, orders[16]}, {stakedBase(), endsAt(deedTree(), 1), placed(deedTree(), 5), 5, orders[2]},
		{alike, rowTold(1), full, 0, orders[4]}, {alike, rowTold(1), full, 9, orders[4]}, {alike, deedTree(), full, -1, orders[10]}, {ledgerOf(900, alike.Accts...), rowTold(3), full, 2, orders[14]}, {ledgerOf(901, alike.Accts...), rowTold(1), full, 0, orders[14]},
		{ledgerOf(5, mixedAccts()...), fullTree(), endBlock(), 4, []impl.Tx{stakes(3, "b", 10, 2), pay("d", "d", 7, 0)}}, {ledgerOf(5, mixedAccts()...), append(fullTree(), fullTree()[0]), endBlock(), 4, []impl.Tx{pay("d", "d", 7, 0)}}, {impl.Ledger{}, nil, impl.Block{}, 0, nil},
	}
}

func cloneCall(c bodyCall) bodyCall {
	return bodyCall{cloneLedger(c.base), cloneTree(c.l), cloneBlock(c.b), c.id, slices.Clone(c.txs)}
}

// ask asks everything, and tells it by one text.
func (c bodyCall) ask() string {
	g, ok := impl.LedgerAt(c.base, c.l, c.id)
	return c.answers(g, ok, impl.Ended(c.l, c.id), impl.BodyOk(c.base, c.l, c.b), madeAt(c.base, c.l, c.id, c.txs))
}

func (c bodyCall) wanted() string {
	g, ok := ledgerAtWanted(c.base, c.l, c.id)
	return c.answers(g, ok, endedWanted(c.l, c.id), bodyWanted(c.base, c.l, c.b), makeWanted(c.base, c.l, c.id, c.txs))
}

func (c bodyCall) answers(g impl.Ledger, ok bool, ended bool, right bool, m bodyMade) string {
	return fmt.Sprintf("%v %v %v %v %v", g, ok, ended, right, m)
}

// roomy lays what would change an answer into the spare room behind each list.
func (c bodyCall) roomy() bodyCall {
	trees := treeCall{l: c.l, b: c.b, x: c.id}.roomy()
	c.l, c.b = trees.cutTo(treeCall{l: c.l, b: c.b}).l, cutBlock(trees.b, c.b)
	room, _ := roomyAccts(c.base.Accts)
	c.base.Accts = room[:len(c.base.Accts)]
	c.txs = append(slices.Clone(c.txs), stakes(2, "a", 1, 0), pay("b", "a", 1, 0))[:len(c.txs)]
	return c
}

// whole tells all memory of a call, to the end of each list's room.
func (c bodyCall) whole() string {
	var s strings.Builder
	fmt.Fprint(&s, c.txs[:cap(c.txs)])
	for _, a := range c.base.Accts[:cap(c.base.Accts)] {
		fmt.Fprint(&s, a, a.Leaves[:cap(a.Leaves)])
	}
	return s.String() + treeCall{l: c.l, b: c.b}.whole()
}

func TestBodiesLeaveTheirArguments(t *testing.T) {
	for i, c := range bodyCalls() {
		leavesArgs(t, i, c, c.roomy())
	}
}

// scribbleLedger writes over all that was answered, to the end of its lists' room.
func scribbleLedger(g impl.Ledger) {
	for _, a := range g.Accts[:cap(g.Accts)] {
		fill(a.Leaves, impl.Leave{Amount: -99, At: -99})
	}
	fill(g.Accts, impl.Acct{Name: "written"})
}

// The lists of an answer are apart from each other: what is written into one is seen in no other.
func TestBodyListsAreApart(t *testing.T) {
	for i, c := range bodyCalls() {
		want, _ := ledgerAtWanted(c.base, c.l, c.id)
		want = cloneLedger(want)
		for k := range want.Accts {
			got, _ := impl.LedgerAt(c.base, c.l, c.id)
			fill(got.Accts[k].Leaves, impl.Leave{Amount: -99})
			if got.Accts[k].Leaves = want.Accts[k].Leaves; !sameLedger(got, want) {
				t.Errorf("%d: what is written into the Leaves of the %d-th account is seen elsewhere: %v", i, k, got)
			}
		}
		made, wanted := madeAt(c.base, c.l, c.id, c.txs), makeWanted(c.base, c.l, c.id, c.txs)
		fill(made.txs, impl.Tx{Kind: -99})
		if !slices.Equal(made.next, wanted.next) {
			t.Errorf("%d: what is written into the orders is seen in Next: %v", i, made)
		}
	}
}

// What is answered shares no memory with an argument, nor with another answer; no call keeps anything for another.
func TestBodiesKeepNothing(t *testing.T) {
	for i, c := range bodyCalls() {
		room, want := c.roomy(), c.wanted()
		kept := room.whole()
		g, ok := impl.LedgerAt(room.base, room.l, room.id)
		m := madeAt(room.base, room.l, room.id, room.txs)
		first := fmt.Sprint(g, ok, m)
		for _, other := range append(bodyCalls(), room) {
			x, _ := impl.LedgerAt(other.base, other.l, other.id)
			scribbleLedger(x)
			made := madeAt(other.base, other.l, other.id, other.txs)
			fill(made.txs, impl.Tx{Kind: -99})
			fill(made.next, impl.Val{Weight: -99})
			other.ask()
		}
		if fmt.Sprint(g, ok, m) != first {
			t.Errorf("%d: two answers share memory: %v %v, not %s", i, g, m, first)
		}
		if room.whole() != kept || c.ask() != want || room.ask() != want {
			t.Errorf("%d: what is written into an answer is seen elsewhere: %s, not %s", i, room.whole(), kept)
		}
		scribbleLedger(room.base)
		scribbleTree(room.l)
		fill(room.txs, impl.Tx{Kind: -99})
		if fmt.Sprint(g, ok, m) != first {
			t.Errorf("%d: an answer shares memory with an argument: %v %v, not %s", i, g, m, first)
		}
	}
}

// What was refused leaves nothing behind: what comes next is answered as if it came first.
func TestBodiesBehindOneAnother(t *testing.T) {
	wrong := oddTrees()
	for i, c := range bodyCalls() {
		want := c.wanted()
		for _, l := range [][]impl.Block{wrong[i], wrong[len(wrong)-1-i], nil} {
			for _, base := range []impl.Ledger{ledgerOf(901), stakedBase()} {
				other := cloneCall(c)
				other.base, other.l = base, l
				if got := other.ask(); got != other.wanted() {
					t.Errorf("%d: %s, not %s", i, got, other.wanted())
				}
				if got := c.ask(); got != want {
					t.Errorf("%d: behind what is refused %s, not %s", i, got, want)
				}
			}
		}
	}
}

func TestBodiesOfVeryMany(t *testing.T) {
	long := slices.Repeat([]impl.Block{firstBlock()}, 1<<17)
	if got, ok := impl.LedgerAt(stakedBase(), long, 0); ok || !sameLedger(got, stakedBase()) || impl.Ended(long, 0) || impl.BodyOk(stakedBase(), long, placed(nil, -1)) || !madeAt(stakedBase(), long, -1, nil).isNone() {
		t.Error("very many blocks")
	}
	orders := append(slices.Repeat([]impl.Tx{stakes(2, "a", 99, 0), {}}, 1<<14), pay("a", "b", 1, 0), stakes(2, "a", 99, 1), pay("a", "b", 1, 1))
	if made := madeAt(stakedBase(), nil, -1, orders); !made.same(bodyMade{txs: []impl.Tx{pay("a", "b", 1, 0), pay("a", "b", 1, 1)}}) {
		t.Error("very many orders:", made)
	}
	if impl.BodyOk(stakedBase(), nil, with(firstBlock(), func(b *impl.Block) { b.Txs = orders })) {
		t.Error("very many orders that are not good")
	}
	if impl.BodyOk(stakedBase(), nil, with(firstBlock(), func(b *impl.Block) { b.Next = alikeVals(1<<16, 9) })) {
		t.Error("very many in Next")
	}
}
