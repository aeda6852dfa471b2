package tests

import (
	"cmp"
	"fmt"
	"math"
	"math/rand"
	"slices"
	"strconv"
	"strings"
	"testing"

	"loop.example/g00194/impl"
)

// treeTold: `ID/ROUND` is a block behind the root, `ID/ROUND<P` one behind the block P, with that one's Round in its Qc (0, when it is not told), `ID/ROUND<P:R` one with the Round R there.
func treeTold(s string) []impl.Block {
	var l []impl.Block
	rounds := map[int]int{}
	for _, word := range strings.Fields(s) {
		head, behind, comes := strings.Cut(word, "<")
		id, round, _ := strings.Cut(head, "/")
		b := impl.Block{Id: numTold(id), Round: numTold(round), By: "ann", Qc: rootQc()}
		rounds[b.Id] = b.Round
		if comes {
			p, r, _ := strings.Cut(behind, ":")
			b.Qc = impl.Qc{Round: numTold(r), Block: numTold(p), Who: []string{"a", "b", "c"}}
		}
		l = append(l, b)
	}
	for i, word := range strings.Fields(s) {
		if strings.Contains(word, "<") && !strings.Contains(word, ":") {
			l[i].Qc.Round = rounds[l[i].Qc.Block]
		}
	}
	return l
}

func numTold(s string) int {
	n, _ := strconv.Atoi(s)
	return n
}

// rowTold: n blocks, one behind the other, of the rounds 1 to n.
func rowTold(n int) []impl.Block {
	s := "0/1"
	for i := 1; i < n; i++ {
		s += fmt.Sprintf(" %d/%d<%d", i, i+1, i-1)
	}
	return treeTold(s)[:n]
}

// bushTold: n blocks, all of them behind the root.
func bushTold(n int) []impl.Block {
	var l []impl.Block
	for i := range n {
		l = append(l, impl.Block{Id: 7 * i, Epoch: 3, Round: 1 + i%5, By: "b", Qc: rootQc()})
	}
	return l
}

// fullTree has blocks with something in each of their lists.
func fullTree() []impl.Block {
	a := with(firstBlock(), func(b *impl.Block) { b.Id, b.Epoch, b.Txs = 0, 1, someTxs(3) })
	c := with(nextBlock(), func(b *impl.Block) { b.Id, b.Round, b.Qc = 2, 3, qcOf(1, 0, "a b d") })
	d := with(leftBlock(), func(b *impl.Block) { b.Id = 4 })
	e := with(endBlock(), func(b *impl.Block) { b.Id, b.Round, b.Qc = 5, 7, qcOf(6, 4, "b c d") })
	return []impl.Block{a, c, d, e}
}

// farTree has the greatest numbers that there may be.
func farTree() []impl.Block {
	a := with(firstBlock(), func(b *impl.Block) { b.Id, b.Epoch, b.Round = 99999, 900, 9999 })
	return []impl.Block{a, fullBlock()}
}

func rightTrees() [][]impl.Block {
	return [][]impl.Block{
		nil, {}, {firstBlock()}, fullTree()[:0], fullTree(), farTree(), fullTree()[:1], fullTree()[:2], fullTree()[:3],
		treeTold("0/1"), treeTold("7/3"), treeTold("100000/10000"), treeTold("0/10000"), treeTold("100000/1"),
		treeTold("0/1 1/2<0"), treeTold("0/1 1/1"), treeTold("0/1 1/2<0 2/3<1"), treeTold("0/1 1/2<0 2/2<0 3/3<1 4/3<2"),
		treeTold("0/1 1/2<0 2/2 3/4<1 4/5<3"), treeTold("3/2 5/4<3 6/5 90/9<5 91/6<6 92/10<90 100000/10000<91"),
		treeTold("0/5 1/4 2/3 3/9<2 4/8<0 5/9<4 6/10<5 7/10<3"), treeTold("1/9 2/10<1 3/1 4/2<3 5/3<4 6/11<2"),
		rowTold(2), rowTold(3), rowTold(9), rowTold(40), bushTold(2), bushTold(9), bushTold(40),
	}
}

// wrongTrees: lists with one fault or more, each with what it is.
func wrongTrees() map[string][]impl.Block {
	out := map[string][]impl.Block{
		"not ascending": treeTold("1/1 0/1"), "not ascending, one behind the other": treeTold("1/2<0 0/1"), "the last two not ascending": treeTold("0/1 2/2<0 1/2<0"), "the first two not ascending": treeTold("1/1 0/1 2/2"), "descending": treeTold("4/1 3/1 2/1 1/1 0/1"),
		"alike": treeTold("0/1 0/1"), "of one Id": treeTold("0/1 0/2"), "the last two alike": treeTold("0/1 1/2<0 1/2<0"), "of one Id, apart": treeTold("0/1 1/2<0 0/1"), "the greatest alike": treeTold("100000/1 100000/2"),
		"behind none": treeTold("1/2<0:1"), "behind one that is not there": treeTold("0/1 2/2<1:1"), "behind one that comes later": treeTold("0/1 1/2<2:1 2/1"), "behind itself": treeTold("0/1 1/2<1:1"), "behind each other": treeTold("0/2<1:1 1/2<0:1"), "a chain whose first is not there": rowTold(5)[1:],
		"a Qc of one round more": treeTold("0/1 1/4<0:2"), "a Qc of one round less": treeTold("0/3 1/4<0:2"), "a Qc of a far round": treeTold("0/1 1/10000<0:9999"), "a Qc of the round of another block": treeTold("0/1 1/2 2/4<0:2"), "a Qc of no round": treeTold("0/1 1/2<0:0"),
		"a block of no higher round": treeTold("0/3 1/3<0"), "a block of a lower round": treeTold("0/3 1/2<0"),
		"401": rowTold(401), "401 behind the root": bushTold(401), "402": rowTold(402), "very many": bushTold(9000),
		"a zero block": {{}}, "a zero block behind others": append(treeTold("0/1 1/2<0"), impl.Block{}),
		"an Id below 0": treeTold("-1/1"), "an Id of -1, and one behind it": treeTold("-1/1 0/2"), "a great Id": treeTold("0/1 100001/2<0"), "no round": treeTold("0/0"), "a great round": treeTold("0/10001"),
	}
	for what, change := range map[string]func(b *impl.Block){
		"another epoch": func(b *impl.Block) { b.Epoch++ }, "a far epoch": func(b *impl.Block) { b.Epoch = 900 }, "no epoch": func(b *impl.Block) { b.Epoch = 901 }, "an epoch below 0": func(b *impl.Block) { b.Epoch = -1 }, "made by no one": func(b *impl.Block) { b.By = "" },
		"names that are not in order": func(b *impl.Block) { b.Tc = tcOf(1, "b a", 0, 0) }, "five orders": func(b *impl.Block) { b.Txs = someTxs(5) }, "a Root without an end": func(b *impl.Block) { b.Root = root32 }, "an end without a Next": func(b *impl.Block) { b.End, b.Root = true, root32 },
	} {
		for at := range 4 {
			l := treeTold("0/2 1/3<0 2/3<0 3/4<1")
			change(&l[at])
			out[fmt.Sprintf("%s at %d", what, at)] = l
		}
	}
	return out
}

// oddTrees: wrongTrees in an order that is the same each time.
func oddTrees() [][]impl.Block {
	named := wrongTrees()
	var whats []string
	for what := range named {
		whats = append(whats, what)
	}
	slices.Sort(whats)
	var l [][]impl.Block
	for _, what := range whats {
		l = append(l, named[what])
	}
	return l
}

func cloneTree(l []impl.Block) []impl.Block {
	out := make([]impl.Block, len(l))
	for i, b := range l {
		out[i] = cloneBlock(b)
	}
	return out
}

func sameTree(a, b []impl.Block) bool { return slices.EqualFunc(a, b, sameFields) }

func treeWanted(l []impl.Block) bool {
	if len(l) > 400 {
		return false
	}
	rounds := map[int]int{}
	for i, b := range l {
		if !blockWanted(b) || b.Epoch != l[0].Epoch || i > 0 && b.Id <= l[i-1].Id {
			return false
		}
		rounds[b.Id] = b.Round
	}
	return !slices.ContainsFunc(l, func(b impl.Block) bool {
		round, there := rounds[b.Qc.Block]
		return !sameQc(b.Qc, rootQc()) && (!there || round != b.Qc.Round)
	})
}

func blockAtIdWanted(l []impl.Block, id int) (impl.Block, bool) {
	for _, b := range l {
		if b.Id == id {
			return b, true
		}
	}
	return impl.Block{}, false
}

func chainWanted(l []impl.Block, id int) []int {
	b, ok := blockAtIdWanted(l, id)
	if !ok || !treeWanted(l) {
		return nil
	}
	if b.Qc.Block < 0 {
		return []int{id}
	}
	return append(chainWanted(l, b.Qc.Block), id)
}

func addWanted(l []impl.Block, b impl.Block) ([]impl.Block, bool) {
	byId := func(a, b impl.Block) int { return cmp.Compare(a.Id, b.Id) }
	whole := append(slices.Clone(l), b)
	slices.SortStableFunc(whole, byId)
	if !slices.IsSortedFunc(l, byId) || !treeWanted(whole) {
		return l, false
	}
	return whole, true
}

func extendsWanted(l []impl.Block, a, b int) bool {
	if !treeWanted(l) {
		return false
	}
	_, there := blockAtIdWanted(l, b)
	return a == -1 && (there || b == -1) || slices.Contains(chainWanted(l, b), a)
}

func commitIdWanted(l []impl.Block, q impl.Qc) int {
	b, ok := blockAtIdWanted(l, q.Block)
	p, comes := blockAtIdWanted(l, b.Qc.Block)
	if ok && comes && b.Round == q.Round && p.Round < q.Round && p.Round+1 == q.Round {
		return p.Id
	}
	return -1
}

// idsOf: those that are there, those beside them, and some that are never there.
func idsOf(l []impl.Block) []int {
	ids := append([]int{-1, -2, 0, 1, 99999, 100000, 100001}, greatNumbers()...)
	for _, b := range l[:min(len(l), 60)] {
		ids = append(ids, b.Id-1, b.Id, b.Id+1)
	}
	slices.Sort(ids)
	return slices.Compact(ids)
}

func roundsOf(l []impl.Block) []int {
	rounds := []int{0, 1, 2, -1, math.MaxInt, math.MinInt}
	for _, b := range l[:min(len(l), 12)] {
		rounds = append(rounds, b.Round-1, b.Round, b.Round+1)
	}
	slices.Sort(rounds)
	return slices.Compact(rounds)
}

func tells(l []impl.Block) string {
	var words []string
	for _, b := range l[:min(len(l), 30)] {
		words = append(words, fmt.Sprintf("%d/%d<%d:%d", b.Id, b.Round, b.Qc.Block, b.Qc.Round))
	}
	return fmt.Sprintf("%d: %s", len(l), strings.Join(words, " "))
}

// checkTree holds all that a list of blocks answers against what is wanted, and answers whether it is right.
func checkTree(t *testing.T, l []impl.Block) bool {
	t.Helper()
	want := treeWanted(l)
	if got := impl.TreeOk(l); got != want {
		t.Errorf("TreeOk(%s): %v", tells(l), got)
	}
	for _, id := range idsOf(l) {
		checkAt(t, l, id)
		for _, round := range roundsOf(l) {
			checkCommit(t, l, impl.Qc{Round: round, Block: id})
		}
	}
	ids := idsOf(l[:min(len(l), 9)])
	for _, a := range ids {
		for _, b := range ids {
			if got := impl.Extends(l, a, b); got != extendsWanted(l, a, b) {
				t.Errorf("Extends(%s, %d, %d): %v", tells(l), a, b, got)
			}
		}
	}
	return want
}

func checkAt(t *testing.T, l []impl.Block, id int) {
	t.Helper()
	b, ok := impl.BlockAt(l, id)
	if want, there := blockAtIdWanted(l, id); ok != there || !sameFields(b, want) {
		t.Errorf("BlockAt(%s, %d): %+v %v, not %+v", tells(l), id, b, ok, want)
	}
	if got, want := impl.ChainOf(l, id), chainWanted(l, id); !slices.Equal(got, want) {
		t.Errorf("ChainOf(%s, %d): %v, not %v", tells(l), id, got, want)
	}
}

func checkCommit(t *testing.T, l []impl.Block, q impl.Qc) int {
	t.Helper()
	got := impl.CommitOf(l, q)
	if want := commitIdWanted(l, q); got != want {
		t.Errorf("CommitOf(%s, %+v): %d, not %d", tells(l), q, got, want)
	}
	return got
}

func checkAdd(t *testing.T, l []impl.Block, b impl.Block) ([]impl.Block, bool) {
	t.Helper()
	got, ok := impl.AddTo(l, b)
	if want, added := addWanted(l, b); ok != added || !sameTree(got, want) {
		t.Errorf("AddTo(%s, %s): %s %v, not %s %v", tells(l), tells([]impl.Block{b}), tells(got), ok, tells(want), added)
	}
	return got, ok
}

// refusesAdd: the list as it is comes back, and false.
func refusesAdd(t *testing.T, l []impl.Block, b impl.Block) {
	t.Helper()
	if got, ok := checkAdd(t, l, b); ok || !sameTree(got, l) {
		t.Errorf("AddTo(%s, %s): %s %v", tells(l), tells([]impl.Block{b}), tells(got), ok)
	}
}

func TestBlockTreesRight(t *testing.T) {
	for _, l := range rightTrees() {
		if !checkTree(t, l) || !impl.TreeOk(l) {
			t.Errorf("not right: %s", tells(l))
		}
	}
}

// Of what is no tree nothing is a chain, and nothing extends anything, not even the root itself.
func TestBlockTreesNotRight(t *testing.T) {
	for what, l := range wrongTrees() {
		if checkTree(t, l) || impl.TreeOk(l) {
			t.Error("right:", what)
		}
		for _, id := range idsOf(l) {
			if len(impl.ChainOf(l, id)) != 0 || impl.Extends(l, -1, id) || impl.Extends(l, id, id) || impl.Extends(l, id, -1) {
				t.Errorf("%s: a chain of %d", what, id)
			}
		}
	}
}

func TestBlockTreesOfBlocksNotRight(t *testing.T) {
	base := treeTold("0/1 1/2<0")
	for _, b := range wrongBlocks() {
		// That it is of another epoch than the others is no fault of its own.
		if !outside(b.Epoch, 0, 900) {
			b.Epoch = 0
		}
		for _, l := range [][]impl.Block{{b}, append(slices.Clone(base), b), append([]impl.Block{b}, base...)} {
			if impl.TreeOk(l) || len(impl.ChainOf(l, b.Id)) != 0 || len(impl.ChainOf(l, 0)) != 0 || impl.Extends(l, -1, -1) {
				t.Errorf("right: %s", tells(l))
			}
		}
		refusesAdd(t, base, b)
		refusesAdd(t, nil, b)
	}
}

func TestChainsKnown(t *testing.T) {
	for _, x := range []struct {
		tree string
		id   int
		want []int
	}{
		{"0/1", 0, []int{0}}, {"7/3", 7, []int{7}}, {"7/3", 0, nil}, {"", 0, nil}, {"", -1, nil}, {"0/1", -1, nil}, {"0/1", 1, nil}, {"0/1", math.MaxInt, nil}, {"0/1", math.MinInt, nil},
		{"0/1 1/2<0", 1, []int{0, 1}}, {"0/1 1/2<0", 0, []int{0}}, {"0/1 1/2", 1, []int{1}},
		{"0/1 1/2<0 2/2 3/4<1 4/5<3", 0, []int{0}}, {"0/1 1/2<0 2/2 3/4<1 4/5<3", 2, []int{2}}, {"0/1 1/2<0 2/2 3/4<1 4/5<3", 3, []int{0, 1, 3}}, {"0/1 1/2<0 2/2 3/4<1 4/5<3", 4, []int{0, 1, 3, 4}}, {"0/1 1/2<0 2/2 3/4<1 4/5<3", 5, nil},
		{"0/1 1/2<0 2/2<0 3/3<1 4/3<2", 3, []int{0, 1, 3}}, {"0/1 1/2<0 2/2<0 3/3<1 4/3<2", 4, []int{0, 2, 4}},
		{"5/1 100000/10000<5", 100000, []int{5, 100000}}, {"5/1 100000/10000<5", 100001, nil}, {"5/1 100000/10000<5", 99999, nil},
		{"1/1 0/1", 0, nil}, {"0/1 0/1", 0, nil}, {"1/2<0:1", 1, nil}, {"0/1 1/3<0:2", 0, nil}, {"0/1 1/3<0:2", 1, nil},
	} {
		if got := impl.ChainOf(treeTold(x.tree), x.id); !slices.Equal(got, x.want) {
			t.Errorf("%q: the chain of %d: %v, not %v", x.tree, x.id, got, x.want)
		}
	}
}

// leads: whether a chain goes from the root to this block, each one behind the one ahead of it.
func leads(l []impl.Block, chain []int, id int) bool {
	before := impl.Block{Id: -1}
	for _, at := range chain {
		b, ok := impl.BlockAt(l, at)
		if !ok || b.Id != at || b.Qc.Block != before.Id || b.Qc.Round != before.Round || b.Round <= before.Round || b.Id <= before.Id {
			return false
		}
		before = b
	}
	return before.Id == id && len(chain) > 0
}

// checkChains holds chains, Extends and CommitOf of a tree against each other.
func checkChains(t *testing.T, l []impl.Block) {
	t.Helper()
	for _, b := range l {
		chain := impl.ChainOf(l, b.Id)
		if !leads(l, chain, b.Id) {
			t.Errorf("%s: %v does not lead to %d", tells(l), chain, b.Id)
		}
		for _, a := range l[:min(len(l), 30)] {
			if impl.Extends(l, a.Id, b.Id) != slices.Contains(chain, a.Id) {
				t.Errorf("%s: whether %d extends %d, whose chain is %v", tells(l), b.Id, a.Id, chain)
			}
		}
		if !impl.Extends(l, -1, b.Id) || !impl.Extends(l, b.Id, b.Id) || impl.Extends(l, b.Id, -1) {
			t.Errorf("%s: %d and the root, or itself", tells(l), b.Id)
		}
		if p := impl.CommitOf(l, impl.Qc{Round: b.Round, Block: b.Id}); p != -1 && (p != b.Qc.Block || b.Qc.Round != b.Round-1 || !impl.Extends(l, p, b.Id)) {
			t.Errorf("%s: a certificate of %d makes %d certain", tells(l), b.Id, p)
		}
	}
}

func TestChainsLeadToTheirBlocks(t *testing.T) {
	for _, l := range rightTrees() {
		checkChains(t, l)
	}
}

func TestBlockTreeAtMost(t *testing.T) {
	for n, want := range map[int]bool{398: true, 399: true, 400: true, 401: false, 402: false, 1000: false} {
		for _, whole := range [][]impl.Block{rowTold(n), bushTold(n)} {
			if impl.TreeOk(whole) != want || impl.Extends(whole, -1, -1) != want || impl.Extends(whole, whole[0].Id, whole[0].Id) != want {
				t.Errorf("%d blocks: %v", n, impl.TreeOk(whole))
			}
			last := whole[n-1]
			if chain := impl.ChainOf(whole, last.Id); (len(chain) > 0) != want || want && !leads(whole, chain, last.Id) {
				t.Errorf("%d blocks: the chain of the last one: %v", n, chain)
			}
			for _, at := range []int{0, n / 2, n - 1} {
				rest := slices.Delete(cloneTree(whole), at, at+1)
				if got, ok := checkAdd(t, rest, whole[at]); ok != want || ok && !sameTree(got, whole) {
					t.Errorf("the %d-th of %d: %v", at, n, ok)
				}
			}
			if b, ok := impl.BlockAt(whole, last.Id); !ok || !sameFields(b, last) {
				t.Errorf("%d blocks: BlockAt of the last one: %v", n, ok)
			}
		}
	}
	if chain := impl.ChainOf(rowTold(400), 399); len(chain) != 400 || chain[0] != 0 || chain[399] != 399 {
		t.Error("the longest chain:", chain)
	}
	// What has no room for one more has none at any place, and stays as it is.
	full := bushTold(400)
	for _, id := range []int{1, 1400, 2792, 2794, 100000} {
		refusesAdd(t, full, impl.Block{Id: id, Epoch: 3, Round: 1, By: "b", Qc: rootQc()})
	}
	refusesAdd(t, rowTold(400), impl.Block{Id: 400, Round: 401, By: "b", Qc: qcOf(400, 399, "a")})
	if got := impl.CommitOf(rowTold(401), impl.Qc{Round: 401, Block: 400}); got != 399 {
		t.Error("CommitOf takes any list:", got)
	}
}

// A block is put ahead of, between and behind those that are there; also where they are a tree with it alone.
func TestAddToEachPlace(t *testing.T) {
	for _, whole := range rightTrees() {
		for at := range whole {
			rest := slices.Delete(cloneTree(whole), at, at+1)
			if got, ok := checkAdd(t, rest, whole[at]); !ok || !sameTree(got, whole) || !impl.TreeOk(got) {
				t.Errorf("%s, put at %d: %s %v", tells(whole), at, tells(got), ok)
			}
			refusesAdd(t, whole, whole[at])
			refusesAdd(t, whole, with(whole[at], func(b *impl.Block) { b.By = "other" }))
		}
	}
}

// addInOrder puts the blocks of a tree in this order, each as often as it takes; a block whose Qc is of one that is not there has to wait.
func addInOrder(t *testing.T, whole []impl.Block, order []int) []impl.Block {
	t.Helper()
	var l []impl.Block
	for range whole {
		for _, at := range order {
			l, _ = checkAdd(t, l, whole[at])
			if !impl.TreeOk(l) {
				t.Errorf("no tree any more: %s", tells(l))
			}
		}
	}
	return l
}

func TestAddToInEachOrder(t *testing.T) {
	for _, whole := range [][]impl.Block{treeTold("0/1 1/2<0 2/2 3/4<1 4/5<3"), fullTree(), rowTold(5), bushTold(5), treeTold("0/1 1/2<0 2/2<0 3/3<1 4/3<2")} {
		eachOrder(len(whole), func(order []int) {
			if got := addInOrder(t, whole, order); !sameTree(got, whole) {
				t.Errorf("%s, in the order %v: %s", tells(whole), order, tells(got))
			}
		})
	}
}

// eachOrder hands out each order of the numbers 0 to n less 1.
func eachOrder(n int, take func(order []int)) {
	var grow func(order []int)
	grow = func(order []int) {
		if len(order) == n {
			take(order)
			return
		}
		for i := range n {
			if !slices.Contains(order, i) {
				grow(append(slices.Clone(order), i))
			}
		}
	}
	grow(nil)
}

func TestAddToRefuses(t *testing.T) {
	l := treeTold("0/1 1/2<0 2/2 3/4<1 4/5<3")
	for what, s := range map[string]string{
		"behind one that is not there": "9/6<5:4", "behind one between those that are there": "9/6<7:5", "behind itself": "9/6<9:5", "behind a later one": "5/6<9:5", "of a Qc one round less": "9/6<4:4", "of a Qc one round more": "9/7<4:6", "of a Qc of the round of another": "9/6<0:5", "of no round in its Qc": "9/6<4:0", "of no higher round": "9/5<4:5", "of an Id below 0": "-1/1", "of a great Id": "100001/1", "of round 0": "9/0", "of a great round": "9/10001",
	} {
		if b := treeTold(s)[0]; impl.TreeOk(append(slices.Clone(l), b)) {
			t.Error("right:", what)
		} else {
			refusesAdd(t, l, b)
		}
	}
	for what, change := range map[string]func(b *impl.Block){
		"of the next epoch": func(b *impl.Block) { b.Epoch = 1 }, "of a far epoch": func(b *impl.Block) { b.Epoch = 900 }, "made by no one": func(b *impl.Block) { b.By = "" }, "there already": func(b *impl.Block) { *b = l[3] }, "of an Id that is there": func(b *impl.Block) { b.Id = 3 }, "of the first Id": func(b *impl.Block) { b.Id, b.Qc = 0, rootQc() }, "of the last Id": func(b *impl.Block) { b.Id, b.Qc = 4, rootQc() }, "zero": func(b *impl.Block) { *b = impl.Block{} },
	} {
		b := treeTold("0/1 1/2<0 2/2 3/4<1 4/5<3 9/6<4")[5]
		if got, ok := checkAdd(t, l, b); !ok || len(got) != 6 || got[5].Id != 9 {
			t.Fatal("not put:", tells(got))
		}
		change(&b)
		if got, ok := impl.AddTo(l, b); ok || !sameTree(got, l) {
			t.Errorf("put: %s: %s", what, tells(got))
		}
		refusesAdd(t, l, b)
	}
	for _, id := range append(greatNumbers(), -1) {
		refusesAdd(t, l, impl.Block{Id: outsideOf(id, 0, 100000), Round: 1, By: "a", Qc: rootQc()})
	}
}

// What is no tree is none with one block more, but where that block is what it lacks.
func TestAddToWhatIsNoTree(t *testing.T) {
	put := 0
	blocks := append(treeTold("0/1 1/2<0 2/2 3/4<1 4/5<3 100000/10000"), firstBlock(), nextBlock(), impl.Block{}, treeTold("0/3")[0], treeTold("-1/1")[0], treeTold("1/1")[0], treeTold("2/1")[0])
	for _, l := range oddTrees() {
		for _, b := range blocks {
			got, ok := checkAdd(t, l, b)
			if ok {
				put++
			}
			if impl.TreeOk(got) != ok {
				t.Errorf("%s: %v", tells(got), ok)
			}
		}
	}
	if put < 5 {
		t.Error("too few lists were mended:", put)
	}
	for _, s := range []string{"1/1 0/1", "3/1 1/1", "0/1 0/1", "4/1 2/1 3/1"} {
		for _, b := range treeTold("0/1 1/1 2/1 5/1 9/1") {
			refusesAdd(t, treeTold(s), b)
		}
	}
}

func TestExtendsKnown(t *testing.T) {
	told := "0/1 1/2<0 2/2 3/4<1 4/5<3 5/6<2"
	for _, x := range []struct {
		tree string
		a, b int
		want bool
	}{
		{told, 0, 0, true}, {told, 1, 4, true}, {told, 0, 4, true}, {told, 3, 4, true}, {told, 4, 4, true}, {told, 2, 5, true}, {told, 5, 5, true},
		{told, 4, 1, false}, {told, 4, 0, false}, {told, 4, 3, false}, {told, 5, 2, false}, {told, 2, 4, false}, {told, 4, 2, false}, {told, 0, 5, false}, {told, 5, 0, false}, {told, 0, 2, false},
		{told, -1, -1, true}, {told, -1, 0, true}, {told, -1, 2, true}, {told, -1, 4, true}, {told, -1, 6, false}, {told, -1, -2, false}, {told, -1, math.MaxInt, false}, {told, -1, math.MinInt, false},
		{told, 0, -1, false}, {told, 4, -1, false}, {told, 6, 6, false}, {told, 6, 4, false}, {told, 4, 6, false}, {told, -2, -2, false}, {told, -2, -1, false}, {told, -2, 4, false}, {told, math.MaxInt, math.MaxInt, false}, {told, math.MinInt, math.MinInt, false}, {told, math.MinInt, 4, false},
		{"", -1, -1, true}, {"", -1, 0, false}, {"", 0, 0, false}, {"", 0, -1, false}, {"100000/1", 100000, 100000, true}, {"100000/1", -1, 100000, true}, {"100000/1", 99999, 100000, false}, {"100000/1", -1, 100001, false},
		{"1/1 0/1", -1, -1, false}, {"1/1 0/1", -1, 0, false}, {"1/1 0/1", 0, 0, false}, {"0/1 0/1", -1, -1, false}, {"-1/1", -1, -1, false}, {"1/2<0:1", 1, 1, false}, {"1/2<0:1", 0, 1, false}, {"0/1 1/3<0:2", 0, 1, false}, {"0/1 1/3<0:2", -1, -1, false},
	} {
		if got := impl.Extends(treeTold(x.tree), x.a, x.b); got != x.want {
			t.Errorf("%q: Extends %d, %d: %v", x.tree, x.a, x.b, got)
		}
	}
}

func TestCommitKnown(t *testing.T) {
	told := "0/1 1/2<0 2/2 3/4<1 4/5<3 5/6<4 6/7<4 7/9<6 8/10<7"
	for _, x := range []struct {
		tree         string
		round, block int
		want         int
	}{
		// Rounds one behind the other.
		{told, 2, 1, 0}, {told, 5, 4, 3}, {told, 6, 5, 4}, {told, 10, 8, 7}, {"5/9999 100000/10000<5", 10000, 100000, 5},
		// A round that was left out, or two.
		{told, 4, 3, -1}, {told, 7, 6, -1}, {told, 9, 7, -1}, {"0/1 1/4<0", 4, 1, -1}, {"0/1 1/10000<0", 10000, 1, -1},
		// Behind the root, also in the first round: the root is no block.
		{told, 1, 0, -1}, {told, 2, 2, -1}, {"0/1", 1, 0, -1}, {"0/1 1/1", 1, 1, -1},
		// Of a block that is not there.
		{told, 2, 9, -1}, {told, 11, 9, -1}, {told, 1, -1, -1}, {told, 0, -1, -1}, {told, 5, -2, -1}, {told, 2, math.MaxInt, -1}, {told, 2, math.MinInt, -1}, {"", 0, -1, -1}, {"", 1, 0, -1},
		// Of another round than its block is of.
		{told, 1, 1, -1}, {told, 3, 1, -1}, {told, 4, 4, -1}, {told, 6, 4, -1}, {told, 3, 3, -1}, {told, 0, 0, -1}, {told, 0, 1, -1}, {told, -2, 1, -1}, {told, math.MaxInt, 4, -1}, {told, math.MinInt, 4, -1}, {told, math.MinInt, 0, -1},
	} {
		for _, who := range []string{"", "a b c", "a", "b a", "ann"} {
			if got := checkCommit(t, treeTold(x.tree), qcOf(x.round, x.block, who)); got != x.want {
				t.Errorf("%q: a certificate of the block %d in the round %d, of %q: %d, not %d", x.tree, x.block, x.round, who, got, x.want)
			}
		}
	}
}

// BlockAt and CommitOf ask for no tree: the first block of an Id counts, and its Round, not what a Qc says of it.
func TestListsThatAreNoTrees(t *testing.T) {
	for _, x := range []struct {
		tree         string
		round, block int
		want         int
	}{
		{"1/2<0 0/1", 2, 1, 0}, {"1/2<0:7 0/1", 2, 1, 0}, {"0/1 1/3<0:2", 3, 1, -1}, {"0/2 1/3<0:1", 3, 1, 0}, {"0/1 0/2 1/3<0:2", 3, 1, -1}, {"0/2 0/1 1/3<0:2", 3, 1, 0}, {"0/2 1/4<0 1/3<0", 3, 1, -1}, {"0/2 1/3<0 1/4<0", 3, 1, 0},
		{"1/2<1:1", 2, 1, -1}, {"-1/0 0/1", 1, 0, -1}, {"-1/1 0/2", 2, 0, -1}, {"-2/4 5/5<-2", 5, 5, -2}, {"100001/10001 7/10002<100001", 10002, 7, 100001}, {"3/0<4 4/-1", 0, 3, 4}, {"3/-4<4 4/-5", -4, 3, 4},
		{"1/-9223372036854775808<0 0/9223372036854775807", math.MinInt, 1, -1}, {"1/9223372036854775807<0 0/-9223372036854775808", math.MaxInt, 1, -1}, {"1/9223372036854775807<0 0/9223372036854775806", math.MaxInt, 1, 0},
	} {
		l := treeTold(x.tree)
		if got := checkCommit(t, l, impl.Qc{Round: x.round, Block: x.block}); got != x.want {
			t.Errorf("%q: a certificate of the block %d in the round %d: %d, not %d", x.tree, x.block, x.round, got, x.want)
		}
		checkTree(t, l)
	}
	if b, ok := impl.BlockAt(treeTold("3/9 3/1 2/5"), 3); !ok || b.Round != 9 {
		t.Error("the first of two:", b)
	}
	for _, id := range greatNumbers() {
		l := []impl.Block{firstBlock(), with(endBlock(), func(b *impl.Block) { b.Id = id })}
		if b, ok := impl.BlockAt(l, id); !ok || !sameFields(b, l[1]) {
			t.Errorf("BlockAt %d: %v", id, ok)
		}
	}
}

func TestBlockAtHasAllOfIt(t *testing.T) {
	for _, want := range append(fullTree(), fullBlock(), with(endBlock(), func(b *impl.Block) { b.By = "" })) {
		l := append(treeTold("1/1"), want)
		if got, ok := impl.BlockAt(l, want.Id); !ok || !sameFields(got, want) {
			t.Errorf("%+v, not %+v", got, want)
		}
	}
	for _, id := range append(greatNumbers(), -1, 1, 3, 6, 100000) {
		if got, ok := impl.BlockAt(fullTree(), id); ok || !isZeroBlock(got) {
			t.Errorf("BlockAt %d: %+v %v", id, got, ok)
		}
	}
}

// anyTree grows a tree, and then spoils most often nothing.
func anyTree(r *rand.Rand) []impl.Block {
	var l []impl.Block
	id := r.Intn(3)
	for range r.Intn(9) {
		b := impl.Block{Id: id, Epoch: 2, Round: 1 + r.Intn(3), By: "ann", Qc: rootQc()}
		if len(l) > 0 && r.Intn(5) > 0 {
			p := l[r.Intn(len(l))]
			b.Qc, b.Round = qcOf(p.Round, p.Id, "a b c"), p.Round+1+r.Intn(4)/2
		}
		l = append(l, b)
		id += 1 + r.Intn(5)/3
	}
	if len(l) == 0 || r.Intn(2) == 0 {
		return l
	}
	b := &l[r.Intn(len(l))]
	switch r.Intn(9) {
	case 0:
		b.Round += pick(r, 2, 1, -1, 5, -5, math.MaxInt/2)
	case 1:
		b.Qc.Round += pick(r, 2, 1, -1, 2, math.MinInt/2)
	case 2:
		b.Qc.Block += pick(r, 2, 1, -1, 2, math.MaxInt/2)
	case 3:
		b.Id += pick(r, 2, 1, -1, 2, 100000, math.MinInt/2)
	case 4:
		b.Epoch += pick(r, 2, 1, -1, 900)
	case 5:
		b.Qc = rootQc()
	case 6:
		r.Shuffle(len(l), func(i, j int) { l[i], l[j] = l[j], l[i] })
	case 7:
		at := r.Intn(len(l))
		l = slices.Delete(l, at, at+1)
	default:
		l = slices.Insert(l, r.Intn(len(l)), *b)
	}
	return l
}

func TestBlockTreesOfAnything(t *testing.T) {
	r := rand.New(rand.NewSource(30))
	right, wrong, put, certain := 0, 0, 0, 0
	for range 6000 {
		l := anyTree(r)
		if impl.TreeOk(l) != treeWanted(l) {
			t.Errorf("TreeOk(%s): %v", tells(l), impl.TreeOk(l))
		}
		if impl.TreeOk(l) {
			right++
			checkChains(t, l)
		} else {
			wrong++
		}
		for range 8 {
			a, b := r.Intn(16)-2, r.Intn(16)-2
			checkAt(t, l, a)
			if impl.Extends(l, a, b) != extendsWanted(l, a, b) {
				t.Errorf("Extends(%s, %d, %d): %v", tells(l), a, b, impl.Extends(l, a, b))
			}
			q := impl.Qc{Round: r.Intn(9), Block: b}
			if voted, ok := blockAtIdWanted(l, b); ok && r.Intn(3) > 0 {
				q.Round = voted.Round
			}
			if checkCommit(t, l, q) >= 0 {
				certain++
			}
		}
		for range 4 {
			b := impl.Block{Id: r.Intn(16), Epoch: 2, Round: 1 + r.Intn(12), By: "b", Qc: rootQc()}
			if len(l) > 0 && r.Intn(4) > 0 {
				p := l[r.Intn(len(l))]
				b.Qc = qcOf(p.Round+r.Intn(8)/7, p.Id, "a b")
			}
			if _, ok := checkAdd(t, l, b); ok {
				put++
			}
		}
	}
	if right < 2000 || wrong < 1000 || put < 2000 || certain < 1000 {
		t.Errorf("too few are right, wrong, put, certain: %d, %d, %d, %d", right, wrong, put, certain)
	}
}

// A treeCall is all that chapter 10 can be asked of a list.
type treeCall struct {
	l    []impl.Block
	b    impl.Block
	q    impl.Qc
	x, y int
}

func treeCalls() []treeCall {
	full := fullTree()
	shared := cloneTree(full)
	// Blocks of one list may share their lists; those of an answer don't.
	for i := range shared[1:] {
		shared[1+i].Qc.Who, shared[1+i].Tc, shared[1+i].Txs = shared[3].Qc.Who, shared[3].Tc, shared[3].Txs
	}
	shared[1].Tc = impl.Tc{}
	more := with(endBlock(), func(b *impl.Block) { b.Id, b.Round, b.Qc = 9, 8, qcOf(7, 5, "a b c") })
	between := with(endBlock(), func(b *impl.Block) { b.Id, b.Qc, b.Tc = 3, qcOf(3, 2, "a b c"), tcOf(2, "a c", 0, 1) })
	return []treeCall{
		{full, more, qcOf(7, 5, "a b c"), 0, 5}, {fullTree(), between, qcOf(6, 4, "b c"), -1, 4}, {fullTree()[1:], full[0], qcOf(3, 2, "a"), 2, 5}, {fullTree(), full[2], qcOf(6, 5, ""), 5, 2}, {shared, more, qcOf(7, 5, "a b c"), 2, 4}, {shared, shared[3], rootQc(), 5, 5},
		{fullTree(), with(more, func(b *impl.Block) { b.Epoch = 2 }), rootQc(), -1, -1}, {append(fullTree(), full[3]), more, qcOf(7, 5, "a"), 4, 5}, {nil, endBlock(), rootQc(), -1, -1}, {nil, with(endBlock(), func(b *impl.Block) { b.Qc = rootQc() }), qcOf(1, 0, "a"), 0, 0},
		{farTree(), full[0], qcOf(10000, 100000, "a b"), 99999, 100000}, {[]impl.Block{full[3], full[2]}, more, qcOf(7, 5, "a b c"), 5, 4}, {[]impl.Block{{}}, impl.Block{}, impl.Qc{}, 0, 0},
	}
}

// ask asks everything, and tells it by one text.
func (c treeCall) ask() string {
	b, there := impl.BlockAt(c.l, c.y)
	l, ok := impl.AddTo(c.l, c.b)
	return c.answers(impl.TreeOk(c.l), b, there, impl.ChainOf(c.l, c.y), l, ok, impl.Extends(c.l, c.x, c.y), impl.CommitOf(c.l, c.q))
}

func (c treeCall) wanted() string {
	b, there := blockAtIdWanted(c.l, c.y)
	l, ok := addWanted(c.l, c.b)
	return c.answers(treeWanted(c.l), b, there, chainWanted(c.l, c.y), l, ok, extendsWanted(c.l, c.x, c.y), commitIdWanted(c.l, c.q))
}

func (c treeCall) answers(right bool, b impl.Block, there bool, chain []int, l []impl.Block, ok bool, extends bool, commit int) string {
	return fmt.Sprintf("%v %+v %v %v %+v %v %v %d", right, b, there, chain, l, ok, extends, commit)
}

// roomy lays blocks that would change an answer behind the list, and more behind each list of a block, in the spare room.
func (c treeCall) roomy() treeCall {
	l := make([]impl.Block, 0, len(c.l)+3)
	for _, b := range c.l {
		l = append(l, roomyBlock(b))
	}
	c.l = append(l, roomyBlock(c.b), roomyBlock(impl.Block{Id: c.x, Epoch: 1, Round: 1, By: "a", Qc: rootQc()}), roomyBlock(endBlock()))
	c.b, c.q.Who = roomyBlock(c.b), append(slices.Clone(c.q.Who), "zz", "a")
	return c
}

// cutTo is c with lists as long as those of d; it writes into the list of blocks that c has.
func (c treeCall) cutTo(d treeCall) treeCall {
	for i, b := range d.l {
		c.l[i] = cutBlock(c.l[i], b)
	}
	c.l, c.b, c.q.Who = c.l[:len(d.l)], cutBlock(c.b, d.b), c.q.Who[:len(d.q.Who)]
	return c
}

// whole tells all memory of a call, to the end of each list's room.
func (c treeCall) whole() string {
	s := fmt.Sprintf("%q", c.q.Who[:cap(c.q.Who)])
	for _, b := range append(slices.Clone(c.l[:cap(c.l)]), c.b) {
		b.Qc.Who, b.Tc.Who, b.Tc.Highs = b.Qc.Who[:cap(b.Qc.Who)], b.Tc.Who[:cap(b.Tc.Who)], b.Tc.Highs[:cap(b.Tc.Highs)]
		b.Txs, b.Next = b.Txs[:cap(b.Txs)], b.Next[:cap(b.Next)]
		s += fmt.Sprintf(" %+v", b)
	}
	return s
}

// An argsCall is all that a chapter can be asked of some arguments: the answers as one text, what they should be, and all memory of the arguments.
type argsCall interface {
	ask() string
	wanted() string
	whole() string
}

// leavesArgs: room is c with something in the spare room behind each list, which is neither read nor written.
func leavesArgs(t *testing.T, i int, c, room argsCall) {
	t.Helper()
	want, kept, keptCall := c.wanted(), room.whole(), c.whole()
	if got := c.ask(); got != want {
		t.Errorf("%d: %s, not %s", i, got, want)
	}
	if got := room.ask(); got != want {
		t.Errorf("%d: what lies behind the lists was read: %s, not %s", i, got, want)
	}
	if room.whole() != kept || c.whole() != keptCall {
		t.Errorf("%d: wrote into an argument or behind it: %s, not %s", i, room.whole(), kept)
	}
}

func TestBlockTreesLeaveTheirArguments(t *testing.T) {
	for i, c := range treeCalls() {
		leavesArgs(t, i, c, c.roomy().cutTo(c))
	}
}

// scribbleTree writes over all that was answered, to the end of its lists' room.
func scribbleTree(l []impl.Block) {
	for _, b := range l[:cap(l)] {
		scribbleBlock(b, func(string) {})
	}
	fill(l, impl.Block{Id: -99})
}

// The lists of an answer are apart from each other: what is written into one is seen in no other.
func TestBlockTreeListsAreApart(t *testing.T) {
	for i, c := range treeCalls() {
		want, _ := addWanted(c.l, c.b)
		want = cloneTree(want)
		for at := range want {
			got, _ := impl.AddTo(c.l, c.b)
			scribbleBlock(got[at], func(list string) {
				for k := range got {
					if k != at && !sameFields(got[k], want[k]) {
						t.Errorf("%d: what is written into %s of the %d-th is seen in the %d-th: %+v", i, list, at, k, got[k])
					}
				}
			})
			apartWithin(t, func() impl.Block { l, _ := impl.AddTo(c.l, c.b); return l[at] }, want[at])
		}
		if b, ok := blockAtIdWanted(c.l, c.y); ok {
			apartWithin(t, func() impl.Block { b, _ := impl.BlockAt(c.l, c.y); return b }, cloneBlock(b))
		}
	}
}

// apartWithin: what is written into one list of a block is seen in no other list of it.
func apartWithin(t *testing.T, make func() impl.Block, want impl.Block) {
	t.Helper()
	for _, put := range []func(b *impl.Block){
		func(b *impl.Block) { fill(b.Qc.Who, "written"); b.Qc.Who = want.Qc.Who }, func(b *impl.Block) { fill(b.Tc.Who, "written"); b.Tc.Who = want.Tc.Who },
		func(b *impl.Block) { fill(b.Tc.Highs, -99); b.Tc.Highs = want.Tc.Highs }, func(b *impl.Block) { fill(b.Txs, impl.Tx{Kind: -99}); b.Txs = want.Txs }, func(b *impl.Block) { fill(b.Next, impl.Val{Weight: -99}); b.Next = want.Next },
	} {
		b := make()
		if put(&b); !sameFields(b, want) {
			t.Errorf("what is written into one list is seen in another one: %+v, not %+v", b, want)
		}
	}
}

// What is answered shares no memory with an argument, nor with another answer; no call keeps anything for another.
func TestBlockTreesKeepNothing(t *testing.T) {
	for i, c := range treeCalls() {
		room, want := c.roomy(), c.ask()
		cut := room.cutTo(c)
		kept := cut.whole()
		b, _ := impl.BlockAt(cut.l, cut.y)
		chain := impl.ChainOf(cut.l, cut.y)
		l, _ := impl.AddTo(cut.l, cut.b)
		wantB, wantChain, wantL := cloneBlock(b), slices.Clone(chain), cloneTree(l)
		for _, other := range append(treeCalls(), cut) {
			x, _ := impl.BlockAt(other.l, other.y)
			scribbleBlock(x, func(string) {})
			fill(impl.ChainOf(other.l, other.y), -99)
			y, _ := impl.AddTo(other.l, other.b)
			scribbleTree(y)
			other.ask()
		}
		if !sameFields(b, wantB) || !slices.Equal(chain, wantChain) || !sameTree(l, wantL) {
			t.Errorf("%d: two answers share memory: %+v, %v, %s", i, b, chain, tells(l))
		}
		if cut.whole() != kept || c.ask() != want || cut.ask() != want {
			t.Errorf("%d: what is written into an answer is seen elsewhere: %s, not %s", i, cut.whole(), kept)
		}
		scribbleBlock(cut.b, func(string) {})
		scribbleTree(cut.l)
		if !sameFields(b, wantB) || !slices.Equal(chain, wantChain) || !sameTree(l, wantL) {
			t.Errorf("%d: an answer shares memory with an argument: %+v, %v, %s", i, b, chain, tells(l))
		}
	}
}

// What was refused leaves nothing behind: what comes next is answered as if it came first.
func TestBlockTreesBehindOneAnother(t *testing.T) {
	wrong := oddTrees()
	for i, l := range rightTrees() {
		w := wrong[i%len(wrong)]
		more := impl.Block{Id: 100000, Round: 1, By: "a", Qc: rootQc()}
		if len(l) > 0 {
			more.Epoch = l[0].Epoch
		}
		if impl.TreeOk(w) || !impl.TreeOk(l) {
			t.Errorf("behind %s: %s", tells(w), tells(l))
		}
		checkAdd(t, w, more)
		checkAdd(t, l, more)
		for _, b := range l {
			checkAt(t, w, b.Id)
			checkAt(t, l, b.Id)
		}
	}
}

func TestBlockTreesOfVeryMany(t *testing.T) {
	long := slices.Repeat([]impl.Block{firstBlock()}, 1<<17)
	if impl.TreeOk(long) || len(impl.ChainOf(long, 0)) != 0 || impl.Extends(long, -1, -1) || impl.CommitOf(long, impl.Qc{Round: 1, Block: 0}) != -1 {
		t.Error("very many blocks")
	}
	if _, ok := impl.BlockAt(long, 1); ok {
		t.Error("one that is not there among very many")
	}
	if got, ok := impl.AddTo(long, nextBlock()); ok || len(got) != len(long) || !sameFields(got[1<<16], firstBlock()) {
		t.Error("put to very many:", ok, len(got))
	}
	huge := with(firstBlock(), func(b *impl.Block) { b.Txs, b.Qc.Who = slices.Repeat(someTxs(1), 1<<16), manyNames(9000) })
	refusesAdd(t, nil, huge)
	refusesAdd(t, []impl.Block{huge}, treeTold("7/1")[0])
}
