package tests

import (
	"fmt"
	"math"
	"math/rand"
	"reflect"
	"slices"
	"strings"
	"testing"

	"loop.example/g00194/impl"
)

// heardAtOnce is w behind all that one node shares with another, and how often that was.
func heardAtOnce(w impl.World, from, to int) (impl.World, int) {
	for many := 0; ; many++ {
		n := w.Nodes[to]
		m, ok := shareOfWanted(w.Nodes[from], n.Epoch, n.Name)
		if !ok {
			return w, many
		}
		after, said, sigs := hearWanted(n, m)
		w = cameOut(w, to, after, said, sigs)
		if after.Epoch == n.Epoch {
			return w, many + 1
		}
	}
}

// The four as they go, of a world that is right at the beginning.
func exchangeGoes(w impl.World) impl.World {
	for to := range w.Nodes {
		for from := range w.Nodes {
			if from != to {
				w, _ = heardAtOnce(w, from, to)
			}
		}
	}
	return w
}

func drainGoes(w impl.World) impl.World {
	for many := 0; many < 3000 && len(w.Net) > 0; many++ {
		w, _ = eventWanted(w, deliverEv(0))
	}
	return w
}

func roundGoes(w impl.World) impl.World {
	w = exchangeGoes(drainGoes(w))
	begin := w.Nodes
	for at := range begin {
		w, _ = eventWanted(w, leadEv(at))
	}
	w = drainGoes(w)
	for at, n := range begin {
		if now := w.Nodes[at]; now.Round == n.Round && now.Epoch == n.Epoch {
			w, _ = eventWanted(w, leaveEv(at))
		}
	}
	return exchangeGoes(drainGoes(w))
}

func settleWanted(w impl.World, n int) impl.World {
	for i := 0; i < n && n <= 60 && worldWanted(w); i++ {
		w = roundGoes(w)
	}
	return w
}

// A quietCall lets a quiet time go by in W: N rounds, where it settles.
type quietCall struct {
	Deed string
	W    impl.World
	N    int
}

func (c quietCall) ask() []any {
	switch c.Deed {
	case "exchange":
		return []any{impl.Exchange(c.W)}
	case "drain":
		return []any{impl.Drain(c.W)}
	case "round":
		return []any{impl.Round(c.W)}
	case "done":
		return []any{impl.Least(c.W), impl.Most(c.W)}
	}
	return []any{impl.Settle(c.W, c.N)}
}

// doneWanted has the fewest and the most, by the place where they stand in order.
func doneWanted(w impl.World) []any {
	var many []int
	for _, n := range w.Nodes {
		many = append(many, len(n.Done))
	}
	slices.Sort(many)
	if len(many) == 0 {
		return []any{0, 0}
	}
	return []any{many[0], many[len(many)-1]}
}

func (c quietCall) wanted() []any {
	if c.Deed == "done" {
		return doneWanted(c.W)
	}
	if !worldWanted(c.W) {
		return []any{c.W}
	}
	switch c.Deed {
	case "exchange":
		return []any{exchangeGoes(c.W)}
	case "drain":
		return []any{drainGoes(c.W)}
	case "round":
		return []any{roundGoes(c.W)}
	}
	return []any{settleWanted(c.W, c.N)}
}

func (c quietCall) String() string { return fmt.Sprintf("%s %d: %s", c.Deed, c.N, worldTold(c.W)) }

// askQuiet lets that time go by, and holds what was made, signed and certain against what it was.
func askQuiet(t *testing.T, deed string, w impl.World, n int) impl.World {
	t.Helper()
	after := callAsked(t, quietCall{Deed: deed, W: w, N: n})[0].(impl.World)
	checkDone(t, w, impl.Event{}, after, true)
	for at, x := range w.Nodes {
		if y := after.Nodes[at]; !slices.Equal(y.Done[:min(len(y.Done), len(x.Done))], x.Done) || y.Epoch < x.Epoch {
			t.Errorf("%s: what was certain at %s is so no more: %v, then %v", deed, x.Name, x.Done, y.Done)
		}
	}
	// What is shared is heard at once: it is on no way, and nobody answers it, nor signs anything for it.
	if deed == "exchange" && (!sameValue(after.Net, w.Net) || !sameValue(after.Signed, w.Signed) || !sameValue(after.Blocks, w.Blocks)) {
		t.Errorf("an exchange leaves words behind: %s", worldDiffers(after, w))
	}
	if n := impl.Least(after); n < impl.Least(w) || impl.Most(after) < max(n, impl.Most(w)) {
		t.Errorf("%s: %d to %d are certain, then %d to %d", deed, impl.Least(w), impl.Most(w), n, impl.Most(after))
	}
	return after
}

// quiets: each of the four, Settle with several numbers.
func quiets(w impl.World) []quietCall {
	l := []quietCall{{Deed: "exchange", W: w}, {Deed: "drain", W: w}, {Deed: "round", W: w}}
	for _, n := range []int{0, 1, 2, -1, 61, math.MaxInt, math.MinInt} {
		l = append(l, quietCall{Deed: "settle", W: w, N: n})
	}
	return l
}

func TestQuietWorldsNotRight(t *testing.T) {
	for what, w := range wrongWorlds() {
		for _, c := range append(quiets(w), quietCall{Deed: "settle", W: w, N: 60}) {
			if after := callAsked(t, c)[0]; !sameValue(after, w) {
				t.Errorf("%s: %s %d: something is done", what, c.Deed, c.N)
			}
		}
	}
}

func TestQuietWorldsRight(t *testing.T) {
	for _, w := range rightWorlds() {
		for _, c := range quiets(w) {
			callAsked(t, c)
		}
	}
}

// doneIs: the fewest that a node has are so many, and the most.
func doneIs(t *testing.T, what string, w impl.World, least, most int) {
	t.Helper()
	if got := callAsked(t, quietCall{Deed: "done", W: w}); got[0] != least || got[1] != most {
		t.Errorf("%s: %d to %d, not %d to %d", what, got[0], got[1], least, most)
	}
}

// idsTo: the Ids below n.
func idsTo(n int) []int {
	l := make([]int, n)
	for i := range l {
		l[i] = i
	}
	return l
}

func TestLeastAndMost(t *testing.T) {
	for _, x := range []struct {
		many        []int
		least, most int
	}{
		{nil, 0, 0}, {[]int{0}, 0, 0}, {[]int{1}, 1, 1}, {[]int{7}, 7, 7}, {[]int{200}, 200, 200}, {[]int{201}, 201, 201},
		{[]int{2, 2, 2}, 2, 2}, {[]int{0, 0, 0}, 0, 0}, {[]int{1, 1}, 1, 1}, {[]int{200, 200, 200, 200}, 200, 200},
		{[]int{1, 5, 3}, 1, 5}, {[]int{1, 3, 5}, 1, 5}, {[]int{3, 1, 5}, 1, 5}, {[]int{5, 1, 3}, 1, 5}, {[]int{5, 3, 1}, 1, 5}, {[]int{3, 5, 1}, 1, 5},
		{[]int{0, 4, 4}, 0, 4}, {[]int{4, 0, 4}, 0, 4}, {[]int{4, 4, 0}, 0, 4}, {[]int{4, 0}, 0, 4}, {[]int{0, 4}, 0, 4}, {[]int{0, 0, 1}, 0, 1}, {[]int{1, 0, 0}, 0, 1}, {[]int{9, 10, 9}, 9, 10}, {[]int{10, 9, 10, 9}, 9, 10}, {[]int{100, 99, 200, 3, 20}, 3, 200}, {[]int{12, 11, 10, 9, 8, 7, 6, 5, 4, 3, 2, 1}, 1, 12},
	} {
		var lists [][]int
		for _, n := range x.many {
			lists = append(lists, idsTo(n))
		}
		w := doneWorld(lists...)
		doneIs(t, fmt.Sprint(x.many), w, x.least, x.most)
		// Where one node has its number does not matter, nor what else is in the world.
		slices.Reverse(w.Nodes)
		doneIs(t, fmt.Sprint("backwards ", x.many), w, x.least, x.most)
		busy := busyWorld()
		busy.Nodes = w.Nodes
		doneIs(t, fmt.Sprint("in a busy world ", x.many), busy, x.least, x.most)
	}
	for at := range 12 {
		lists := slices.Repeat([][]int{idsTo(5)}, 12)
		lists[at] = idsTo(4)
		doneIs(t, fmt.Sprint("fewer at ", at), doneWorld(lists...), 4, 5)
		lists[at] = idsTo(6)
		doneIs(t, fmt.Sprint("more at ", at), doneWorld(lists...), 5, 6)
	}
}

// It is counted how many there are, whatever they are: of no block, or one of them twice.
func TestLeastAndMostOfAnyIds(t *testing.T) {
	doneIs(t, "no Ids", doneWorld([]int{-1, math.MaxInt, math.MinInt}, []int{5, 5, 5, 5, 5}, []int{99999, 0}), 2, 5)
	doneIs(t, "nil and empty", doneWorld(nil, []int{}), 0, 0)
	w := doneWorld(idsTo(3), idsTo(4))
	w.Nodes[0].Past, w.Nodes[1].Tree = []impl.Proof{{Bs: manyBlocks(9)}}, manyBlocks(9)
	w.Blocks, w.Signed = manyBlocks(50), make([]impl.Sig, 70)
	doneIs(t, "what is not certain", w, 3, 4)
	// What lies behind a list is not counted.
	w.Nodes[0].Done = idsTo(9)[:6]
	w.Nodes[1].Done = idsTo(9)[:7]
	if least, most := impl.Least(w), impl.Most(w); least != 6 || most != 7 {
		t.Errorf("what lies behind is counted: %d to %d", least, most)
	}
	w.Nodes = doneWorld(idsTo(2), idsTo(8), idsTo(1)).Nodes[:2]
	if least, most := impl.Least(w), impl.Most(w); least != 2 || most != 8 {
		t.Errorf("a node that lies behind is counted: %d to %d", least, most)
	}
}

// They are told of any world, right or not.
func TestLeastAndMostOfWorldsNotRight(t *testing.T) {
	for what, w := range wrongWorlds() {
		got := callAsked(t, quietCall{Deed: "done", W: w})
		if len(w.Nodes) == 3 && what != "a node of 201 done" && what != "a zero node" && (got[0] != 2 || got[1] != 2) {
			t.Errorf("%s: %v", what, got)
		}
	}
	doneIs(t, "201 done", wrongWorlds()["a node of 201 done"], 2, 201)
	doneIs(t, "a zero node", wrongWorlds()["a zero node"], 0, 2)
	doneIs(t, "a zero node ahead", wrongWorlds()["a zero node ahead"], 0, 2)
	for what, w := range rightWorlds() {
		callAsked(t, quietCall{Deed: "done", W: w})
		if len(w.Nodes) == 0 {
			doneIs(t, what, w, 0, 0)
		}
	}
	doneIs(t, "zero nodes alone", impl.World{Nodes: make([]impl.Node, 3)}, 0, 0)
	many := impl.World{Nodes: slices.Repeat(doneWorld(idsTo(3)).Nodes, 1<<12)}
	many.Nodes[1<<11].Done = make([]int, 1<<16)
	if least, most := impl.Least(many), impl.Most(many); least != 3 || most != 1<<16 {
		t.Errorf("very many: %d to %d", least, most)
	}
}

func TestQuietWithoutNodes(t *testing.T) {
	for what, w := range map[string]impl.World{"zero": {}, "all foul": crewWorld("a", "b", "c", "d"), "no nodes": changedWorld(busyWorld(), func(w *impl.World) { w.Nodes, w.Net = nil, nil })} {
		for _, c := range append(quiets(w), quietCall{Deed: "settle", W: w, N: 60}) {
			if after := callAsked(t, c)[0]; !sameValue(after, w) {
				t.Errorf("%s: %s: something is done", what, c.Deed)
			}
		}
	}
	// One alone hears nobody, and goes on by itself.
	w := worldNewWanted(aloneLedger(), []string{"b"})
	if after := askQuiet(t, "exchange", w, 0); !sameValue(after, w) {
		t.Errorf("one alone: %s", worldTold(after))
	}
	// Nor does it hear itself: what it could learn once more, it does not.
	row := rowFor(crewNode("b"), 0, 2)
	lone := changedWorld(crewWorld("d"), func(w *impl.World) { w.Blocks, w.Nodes = row, []impl.Node{knowing("b", certOf(row[1]), row...)} })
	if after := askQuiet(t, "exchange", lone, 0); !worldWanted(lone) || !sameValue(after, lone) || len(after.Nodes[0].Done) != 0 {
		t.Errorf("one alone hears itself: %s", worldTold(after))
	}
	if after := askQuiet(t, "settle", w, 6); len(after.Nodes[0].Done) != 4 || after.Nodes[0].Epoch != 5 || len(after.Net) != 0 {
		t.Errorf("one alone: %s", worldTold(after))
	}
}

// farWorld: c is in the epoch 4, b in the epoch 2, and a has heard of nothing.
func farWorld() impl.World {
	second := settleWanted(crewWorld("d"), 10)
	far := settleWanted(second, 10)
	return changedWorld(far, func(w *impl.World) { w.Nodes[0], w.Nodes[1] = newWanted("a", w.Base), apartFrom(second.Nodes[1]) })
}

func TestExchangeOverEpochs(t *testing.T) {
	w := farWorld()
	if w.Nodes[1].Epoch != 2 || w.Nodes[2].Epoch != 4 || !impl.WorldOk(w) {
		t.Fatalf("the world: %s", worldTold(w))
	}
	after := askQuiet(t, "exchange", w, 0)
	for _, n := range after.Nodes {
		c := w.Nodes[2]
		if n.Epoch != c.Epoch || !slices.Equal(n.Done, c.Done) || !sameValue(n.Tree, c.Tree) || n.Round != c.Round || len(n.Past) != c.Epoch {
			t.Errorf("it came after: %s", nodeTold(n))
		}
	}
	if !sameValue(after.Net, w.Net) || !sameValue(after.Signed, w.Signed) || len(after.Blocks) != len(w.Blocks) {
		t.Errorf("more than that: %s", worldTold(after))
	}
	if again := askQuiet(t, "exchange", after, 0); !sameValue(again, after) {
		t.Errorf("once more: %s", worldDiffers(again, after))
	}
	// From b it comes as far as b is, from c on to where c is; each share brings an epoch, and the last one none.
	mid, many := heardAtOnce(w, 1, 0)
	if many != w.Nodes[1].Epoch+1 || mid.Nodes[0].Epoch != w.Nodes[1].Epoch {
		t.Errorf("from b alone: %d, %s", many, nodeTold(mid.Nodes[0]))
	}
	// Who is ahead hears nothing of those behind.
	if mid, many = heardAtOnce(w, 0, 2); many != 0 || !sameValue(mid, w) {
		t.Errorf("from a to c: %d", many)
	}
	// Where the one that is ahead has no proof of that epoch, another one's does.
	lacking := changedWorld(w, func(w *impl.World) { w.Nodes[2].Past = w.Nodes[2].Past[1:] })
	if after := askQuiet(t, "exchange", lacking, 0); after.Nodes[0].Epoch != w.Nodes[2].Epoch {
		t.Errorf("b's proof, then c's: %s", nodeTold(after.Nodes[0]))
	}
	nothing := changedWorld(lacking, func(w *impl.World) { w.Nodes[1] = newWanted("b", w.Base) })
	if after := askQuiet(t, "exchange", nothing, 0); !sameValue(after, nothing) {
		t.Errorf("nobody has a proof: %s", worldTold(after))
	}
}

// To each in order: the first hears before the others know, the last when all do.
func TestExchangeInOrder(t *testing.T) {
	w := votedWorld()
	for ahead := range 3 {
		x := changedWorld(w, func(w *impl.World) {
			for at := range w.Nodes {
				if at != ahead {
					w.Nodes[at] = newWanted(w.Nodes[at].Name, w.Base)
				}
			}
		})
		after := askQuiet(t, "exchange", x, 0)
		for _, n := range after.Nodes {
			if n.Round != 2 || n.High.Block != 0 || len(n.Tree) != 1 || n.Voted != map[bool]int{true: 1}[n.Name == x.Nodes[ahead].Name] {
				t.Errorf("from %d: %s", ahead, nodeTold(n))
			}
		}
	}
	// What is heard at once takes no room in Net.
	full := crowded(w, 400)
	full.Nodes[0] = newWanted("a", full.Base)
	if after := askQuiet(t, "exchange", full, 0); len(after.Nodes[0].Tree) != 1 || !sameValue(after.Net, full.Net) {
		t.Errorf("a full Net: %s", worldTold(after))
	}
}

// Each knows another part of the tree, in any order of the nodes; behind an exchange each knows all.
func TestExchangeOfTrees(t *testing.T) {
	row := rowFor(crewNode("a"), 0, 2)
	beside := blockFor(crewNode("a"), 2, 3, rootQc(), tcOf(2, "a b c", 0, 0, 0))
	left := changed(knowing("a", rootQc(), beside), func(n *impl.Node) { n.Tc, n.Round = beside.Tc, 3 })
	views := []impl.Node{knowing("a", certOf(row[0]), row...), left, crewNode("a")}
	for _, order := range [][]int{{0, 1, 2}, {0, 2, 1}, {1, 0, 2}, {1, 2, 0}, {2, 0, 1}, {2, 1, 0}} {
		w := changedWorld(crewWorld("d"), func(w *impl.World) {
			w.Blocks = append(row, beside)
			for at, view := range order {
				n := apartFrom(views[view])
				n.Name = w.Nodes[at].Name
				w.Nodes[at] = n
			}
		})
		after := askQuiet(t, "exchange", w, 0)
		for _, n := range after.Nodes {
			// What the Tc of the block 2 tells brings the round 3.
			if !sameValue(n.Tree, after.Blocks) || n.High.Round != 1 || n.Tc.Round != 2 || n.Round != 3 || len(n.Done) != 0 {
				t.Errorf("in the order %v: %s", order, nodeTold(n))
			}
		}
	}
	// b knows a certificate by which it has not learnt yet what is certain: a hears it of b, and then b of a.
	own := crewWorld("d")
	own.Blocks = row
	own.Nodes[1] = knowing("b", certOf(row[1]), row...)
	for _, n := range askQuiet(t, "exchange", own, 0).Nodes {
		if len(n.Tree) != 2 || n.Round != 3 || !slices.Equal(n.Done, []int{0}) {
			t.Errorf("told by b: %s", nodeTold(n))
		}
	}
}

// refused: words to a, none of which changes anything in it.
func refused() []impl.Msg {
	w := votedWorld()
	row := rowFor(crewNode("a"), 0, 2)
	wrong := with(row[1], func(b *impl.Block) { b.By = "a" })
	l := []impl.Msg{voteWord(2, 1, "z"), goneWord(2, "z", rootQc()), shareWord(qcOf(1, 0, "a b"), impl.Tc{}), shareWord(rootQc(), tcOf(1, "a", 0)), goneWord(2, "d", qcOf(1, 0, "c d")), propWord(w.Blocks[0]), shareWord(rootQc(), impl.Tc{}, w.Blocks[0], w.Blocks[0]), propWord(wrong)}
	for i, m := range l {
		l[i] = toPlace(w, 0, m)
	}
	late := toPlace(w, 0, voteWord(2, 1, "d"))
	late.Epoch = 1
	return append(l, late)
}

func TestDrainOfWordsThatAreRefused(t *testing.T) {
	w := votedWorld()
	w.Blocks = append(w.Blocks, with(rowFor(crewNode("a"), 0, 2)[1], func(b *impl.Block) { b.By = "a" }))
	for n := range len(refused()) + 1 {
		x := w
		x.Net = refused()[:n]
		if after := askQuiet(t, "drain", x, 0); !worldWanted(x) || len(after.Net) != 0 || !sameValue(after.Nodes, w.Nodes) || !sameValue(after.Signed, w.Signed) {
			t.Errorf("%d words: %s", n, worldTold(after))
		}
	}
	x := w
	x.Net = slices.Repeat(refused(), 45)[:400]
	if after := askQuiet(t, "drain", x, 0); len(after.Net) != 0 || !sameValue(after.Nodes, w.Nodes) {
		t.Errorf("400 words: %s", worldTold(after))
	}
}

// Words that are answered: as far as there is room behind the word that was heard, which has left its own.
func TestDrainOfAnswers(t *testing.T) {
	w := behind(crewWorld(), leadEv(1))
	prop := w.Net[0]
	if prop.Kind != 1 || prop.To != "a" || prop.Bs[0].Id != 0 {
		t.Fatalf("no proposal to a: %s", wordTold(prop))
	}
	for room, heard := range map[int]string{1: "b", 2: "b c", 3: "b c d"} {
		x := w
		x.Net = []impl.Msg{prop}
		for i := range 400 - room {
			x.Net = append(x.Net, toPlace(w, 0, voteWord(101+i, 7, "d")))
		}
		after := askQuiet(t, "drain", x, 0)
		var told []string
		for _, n := range after.Nodes[1:] {
			if slices.ContainsFunc(n.Votes, func(v impl.Vote) bool { return v.Who == "a" }) {
				told = append(told, n.Name)
			}
		}
		// Of a full Net the word that is heard leaves room for one.
		if len(x.Net) != 401-room || len(after.Net) != 0 || strings.Join(told, " ") != heard || len(after.Signed) != 2 {
			t.Errorf("with room for %d: %v heard of a's vote", room, told)
		}
	}
	// All four vote, each to the three others, and come on.
	after := askQuiet(t, "drain", w, 0)
	for _, n := range after.Nodes {
		if len(n.Votes) != 4 || n.Round != 2 || n.High.Block != 0 {
			t.Errorf("answered by all: %s", nodeTold(n))
		}
	}
}

func TestDrainBringsAll(t *testing.T) {
	for what, w := range map[string]impl.World{"nothing": crewWorld("d"), "a proposal": behind(crewWorld("d"), leadEv(1)), "leavings": behind(crewWorld("d"), leaveEv(0), leaveEv(1), leaveEv(2)), "all kinds": busyWorld(), "shares": behind(nextWorld(), shareEv(0, 1), shareEv(1, 2), shareEv(2, 0)), "words of d": behind(votedWorld(), forgeEv(toPlace(votedWorld(), 1, voteWord(2, 0, "d")))), "400 words": crowded(busyWorld(), 400)} {
		after := askQuiet(t, "drain", w, 0)
		if len(after.Net) != 0 || !sameValue(after, drained(w)) {
			t.Errorf("%s: %s", what, worldTold(after))
		}
	}
	w := askQuiet(t, "drain", behind(crewWorld("d"), leadEv(1)), 0)
	if len(w.Signed) != 3 || w.Nodes[0].Round != 2 || w.Nodes[2].High.Round != 1 || !sameValue(w, votedWorld()) {
		t.Errorf("all voted: %s", worldTold(w))
	}
}

// busiest: words for as many rounds as there is room for, to all of twelve, each of which they answer with votes.
func busiest() impl.World {
	var stakes []impl.Acct
	for _, a := range letteredAccts(12, 30) {
		a.Stake = 10
		stakes = append(stakes, a)
	}
	w := worldNewWanted(ledgerOf(0, stakes...), nil)
	left := impl.Tc{}
	for round := 1; len(w.Net)+12 <= 400; round++ {
		b := blockFor(w.Nodes[0], len(w.Blocks), round, rootQc(), left)
		left = tcOf(round, "", slices.Repeat([]int{0}, 12)...)
		left.Who = nodeNames(w)
		w.Blocks = append(w.Blocks, b)
		for at := range w.Nodes {
			w.Net = append(w.Net, toPlace(w, at, propWord(b)))
		}
	}
	return w
}

// A Drain would bring 3000 words; a world that is right never has so many: proposals alone are answered, by votes, and those have no more room than the words that were heard leave.
func TestDrainOfManyWords(t *testing.T) {
	w := busiest()
	if !impl.WorldOk(w) || len(w.Net) < 390 {
		t.Fatalf("the world: %d words", len(w.Net))
	}
	many, most := 0, 0
	for x := w; len(x.Net) > 0; many++ {
		x, _ = impl.Do(x, deliverEv(0))
		most = max(most, len(x.Net))
	}
	after := askQuiet(t, "drain", w, 0)
	if many < 700 || most != 400 || many > 800 || len(after.Net) != 0 || len(after.Signed) < 300 {
		t.Errorf("%d words, at most %d at once, %d votes", many, most, len(after.Signed))
	}
}

// Over the rounds there are many more: each Drain counts from the beginning.
func TestSettleOfManyWords(t *testing.T) {
	w := busiest()
	w.Blocks, w.Net = nil, nil
	many := 0
	x := w
	for range 25 {
		x = exchangeGoes(drainGoes(x))
		begin := x.Nodes
		for at := range begin {
			x, _ = impl.Do(x, leadEv(at))
		}
		for ; len(x.Net) > 0; many++ {
			x, _ = impl.Do(x, deliverEv(0))
		}
		for at, n := range begin {
			if x.Nodes[at].Round == n.Round && x.Nodes[at].Epoch == n.Epoch {
				x, _ = impl.Do(x, leaveEv(at))
			}
		}
		x = exchangeGoes(drainGoes(x))
	}
	if after := impl.Settle(w, 25); !sameValue(after, x) || many < 3001 || len(after.Nodes[11].Done) < 14 || impl.Safe(after) != 0 {
		t.Errorf("%d words: %s", many, worldTold(after))
	}
}

func TestRoundGoesOn(t *testing.T) {
	w := askQuiet(t, "round", crewWorld("d"), 0)
	if !sameValue(w, votedWorld()) {
		t.Errorf("a first round: %s", worldDiffers(w, votedWorld()))
	}
	w = askQuiet(t, "round", w, 0)
	for _, n := range w.Nodes {
		if n.Round != 3 || !slices.Equal(n.Done, []int{0}) || len(w.Signed) != 6 {
			t.Errorf("the second: %s", nodeTold(n))
		}
	}
	// d should lead the round 3: nobody does, and all leave it.
	w = askQuiet(t, "round", w, 0)
	for _, n := range w.Nodes {
		if n.Round != 4 || n.Tc.Round != 3 || len(w.Blocks) != 2 || len(w.Signed) != 9 || len(w.Net) != 0 {
			t.Errorf("the third: %s", nodeTold(n))
		}
	}
	// a leads the round 4, b the round 5: the block of the round 4 is certain then, and the End ahead of it.
	w = askQuiet(t, "round", w, 0)
	for _, n := range w.Nodes {
		if n.Epoch != 0 || n.Round != 5 || !slices.Equal(n.Done, []int{0}) {
			t.Errorf("the fourth: %s", nodeTold(n))
		}
	}
	w = askQuiet(t, "round", w, 0)
	for _, n := range w.Nodes {
		if n.Epoch != 1 || n.Round != 1 || !slices.Equal(n.Done, []int{0, 1}) || len(n.Past[0].Bs) != 4 || impl.Safe(w) != 0 {
			t.Errorf("the fifth: %s", nodeTold(n))
		}
	}
}

// Who comes on by what is brought in the round, or into another epoch, does not leave.
func TestRoundLeavesWhereNothingCameOn(t *testing.T) {
	// b leads the round 1, but c, d and a voted later already: they hear it, and leave.
	w := changedWorld(crewWorld(), func(w *impl.World) { w.Nodes[0].Voted, w.Nodes[2].Voted = 1, 1 })
	after := askQuiet(t, "round", w, 0)
	left := 0
	for _, s := range after.Signed {
		if s.Kind == 2 {
			left++
		}
	}
	if left != 4 || len(after.Blocks) != 1 || after.Nodes[0].Round != 2 || after.Nodes[0].Tc.Round != 1 {
		t.Errorf("all leave: %s", worldTold(after))
	}
	// At the end of an epoch the number of the round may be the same: the epoch is not.
	for n := range 8 {
		x := settleWanted(crewWorld(), n)
		after := askQuiet(t, "round", x, 0)
		if slices.ContainsFunc(after.Signed, func(s impl.Sig) bool { return s.Kind == 2 }) {
			t.Errorf("behind %d rounds one left: %v", n, after.Signed)
		}
	}
	alone := worldNewWanted(aloneLedger(), nil)
	alone.Nodes[0] = changed(endingAlone(), func(n *impl.Node) { n.Led = 0 })
	alone.Blocks = alone.Nodes[0].Tree
	if after := askQuiet(t, "round", alone, 0); after.Nodes[0].Epoch != 4 || after.Nodes[0].Round != 1 || len(after.Signed) != 1 {
		t.Errorf("alone, at the end of its epoch: %s", worldTold(after))
	}
}

// aheadAndBehind: a and b are in the round 3 of the epoch 0, which the next block of b ends; c and d, who vote from the next epoch on, are there in the round 2 already, and have no proof to show.
func aheadAndBehind(t *testing.T) impl.World {
	var stake []impl.Acct
	for i, name := range []string{"a", "b", "c", "d"} {
		stake = append(stake, impl.Acct{Name: name, Free: 600, Stake: 10 * (1 - i/2)})
	}
	w := worldNewWanted(ledgerOf(0, stake...), nil)
	w = behind(w, submitEv(1, stakes(2, "c", 500, 0)), submitEv(1, stakes(2, "d", 500, 0)))
	w = settleWanted(w, 2)
	next := roundGoes(w)
	w = changedWorld(w, func(w *impl.World) {
		for at := 2; at < 4; at++ {
			w.Nodes[at] = changed(next.Nodes[at], func(n *impl.Node) { n.Past = nil })
		}
	})
	w = drained(behind(w, leaveEv(2), leaveEv(3)))
	for at, want := range []string{"0 3", "0 3", "1 2", "1 2"} {
		if n := w.Nodes[at]; fmt.Sprint(n.Epoch, n.Round) != want {
			t.Fatalf("the world: %s", nodeTold(n))
		}
	}
	return w
}

// In the next epoch the round may be one of the same number: who came there does not leave it.
func TestRoundWhereTheEpochAloneChanges(t *testing.T) {
	w := aheadAndBehind(t)
	after := askQuiet(t, "round", w, 0)
	mid := w
	for at := range mid.Nodes {
		mid, _ = eventWanted(mid, leadEv(at))
	}
	mid = drained(mid)
	if n := mid.Nodes[0]; n.Epoch != 1 || n.Round != w.Nodes[0].Round || mid.Nodes[1].Epoch != 1 || mid.Nodes[1].Round != 1 || mid.Nodes[2].Round != 3 {
		t.Fatalf("behind what was led: %s", worldTold(mid))
	}
	if slices.ContainsFunc(after.Signed[len(w.Signed):], func(s impl.Sig) bool { return s.Kind == 2 }) || after.Nodes[1].Round != 3 {
		t.Errorf("one left: %v", after.Signed)
	}
}

// Who leads is told by the round that each is in behind the exchange; nobody else makes a block.
func TestRoundIsLedByOne(t *testing.T) {
	for n := 1; n <= 12; n++ {
		w := worldNewWanted(stakesLedger(slices.Repeat([]int{10}, n)...), nil)
		for many := range 14 {
			lead := w.Nodes[0]
			for at, x := range w.Nodes {
				if x.Round != lead.Round || x.Epoch != lead.Epoch {
					t.Errorf("%d nodes, behind %d rounds: %s at %d", n, many, nodeTold(x), at)
				}
			}
			after := impl.Round(w)
			if len(after.Blocks) != len(w.Blocks)+1 || after.Blocks[many].By != leaderWanted(lead.Set, lead.Round) || after.Blocks[many].Round != lead.Round {
				t.Errorf("%d nodes, the round %d: %v", n, many, after.Blocks[len(w.Blocks):])
			}
			for at, x := range after.Nodes {
				if led := x.Led == lead.Round && x.Epoch == lead.Epoch; led && x.Name != after.Blocks[many].By {
					t.Errorf("%d nodes, behind %d rounds: led by %d", n, many, at)
				}
			}
			w = after
		}
	}
	callAsked(t, quietCall{Deed: "round", W: worldNewWanted(stakesLedger(slices.Repeat([]int{10}, 12)...), nil)})
}

// endingAlone is a of aloneLedger, in the round 3, whose next block makes an End certain.
func endingAlone() impl.Node {
	n := newWanted("a", aloneLedger())
	q := rootQc()
	for i := range 2 {
		b := blockFor(n, i, i+1, q, impl.Tc{})
		n.Tree, q = append(slices.Clone(n.Tree), b), qcOf(b.Round, b.Id, "a")
	}
	n.High, n.Round = q, 3
	return n
}

// What is on its way is brought ahead of all else, and what was said in the round behind it.
func TestRoundBringsWhatIsOnItsWay(t *testing.T) {
	w := behind(crewWorld("d"), leadEv(1))
	if after := askQuiet(t, "round", w, 0); after.Nodes[0].Round != 3 || len(after.Blocks) != 2 {
		t.Errorf("the round 1 was led already: %s", worldTold(after))
	}
	lost := changedWorld(w, func(w *impl.World) { w.Net = nil })
	// The proposal is lost, but b shares it; nobody votes for what is shared, so all leave.
	if after := askQuiet(t, "round", lost, 0); after.Nodes[0].Round != 2 || after.Nodes[2].Tc.Round != 1 || len(after.Nodes[2].Tree) != 1 || len(after.Blocks) != 1 {
		t.Errorf("the proposal was lost: %s", worldTold(after))
	}
	for what, x := range map[string]impl.World{"busy": busyWorld(), "far": farWorld(), "400 words": crowded(busyWorld(), 400), "1000 blocks": filledUp(busyWorld(), 1000), "999 blocks": filledUp(crewWorld("d"), 999), "half foul": halfFoul(t)} {
		for n := range 4 {
			if after := askQuiet(t, "settle", x, n); n > 0 && len(after.Net) != 0 {
				t.Errorf("%s: %d words left", what, len(after.Net))
			}
		}
	}
}

func TestSettleHowOften(t *testing.T) {
	w := behind(crewWorld("d"), submitEv(0, pay("a", "b", 5, 0)), submitEv(1, stakes(2, "c", 7, 0)), leaveEv(2))
	x := w
	for n := range 13 {
		if after := askQuiet(t, "settle", w, n); !sameValue(after, x) {
			t.Errorf("%d rounds: %s", n, worldDiffers(after, x))
		}
		x = askQuiet(t, "round", x, 0)
	}
	for _, n := range append(greatNumbers(), -1, 61, 62, 100, 0) {
		if after := askQuiet(t, "settle", w, n); !sameValue(after, w) {
			t.Errorf("%d rounds: something is done", n)
		}
	}
	all := askQuiet(t, "settle", w, 60)
	if half := askQuiet(t, "settle", askQuiet(t, "settle", w, 31), 29); !sameValue(all, half) || len(all.Nodes[0].Done) < 20 || sameValue(all, askQuiet(t, "settle", w, 59)) {
		t.Errorf("60 rounds: %s", worldDiffers(all, half))
	}
}

// Whether the world is right is asked at the beginning alone: where a node passes its bounds, the others go on.
func TestRoundWhereANodePassesItsBounds(t *testing.T) {
	// What is said of the round 10000 brings a to none, and to nobody else.
	w := changedWorld(crewWorld("c", "d"), func(w *impl.World) { w.Nodes[0].Round = 10000 })
	w.Net = []impl.Msg{toPlace(w, 0, shareWord(rootQc(), tcOf(10000, "b c d", 0, 0, 0))), toPlace(w, 1, voteWord(1, 0, "c"))}
	drained := askQuiet(t, "drain", w, 0)
	if drained.Nodes[0].Round != 10001 || len(drained.Net) != 0 || len(drained.Nodes[1].Votes) != 1 || impl.WorldOk(drained) {
		t.Errorf("a drain: %s", worldTold(drained))
	}
	one := askQuiet(t, "round", w, 0)
	if b := one.Nodes[1]; len(one.Blocks) != 1 || b.Led != 1 || len(b.Gones) != 1 || len(one.Net) != 0 {
		t.Errorf("b leads, and leaves: %s", worldTold(one))
	}
	// The rounds behind that one ask for it again, and do nothing.
	for _, n := range []int{1, 2, 3, 60} {
		if after := askQuiet(t, "settle", w, n); !sameValue(after, one) {
			t.Errorf("%d rounds: %s", n, worldDiffers(after, one))
		}
	}
	if after := askQuiet(t, "round", one, 0); !sameValue(after, one) {
		t.Error("a round of a world that is not right")
	}
	// In an exchange, too: what b hears is more than may be done, and c hears of a all the same.
	row := rowFor(crewNode("a"), 0, 2)
	x := changedWorld(crewWorld("d"), func(w *impl.World) {
		w.Blocks = row
		w.Nodes[0].Round, w.Nodes[0].Tc = 6, tcOf(5, "a b c", 0, 0, 0)
		for at, q := range []impl.Qc{certOf(row[0]), certOf(row[1])} {
			w.Nodes[1+at] = knowing(string("bc"[at]), q, row...)
		}
		w.Nodes[1].Done = make([]int, 200)
		for i := range w.Nodes[1].Done {
			w.Nodes[1].Done[i] = 1000 + i
		}
	})
	if !impl.WorldOk(x) {
		t.Fatalf("no world: %s", worldTold(x))
	}
	x = askQuiet(t, "exchange", x, 0)
	if len(x.Nodes[1].Done) != 201 || x.Nodes[2].Round != 6 || impl.WorldOk(x) {
		t.Errorf("an exchange: %s", worldTold(x))
	}
}

// Where all come to their bounds, the rounds go on up to there: what is met exactly is right still.
func TestSettleUpToTheBounds(t *testing.T) {
	with := func(change func(n *impl.Node)) impl.World {
		return changedWorld(crewWorld("d"), func(w *impl.World) {
			for at := range w.Nodes {
				change(&w.Nodes[at])
			}
		})
	}
	done := func(many int) impl.World {
		return with(func(n *impl.Node) {
			for i := range many {
				n.Done = append(n.Done, 1000+i)
			}
		})
	}
	past := func(many int) impl.World {
		return with(func(n *impl.Node) { n.Past = make([]impl.Proof, many) })
	}
	for what, x := range map[string]struct {
		w    impl.World
		last int
	}{
		// The block 0 is certain behind two rounds, the block 1 behind five, the block 3 behind seven, the block 4 behind ten.
		"200 done": {done(200), 2}, "199 done": {done(199), 5}, "198 done": {done(198), 7}, "197 done": {done(197), 10},
		"200 past": {past(200), 5}, "199 past": {past(199), 10}, "198 past": {past(198), 15},
		"the round 10000": {with(func(n *impl.Node) { n.Round = 10000 }), 1}, "the round 9999": {with(func(n *impl.Node) { n.Round = 9999 }), 2}, "the round 9998": {with(func(n *impl.Node) { n.Round, n.Tc = 9998, tcOf(9997, "a b c", 0, 0, 0) }), 3},
	} {
		w := x.w
		for n := range x.last + 3 {
			if right := impl.WorldOk(w); right != (n < x.last) {
				t.Errorf("%s, behind %d rounds: right is %v: %s", what, n, right, worldTold(w))
			}
			if after := askQuiet(t, "settle", x.w, n); !sameValue(after, w) {
				t.Errorf("%s, %d rounds: %s", what, n, worldDiffers(after, w))
			}
			w = askQuiet(t, "round", w, 0)
		}
		for _, n := range []int{59, 60} {
			if after := impl.Settle(x.w, n); !sameValue(after, w) {
				t.Errorf("%s, %d rounds: %s", what, n, worldDiffers(after, w))
			}
		}
	}
}

// twoSpeak: of whom promise 18 tells: each who votes is a node or foul, and two names one behind the other, in a ring, are of nodes.
func twoSpeak(w impl.World, set []impl.Val) bool {
	nodes, two := nodeNames(w), false
	for i, v := range set {
		next := set[(i+1)%len(set)]
		if !slices.Contains(nodes, v.Name) && !slices.Contains(w.Foul, v.Name) {
			return false
		}
		two = two || slices.Contains(nodes, v.Name) && slices.Contains(nodes, next.Name)
	}
	return two
}

// maySettle: whether promise 18 tells of this world.
func maySettle(w impl.World) bool {
	lone := func(set []impl.Val) bool { return !twoSpeak(w, set) }
	return premiseWanted(w) && withinBounds(w) && !slices.ContainsFunc(setsWanted(w), lone)
}

// comesOn is promise 18: behind at most so many rounds the fewest that are certain at a node are more than the most were. It answers the world behind them, and how many they were.
func comesOn(t *testing.T, what string, w impl.World, within int) (impl.World, int) {
	t.Helper()
	most, after := impl.Most(w), w
	if !maySettle(w) {
		t.Fatalf("%s: no such world: %s", what, worldTold(w))
	}
	for n := range within + 1 {
		if impl.Least(after) > most {
			if v := verdictOf(after); v.Safe != 0 || !sameValue(after, impl.Settle(w, n)) {
				t.Errorf("%s, %d rounds: %+v", what, n, v)
			}
			return after, n
		}
		after = impl.Round(after)
	}
	// What waits in a pool may bring stake to a foul one on the way.
	if !maySettle(after) {
		return after, within
	}
	t.Errorf("%s: behind %d rounds %d to %d are certain, ahead of them %d: %s", what, within, impl.Least(after), impl.Most(after), most, worldTold(w))
	return after, within
}

// roundsNeeded: in a new world of n who weigh alike, of whom these are foul, the block of the first round whose leader speaks, as the next one does, is certain behind that.
func roundsNeeded(n int, foul ...int) int {
	for round := 1; ; round++ {
		if !slices.Contains(foul, round%n) && !slices.Contains(foul, (round+1)%n) {
			return round + 1
		}
	}
}

// alike: n who weigh alike; those at these places are foul, and silent.
func alike(n int, foul ...int) impl.World {
	var names []string
	for _, at := range foul {
		names = append(names, string(rune('a'+at)))
	}
	return worldNewWanted(stakesLedger(slices.Repeat([]int{10}, n)...), names)
}

// The one who is silent may stand at each place of the Set.
func TestSettleWithOneSilent(t *testing.T) {
	for n := 4; n <= 12; n++ {
		for at := range n {
			what := fmt.Sprintf("%d of whom %d is silent", n, at)
			w, many := comesOn(t, what, alike(n, at), n)
			if many != roundsNeeded(n, at) {
				t.Errorf("%s: %d rounds, not %d", what, many, roundsNeeded(n, at))
			}
			for range 4 {
				// A round may be left first, and an epoch begins with the first two again.
				w, _ = comesOn(t, what, w, 5)
			}
			if w.Nodes[0].Epoch < 1 {
				t.Errorf("%s: no epoch ends: %s", what, worldTold(w))
			}
		}
	}
	askQuiet(t, "settle", alike(5, 0), 8)
	askQuiet(t, "settle", alike(5, 4), 8)
}

// Several may be silent, as long as there are two one behind the other who are not; the first is behind the last.
func TestSettleWithSeveralSilent(t *testing.T) {
	for n, lists := range map[int][][]int{7: {{0, 1}, {0, 6}, {2, 4}, {1, 3}, {3, 6}}, 10: {{0, 1, 2}, {7, 8, 9}, {1, 3, 5}, {0, 4, 9}, {2, 5, 8}}, 12: {{1, 4, 8}, {0, 2, 11}, {5, 6, 7}}} {
		for _, foul := range lists {
			what := fmt.Sprintf("%d without %v", n, foul)
			w, many := comesOn(t, what, alike(n, foul...), n)
			if many != roundsNeeded(n, foul...) {
				t.Errorf("%s: %d rounds, not %d", what, many, roundsNeeded(n, foul...))
			}
			for range 3 {
				w, _ = comesOn(t, what, w, n)
			}
		}
	}
	// Only the last and the first speak one behind the other.
	heavy := worldNewWanted(stakesLedger(20, 5, 20, 5, 20), []string{"b", "d"})
	if _, many := comesOn(t, "the ring", heavy, 5); many != 5 {
		t.Errorf("the ring: %d rounds", many)
	}
	// Where each second one is silent, no two rounds come together, whatever time goes by.
	apart := worldNewWanted(stakesLedger(30, 5, 30, 5), []string{"b", "d"})
	if after := impl.Settle(apart, 60); maySettle(apart) || impl.Most(after) != 0 || len(after.Blocks) < 20 || impl.Safe(after) != 0 {
		t.Errorf("each second one: %s", worldTold(after))
	}
}

// With nobody foul two blocks are certain behind three rounds each, for the third one ends the epoch with its certificate alone.
func TestSettleGoesOnAndOn(t *testing.T) {
	for n := 1; n <= 12; n++ {
		w := alike(n)
		for many := range 16 {
			want := 2*(many/3) + many%3/2
			doneIs(t, fmt.Sprintf("%d nodes, %d rounds", n, many), w, want, want)
			w = impl.Round(w)
		}
	}
	w := crewWorld("d")
	for many := range 26 {
		want := 2 * (many / 5)
		if many%5 >= 2 {
			want++
		}
		doneIs(t, fmt.Sprintf("d is silent, %d rounds", many), w, want, want)
		w = impl.Round(w)
	}
}

// stuckWorlds: worlds in which something was done that a round can't go on from by itself.
func stuckWorlds(t *testing.T) map[string]impl.World {
	lost := func(w impl.World) impl.World {
		return changedWorld(w, func(w *impl.World) { w.Net = nil })
	}
	all := []impl.Event{leaveEv(0), leaveEv(1), leaveEv(2)}
	split := lost(behind(crewWorld("b"), leaveEv(1)))
	for at := range 2 {
		// b, who is foul, leads the round 1 twice; a votes for the one, d for the other, and c left.
		b := blockFor(split.Nodes[0], at, 1, rootQc(), impl.Tc{}, slices.Repeat([]impl.Tx{pay("a", "b", 1, 0)}, at)...)
		split = lost(behind(split, forgeEv(toPlace(split, 2*at, propWord(b))), deliverEv(0)))
	}
	hidden := lost(behind(crewWorld("d"), leadEv(1), deliverEv(0)))
	for _, who := range []string{"a", "d"} {
		hidden = drained(behind(hidden, forgeEv(toPlace(hidden, 1, voteWord(1, 0, who)))))
	}
	// d told of a High that there is not: who knows the Tc can't lead behind it.
	false1 := lost(behind(crewWorld("d"), all...))
	p := &plot{t, false1}
	p.leftBy(1, 0, 1, 2)
	p.leftBy(2, 0, 1, 2)
	p.leave(0, 1, 2)
	p.tell(0, shareWord(rootQc(), tcOf(3, "a b d", 0, 0, 2)))
	settled := settleWanted(crewWorld("d"), 13)
	forgot := settled
	for at := range forgot.Nodes {
		forgot = behind(forgot, submitEv(at, pay("a", "b", 1, 0)), rebootEv(at))
	}
	return map[string]impl.World{
		"its block is lost": lost(behind(crewWorld("d"), leadEv(1))), "all left, and nobody heard": lost(behind(crewWorld("d"), all...)), "one voted, the others left": lost(behind(crewWorld("d"), leadEv(1), leaveEv(0), leaveEv(2))), "votes for two blocks": split, "a certificate that one knows": hidden, "a High that there is not": p.w,
		"c has heard of nothing": changedWorld(settled, func(w *impl.World) { w.Nodes[2] = newWanted("c", w.Base) }), "far apart": farWorld(), "all forgot": forgot, "busy": busyWorld(), "busy, and all is lost": lost(busyWorld()), "400 words": crowded(busyWorld(), 400), "an End that one knows": lost(behind(settleWanted(crewWorld("d"), 4), leadEv(1), deliverEv(0), deliverEv(1))),
	}
}

func TestSettleFromWhereNothingGoesOn(t *testing.T) {
	for what, w := range stuckWorlds(t) {
		callAsked(t, quietCall{Deed: "done", W: w})
		after, many := comesOn(t, what, w, 9)
		askQuiet(t, "settle", w, many)
		if after, more := comesOn(t, what+", once more", after, 5); more < 1 || impl.Safe(after) != 0 {
			t.Errorf("%s, once more: %d rounds", what, more)
		}
	}
	w := stuckWorlds(t)["a High that there is not"]
	if n := w.Nodes[0]; n.Round != 4 || n.Tc.Round != 3 || !slices.Equal(n.Tc.Highs, []int{0, 0, 2}) || n.High.Round != 0 || leaderWanted(n.Set, 4) != "a" {
		t.Errorf("a High that there is not: %s", nodeTold(n))
	}
	if one := askQuiet(t, "round", w, 0); len(one.Blocks) != len(w.Blocks) || one.Nodes[0].Tc.Round != 4 {
		t.Errorf("a led behind it: %s", worldTold(one))
	}
	if w := stuckWorlds(t)["a certificate that one knows"]; w.Nodes[1].High.Block != 0 || w.Nodes[0].High.Block != -1 || len(w.Nodes[2].Tree) != 0 {
		t.Errorf("a certificate that one knows: %s", worldTold(w))
	}
}

// takesAway: orders by which stake goes away, or comes to one who is neither a node nor foul.
func takesAway(w impl.World) func(impl.Event) bool {
	known := slices.Concat(nodeNames(w), w.Foul)
	takes := func(x impl.Tx) bool { return x.Kind == 3 || x.Kind == 2 && !slices.Contains(known, x.From) }
	return func(e impl.Event) bool {
		made := slices.ContainsFunc(e.M.Bs, func(b impl.Block) bool { return slices.ContainsFunc(b.Txs, takes) })
		return e.Kind == 4 && takes(e.T) || made
	}
}

// without: so many rounds go by of which the node at this place hears nothing.
func (x *turmoil) without(deaf, rounds int) {
	bring := func() {
		for len(x.w.Net) > 0 {
			if x.w.Net[0].To == x.w.Nodes[deaf].Name {
				x.do(dropEv(0))
			} else {
				x.do(deliverEv(0))
			}
		}
	}
	for range rounds {
		before := x.w.Nodes
		for at := range before {
			x.do(leadEv(at))
		}
		bring()
		for at, n := range before {
			if x.w.Nodes[at].Round == n.Round {
				x.do(leaveEv(at))
			}
		}
		bring()
	}
}

// Promise 18: whatever was lost, doubled, late, forgotten or forged, once nothing is lost any more each node comes to have more than any had.
func TestSettleBehindAnyEvents(t *testing.T) {
	times, apart, epochs, most := 0, 0, 0, 0
	for what, begin := range safeLedgers() {
		for seed := range 16 {
			x := turmoilOf(1800+seed, begin)
			x.bars = takesAway(begin)
			for turn := range 4 {
				x.goesOn(30)
				x.without(x.r.Intn(len(begin.Nodes)), x.r.Intn(4))
				x.goesOn(10)
				if !maySettle(x.w) {
					break
				}
				after, many := comesOn(t, fmt.Sprintf("%s, the seed %d, the turn %d", what, seed, turn), x.w, 2*len(begin.Base.Accts)+2)
				times, most = times+1, max(most, many)
				if x.apart() {
					apart++
				}
				if x.w = after; !maySettle(after) {
					break
				}
			}
			epochs += x.w.Nodes[0].Epoch
		}
	}
	if times < 400 || apart < 25 || epochs < 300 || most < 5 {
		t.Errorf("too little happened: %d times, %d apart, %d epochs, up to %d rounds", times, apart, epochs, most)
	}
}

// Who votes may change on the way, as long as all of them are nodes or foul.
func TestSettleOverSets(t *testing.T) {
	l := ledgerOf(0, append(crewLedger().Accts, impl.Acct{Name: "e", Free: 70}, impl.Acct{Name: "f", Free: 70})...)
	w := worldNewWanted(l, []string{"d"})
	for i, x := range []impl.Tx{stakes(2, "e", 30, 0), stakes(2, "a", 50, 0), stakes(2, "f", 25, 0), pay("b", "d", 40, 0), stakes(2, "d", 20, 0), stakes(2, "e", 40, 1)} {
		for at := range w.Nodes {
			w.Nodes[at], _ = submitWanted(w.Nodes[at], x)
		}
		for range 3 {
			w, _ = comesOn(t, fmt.Sprint("the order ", i), w, 8)
		}
	}
	if n := w.Nodes[4]; len(n.Set) != 6 || n.Epoch < 6 || n.Base.Accts[4].Stake < 30 {
		t.Errorf("who votes: %s", nodeTold(n))
	}
}

// Where the promise does not tell of a world, it may stand still: a third is silent, or one who votes has no node.
func TestSettleStandsStill(t *testing.T) {
	gone := changedWorld(crewWorld("d"), func(w *impl.World) { w.Nodes = w.Nodes[:2] })
	for what, w := range map[string]impl.World{"two of four are foul": crewWorld("c", "d"), "all are foul": crewWorld("a", "b", "c", "d"), "c has no node": gone, "nobody votes": worldNewWanted(stakesLedger(4, 4, 4), nil), "a third": alike(6, 1, 4)} {
		after := impl.Settle(w, 60)
		doneIs(t, what, after, 0, 0)
		if maySettle(w) || impl.Safe(after) != 0 {
			t.Errorf("%s: %s", what, worldTold(after))
		}
	}
	doneIs(t, "one of three", impl.Settle(alike(3, 1), 60), 0, 0)
}

// A tree that a foul one filled takes no block any more: the rounds go by, and what was not certain by then will not be.
func TestSettleWhereTreesAreFull(t *testing.T) {
	for many, want := range map[int]int{395: 2, 396: 2, 397: 2, 398: 1, 399: 0, 400: 0} {
		w := crewWorld("b")
		var l []impl.Block
		for i := range many {
			l = append(l, impl.Block{Id: i, Round: 1, By: "b", Qc: rootQc()})
		}
		for at := range w.Nodes {
			w, _ = impl.Do(w, forgeEv(toPlace(w, at, shareWord(rootQc(), impl.Tc{}, l...))))
		}
		w = impl.Drain(w)
		if n := w.Nodes[2]; len(n.Tree) != many || !impl.Premise(w) {
			t.Fatalf("%d blocks: %s", many, worldTold(w))
		}
		// Where the first two are certain the epoch is over, and the next one's trees are empty.
		if after := impl.Settle(w, 12); impl.Least(after) < want || want < 2 && impl.Most(after) != want || impl.Safe(after) != 0 {
			t.Errorf("%d blocks: %d to %d are certain", many, impl.Least(after), impl.Most(after))
		}
	}
}

// Quiet times behind whatever happened: all is safe, and no node has less that is certain.
func TestQuietBehindAnyEvents(t *testing.T) {
	came, most := 0, 0
	for _, begin := range safeLedgers() {
		for seed := range 3 {
			x := turmoilOf(180+seed, begin)
			for range 5 {
				x.goesOn(40)
				w := x.w
				deed := []string{"exchange", "drain", "round", "settle"}[x.r.Intn(4)]
				after := askQuiet(t, deed, w, x.r.Intn(5))
				if v := askVerdict(t, after); v.Safe != 0 && v.Premise {
					t.Errorf("%s: %+v: %s", deed, v, worldTold(after))
				}
				for at, n := range after.Nodes {
					came += len(n.Done) - len(w.Nodes[at].Done)
					most = max(most, n.Epoch)
				}
				x.w = after
			}
		}
	}
	if came < 100 || most < 3 {
		t.Errorf("too little happened: %d came to be certain, the epoch %d", came, most)
	}
}

// Worlds in which one thing is another one.
func TestQuietWorldsSpoilt(t *testing.T) {
	r := rand.New(rand.NewSource(18))
	begin := []impl.World{busyWorld(), nextWorld(), farWorld(), behind(votedWorld(), leadEv(2), leaveEv(0))}
	did := map[string]int{}
	for range 1500 {
		w := apartFrom(begin[r.Intn(len(begin))])
		spoil(r, reflect.ValueOf(&w).Elem())
		callAsked(t, quietCall{Deed: "done", W: w})
		for _, c := range quiets(w)[:5] {
			if after := callAsked(t, c)[0]; !sameValue(after, w) {
				did[c.Deed]++
			}
		}
	}
	for _, deed := range []string{"exchange", "drain", "round", "settle"} {
		if did[deed] < 100 {
			t.Errorf("too few: %v", did)
		}
	}
}

// What is written into an answer is seen nowhere else, and no call keeps anything for another.
func TestQuietKeepsNothing(t *testing.T) {
	var calls []keptCall
	for _, w := range []impl.World{busyWorld(), crewWorld("d"), farWorld(), wrongWorlds()["a node of the round 0"], {}} {
		for _, c := range append(quiets(w), quietCall{Deed: "done", W: w}) {
			calls = append(calls, c)
		}
	}
	keepNothing(t, calls)
}

// Full trees that all nodes have alike are told in no long time.
func TestQuietOfFullTrees(t *testing.T) {
	n := crewNode("a")
	q := rootQc()
	for i := range 400 {
		// Each second round is left out, so that nothing is certain.
		b := impl.Block{Id: i, Round: 2*i + 1, By: leaderWanted(n.Set, 2*i+1), Qc: q}
		if i > 0 {
			b.Tc = tcOf(2*i, "a b c", 0, 0, 0)
		}
		if i == 1 {
			b = makeWanted(n.Base, n.Tree, 0, nil).in(b)
		}
		n.Tree, q = append(n.Tree, b), certOf(b)
	}
	n.High, n.Round, n.Tc = q, 800, n.Tree[399].Tc
	w := crewWorld("d")
	w.Blocks = n.Tree
	for at := range w.Nodes {
		n.Name = w.Nodes[at].Name
		w.Nodes[at] = n
	}
	if after := impl.Settle(w, 12); !impl.WorldOk(after) || len(after.Nodes[0].Tree) != 400 || after.Nodes[0].Round < 806 || impl.Safe(after) != 0 {
		t.Errorf("full trees: the round %d", after.Nodes[0].Round)
	}
}

// A world as full as one may be is quiet in no long time.
func TestQuietOfFullWorlds(t *testing.T) {
	w := crewWorld("d")
	for i := range 1000 {
		w.Blocks = append(w.Blocks, impl.Block{Id: i, Round: 1, By: "b", Qc: rootQc()})
	}
	for at := range w.Nodes {
		w.Nodes[at].Tree = w.Blocks[300*at : 300*at+400]
	}
	for i := range 400 {
		w.Net = append(w.Net, toPlace(w, i%3, inEpoch(shareWord(rootQc(), impl.Tc{}, w.Blocks[i:i+400]...), 0)))
	}
	after := impl.Drain(w)
	if !impl.WorldOk(w) || len(after.Net) != 0 || !sameValue(after.Nodes, w.Nodes) {
		t.Error("shares of full trees, to full trees")
	}
	if again := impl.Exchange(after); !sameValue(again, after) {
		t.Error("an exchange of full trees")
	}
	if signed := changedWorld(votedWorld(), func(w *impl.World) { w.Signed = make([]impl.Sig, 1<<17) }); len(impl.Settle(signed, 3).Signed) < 1<<17+6 {
		t.Error("very many signatures")
	}
}
