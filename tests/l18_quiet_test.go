package tests

import (
	"fmt"
	"math"
	"math/rand"
	"reflect"
	"slices"
	"testing"

	"loop.example/g00194/impl"
)

// heardAtOnce is w behind all that one node shares with another, and how often that was.
func heardAtOnce(w impl.World, from, to int) (impl.World, int) {
	for many := 0; ; many++ {
		n := w.Nodes[to]
		m, ok := shareOfWanted(w.Nodes[from], n.Epoch, n.Name)
		if !ok {
			return w, many
		}
		after, said, sigs := hearWanted(n, m)
		w = cameOut(w, to, after, said, sigs)
		if after.Epoch == n.Epoch {
			return w, many + 1
		}
	}
}

// The four as they go, of a world that is right at the beginning.
func exchangeGoes(w impl.World) impl.World {
	for to := range w.Nodes {
		for from := range w.Nodes {
			if from != to {
				w, _ = heardAtOnce(w, from, to)
			}
		}
	}
	return w
}

func drainGoes(w impl.World) impl.World {
	for many := 0; many < 3000 && len(w.Net) > 0; many++ {
		w, _ = eventWanted(w, deliverEv(0))
	}
	return w
}

func roundGoes(w impl.World) impl.World {
	w = exchangeGoes(drainGoes(w))
	begin := w.Nodes
	for at := range begin {
		w, _ = eventWanted(w, leadEv(at))
	}
	w = drainGoes(w)
	for at, n := range begin {
		if now := w.Nodes[at]; now.Round == n.Round && now.Epoch == n.Epoch {
			w, _ = eventWanted(w, leaveEv(at))
		}
	}
	return exchangeGoes(drainGoes(w))
}

func settleWanted(w impl.World, n int) impl.World {
	for i := 0; i < n && n <= 60 && worldWanted(w); i++ {
		w = roundGoes(w)
	}
	return w
}

// A quietCall lets a quiet time go by in W: N rounds, where it settles.
type quietCall struct {
	Deed string
	W    impl.World
	N    int
}

func (c quietCall) ask() []any {
	switch c.Deed {
	case "exchange":
		return []any{impl.Exchange(c.W)}
	case "drain":
		return []any{impl.Drain(c.W)}
	case "round":
		return []any{impl.Round(c.W)}
	}
	return []any{impl.Settle(c.W, c.N)}
}

func (c quietCall) wanted() []any {
	if !worldWanted(c.W) {
		return []any{c.W}
	}
	switch c.Deed {
	case "exchange":
		return []any{exchangeGoes(c.W)}
	case "drain":
		return []any{drainGoes(c.W)}
	case "round":
		return []any{roundGoes(c.W)}
	}
	return []any{settleWanted(c.W, c.N)}
}

func (c quietCall) String() string { return fmt.Sprintf("%s %d: %s", c.Deed, c.N, worldTold(c.W)) }

// askQuiet lets that time go by, and holds what was made, signed and certain against what it was.
func askQuiet(t *testing.T, deed string, w impl.World, n int) impl.World {
	t.Helper()
	after := callAsked(t, quietCall{Deed: deed, W: w, N: n})[0].(impl.World)
	checkDone(t, w, impl.Event{}, after, true)
	for at, x := range w.Nodes {
		if y := after.Nodes[at]; !slices.Equal(y.Done[:min(len(y.Done), len(x.Done))], x.Done) || y.Epoch < x.Epoch {
			t.Errorf("%s: what was certain at %s is so no more: %v, then %v", deed, x.Name, x.Done, y.Done)
		}
	}
	return after
}

// quiets: each of the four, Settle with several numbers.
func quiets(w impl.World) []quietCall {
	l := []quietCall{{Deed: "exchange", W: w}, {Deed: "drain", W: w}, {Deed: "round", W: w}}
	for _, n := range []int{0, 1, 2, -1, 61, math.MaxInt, math.MinInt} {
		l = append(l, quietCall{Deed: "settle", W: w, N: n})
	}
	return l
}

func TestQuietWorldsNotRight(t *testing.T) {
	for what, w := range wrongWorlds() {
		for _, c := range append(quiets(w), quietCall{Deed: "settle", W: w, N: 60}) {
			if after := callAsked(t, c)[0]; !sameValue(after, w) {
				t.Errorf("%s: %s %d: something is done", what, c.Deed, c.N)
			}
		}
	}
}

func TestQuietWorldsRight(t *testing.T) {
	for _, w := range rightWorlds() {
		for _, c := range quiets(w) {
			callAsked(t, c)
		}
	}
}

func TestQuietWithoutNodes(t *testing.T) {
	for what, w := range map[string]impl.World{"zero": {}, "all foul": crewWorld("a", "b", "c", "d"), "no nodes": changedWorld(busyWorld(), func(w *impl.World) { w.Nodes, w.Net = nil, nil })} {
		for _, c := range append(quiets(w), quietCall{Deed: "settle", W: w, N: 60}) {
			if after := callAsked(t, c)[0]; !sameValue(after, w) {
				t.Errorf("%s: %s: something is done", what, c.Deed)
			}
		}
	}
	// One alone hears nobody, and goes on by itself.
	w := worldNewWanted(aloneLedger(), []string{"b"})
	if after := askQuiet(t, "exchange", w, 0); !sameValue(after, w) {
		t.Errorf("one alone: %s", worldTold(after))
	}
	if after := askQuiet(t, "settle", w, 6); len(after.Nodes[0].Done) != 4 || after.Nodes[0].Epoch != 5 || len(after.Net) != 0 {
		t.Errorf("one alone: %s", worldTold(after))
	}
}

// farWorld: c is in the epoch 4, b in the epoch 2, and a has heard of nothing.
func farWorld() impl.World {
	second := settleWanted(crewWorld("d"), 10)
	far := settleWanted(second, 10)
	return changedWorld(far, func(w *impl.World) { w.Nodes[0], w.Nodes[1] = newWanted("a", w.Base), apartFrom(second.Nodes[1]) })
}

func TestExchangeOverEpochs(t *testing.T) {
	w := farWorld()
	if w.Nodes[1].Epoch != 2 || w.Nodes[2].Epoch != 4 || !impl.WorldOk(w) {
		t.Fatalf("the world: %s", worldTold(w))
	}
	after := askQuiet(t, "exchange", w, 0)
	for _, n := range after.Nodes {
		c := w.Nodes[2]
		if n.Epoch != c.Epoch || !slices.Equal(n.Done, c.Done) || !sameValue(n.Tree, c.Tree) || n.Round != c.Round || len(n.Past) != c.Epoch {
			t.Errorf("it came after: %s", nodeTold(n))
		}
	}
	if !sameValue(after.Net, w.Net) || !sameValue(after.Signed, w.Signed) || len(after.Blocks) != len(w.Blocks) {
		t.Errorf("more than that: %s", worldTold(after))
	}
	if again := askQuiet(t, "exchange", after, 0); !sameValue(again, after) {
		t.Errorf("once more: %s", worldDiffers(again, after))
	}
	// From b it comes as far as b is, from c on to where c is; each share brings an epoch, and the last one none.
	mid, many := heardAtOnce(w, 1, 0)
	if many != w.Nodes[1].Epoch+1 || mid.Nodes[0].Epoch != w.Nodes[1].Epoch {
		t.Errorf("from b alone: %d, %s", many, nodeTold(mid.Nodes[0]))
	}
	// Who is ahead hears nothing of those behind.
	if mid, many = heardAtOnce(w, 0, 2); many != 0 || !sameValue(mid, w) {
		t.Errorf("from a to c: %d", many)
	}
	// Where the one that is ahead has no proof of that epoch, another one's does.
	lacking := changedWorld(w, func(w *impl.World) { w.Nodes[2].Past = w.Nodes[2].Past[1:] })
	if after := askQuiet(t, "exchange", lacking, 0); after.Nodes[0].Epoch != w.Nodes[2].Epoch {
		t.Errorf("b's proof, then c's: %s", nodeTold(after.Nodes[0]))
	}
	nothing := changedWorld(lacking, func(w *impl.World) { w.Nodes[1] = newWanted("b", w.Base) })
	if after := askQuiet(t, "exchange", nothing, 0); !sameValue(after, nothing) {
		t.Errorf("nobody has a proof: %s", worldTold(after))
	}
}

// To each in order: the first hears before the others know, the last when all do.
func TestExchangeInOrder(t *testing.T) {
	w := votedWorld()
	for ahead := range 3 {
		x := changedWorld(w, func(w *impl.World) {
			for at := range w.Nodes {
				if at != ahead {
					w.Nodes[at] = newWanted(w.Nodes[at].Name, w.Base)
				}
			}
		})
		after := askQuiet(t, "exchange", x, 0)
		for _, n := range after.Nodes {
			if n.Round != 2 || n.High.Block != 0 || len(n.Tree) != 1 || n.Voted != map[bool]int{true: 1}[n.Name == x.Nodes[ahead].Name] {
				t.Errorf("from %d: %s", ahead, nodeTold(n))
			}
		}
	}
	// What is heard at once takes no room in Net.
	full := crowded(w, 400)
	full.Nodes[0] = newWanted("a", full.Base)
	if after := askQuiet(t, "exchange", full, 0); len(after.Nodes[0].Tree) != 1 || !sameValue(after.Net, full.Net) {
		t.Errorf("a full Net: %s", worldTold(after))
	}
}

func TestDrainBringsAll(t *testing.T) {
	for what, w := range map[string]impl.World{"nothing": crewWorld("d"), "a proposal": behind(crewWorld("d"), leadEv(1)), "leavings": behind(crewWorld("d"), leaveEv(0), leaveEv(1), leaveEv(2)), "all kinds": busyWorld(), "shares": behind(nextWorld(), shareEv(0, 1), shareEv(1, 2), shareEv(2, 0)), "words of d": behind(votedWorld(), forgeEv(toPlace(votedWorld(), 1, voteWord(2, 0, "d")))), "400 words": crowded(busyWorld(), 400)} {
		after := askQuiet(t, "drain", w, 0)
		if len(after.Net) != 0 || !sameValue(after, drained(w)) {
			t.Errorf("%s: %s", what, worldTold(after))
		}
	}
	w := askQuiet(t, "drain", behind(crewWorld("d"), leadEv(1)), 0)
	if len(w.Signed) != 3 || w.Nodes[0].Round != 2 || w.Nodes[2].High.Round != 1 || !sameValue(w, votedWorld()) {
		t.Errorf("all voted: %s", worldTold(w))
	}
}

// busiest: words for as many rounds as there is room for, to all of twelve, each of which they answer with votes.
func busiest() impl.World {
	var stakes []impl.Acct
	for _, a := range letteredAccts(12, 30) {
		a.Stake = 10
		stakes = append(stakes, a)
	}
	w := worldNewWanted(ledgerOf(0, stakes...), nil)
	left := impl.Tc{}
	for round := 1; len(w.Net)+12 <= 400; round++ {
		b := blockFor(w.Nodes[0], len(w.Blocks), round, rootQc(), left)
		left = tcOf(round, "", slices.Repeat([]int{0}, 12)...)
		left.Who = nodeNames(w)
		w.Blocks = append(w.Blocks, b)
		for at := range w.Nodes {
			w.Net = append(w.Net, toPlace(w, at, propWord(b)))
		}
	}
	return w
}

// A Drain would bring 3000 words; a world that is right never has so many: proposals alone are answered, by votes, and those have no more room than the words that were heard leave.
func TestDrainOfManyWords(t *testing.T) {
	w := busiest()
	if !impl.WorldOk(w) || len(w.Net) < 390 {
		t.Fatalf("the world: %d words", len(w.Net))
	}
	many, most := 0, 0
	for x := w; len(x.Net) > 0; many++ {
		x, _ = impl.Do(x, deliverEv(0))
		most = max(most, len(x.Net))
	}
	after := askQuiet(t, "drain", w, 0)
	if many < 700 || most != 400 || many > 800 || len(after.Net) != 0 || len(after.Signed) < 300 {
		t.Errorf("%d words, at most %d at once, %d votes", many, most, len(after.Signed))
	}
}

// Over the rounds there are many more: each Drain counts from the beginning.
func TestSettleOfManyWords(t *testing.T) {
	w := busiest()
	w.Blocks, w.Net = nil, nil
	many := 0
	x := w
	for range 25 {
		x = exchangeGoes(drainGoes(x))
		begin := x.Nodes
		for at := range begin {
			x, _ = impl.Do(x, leadEv(at))
		}
		for ; len(x.Net) > 0; many++ {
			x, _ = impl.Do(x, deliverEv(0))
		}
		for at, n := range begin {
			if x.Nodes[at].Round == n.Round && x.Nodes[at].Epoch == n.Epoch {
				x, _ = impl.Do(x, leaveEv(at))
			}
		}
		x = exchangeGoes(drainGoes(x))
	}
	if after := impl.Settle(w, 25); !sameValue(after, x) || many < 3001 || len(after.Nodes[11].Done) < 14 || impl.Safe(after) != 0 {
		t.Errorf("%d words: %s", many, worldTold(after))
	}
}

func TestRoundGoesOn(t *testing.T) {
	w := askQuiet(t, "round", crewWorld("d"), 0)
	if !sameValue(w, votedWorld()) {
		t.Errorf("a first round: %s", worldDiffers(w, votedWorld()))
	}
	w = askQuiet(t, "round", w, 0)
	for _, n := range w.Nodes {
		if n.Round != 3 || !slices.Equal(n.Done, []int{0}) || len(w.Signed) != 6 {
			t.Errorf("the second: %s", nodeTold(n))
		}
	}
	// d should lead the round 3: nobody does, and all leave it.
	w = askQuiet(t, "round", w, 0)
	for _, n := range w.Nodes {
		if n.Round != 4 || n.Tc.Round != 3 || len(w.Blocks) != 2 || len(w.Signed) != 9 || len(w.Net) != 0 {
			t.Errorf("the third: %s", nodeTold(n))
		}
	}
	// a leads the round 4, b the round 5: the block of the round 4 is certain then, and the End ahead of it.
	w = askQuiet(t, "round", w, 0)
	for _, n := range w.Nodes {
		if n.Epoch != 0 || n.Round != 5 || !slices.Equal(n.Done, []int{0}) {
			t.Errorf("the fourth: %s", nodeTold(n))
		}
	}
	w = askQuiet(t, "round", w, 0)
	for _, n := range w.Nodes {
		if n.Epoch != 1 || n.Round != 1 || !slices.Equal(n.Done, []int{0, 1}) || len(n.Past[0].Bs) != 4 || impl.Safe(w) != 0 {
			t.Errorf("the fifth: %s", nodeTold(n))
		}
	}
}

// Who comes on by what is brought in the round, or into another epoch, does not leave.
func TestRoundLeavesWhereNothingCameOn(t *testing.T) {
	// b leads the round 1, but c, d and a voted later already: they hear it, and leave.
	w := changedWorld(crewWorld(), func(w *impl.World) { w.Nodes[0].Voted, w.Nodes[2].Voted = 1, 1 })
	after := askQuiet(t, "round", w, 0)
	left := 0
	for _, s := range after.Signed {
		if s.Kind == 2 {
			left++
		}
	}
	if left != 4 || len(after.Blocks) != 1 || after.Nodes[0].Round != 2 || after.Nodes[0].Tc.Round != 1 {
		t.Errorf("all leave: %s", worldTold(after))
	}
	// At the end of an epoch the number of the round may be the same: the epoch is not.
	for n := range 8 {
		x := settleWanted(crewWorld(), n)
		after := askQuiet(t, "round", x, 0)
		if slices.ContainsFunc(after.Signed, func(s impl.Sig) bool { return s.Kind == 2 }) {
			t.Errorf("behind %d rounds one left: %v", n, after.Signed)
		}
	}
	alone := worldNewWanted(aloneLedger(), nil)
	alone.Nodes[0] = changed(endingAlone(), func(n *impl.Node) { n.Led = 0 })
	alone.Blocks = alone.Nodes[0].Tree
	if after := askQuiet(t, "round", alone, 0); after.Nodes[0].Epoch != 4 || after.Nodes[0].Round != 1 || len(after.Signed) != 1 {
		t.Errorf("alone, at the end of its epoch: %s", worldTold(after))
	}
}

// endingAlone is a of aloneLedger, in the round 1 still, whose next block makes an End certain.
func endingAlone() impl.Node {
	n := newWanted("a", aloneLedger())
	q := rootQc()
	for i := range 2 {
		b := blockFor(n, i, i+1, q, impl.Tc{})
		n.Tree, q = append(slices.Clone(n.Tree), b), qcOf(b.Round, b.Id, "a")
	}
	n.High, n.Round = q, 3
	return n
}

// What is on its way is brought ahead of all else, and what was said in the round behind it.
func TestRoundBringsWhatIsOnItsWay(t *testing.T) {
	w := behind(crewWorld("d"), leadEv(1))
	if after := askQuiet(t, "round", w, 0); after.Nodes[0].Round != 3 || len(after.Blocks) != 2 {
		t.Errorf("the round 1 was led already: %s", worldTold(after))
	}
	lost := changedWorld(w, func(w *impl.World) { w.Net = nil })
	// The proposal is lost, but b shares it; nobody votes for what is shared, so all leave.
	if after := askQuiet(t, "round", lost, 0); after.Nodes[0].Round != 2 || after.Nodes[2].Tc.Round != 1 || len(after.Nodes[2].Tree) != 1 || len(after.Blocks) != 1 {
		t.Errorf("the proposal was lost: %s", worldTold(after))
	}
	for what, x := range map[string]impl.World{"busy": busyWorld(), "far": farWorld(), "400 words": crowded(busyWorld(), 400), "1000 blocks": filledUp(busyWorld(), 1000), "999 blocks": filledUp(crewWorld("d"), 999), "half foul": halfFoul(t)} {
		for n := range 4 {
			if after := askQuiet(t, "settle", x, n); n > 0 && len(after.Net) != 0 {
				t.Errorf("%s: %d words left", what, len(after.Net))
			}
		}
	}
}

func TestSettleHowOften(t *testing.T) {
	w := behind(crewWorld("d"), submitEv(0, pay("a", "b", 5, 0)), submitEv(1, stakes(2, "c", 7, 0)), leaveEv(2))
	x := w
	for n := range 13 {
		if after := askQuiet(t, "settle", w, n); !sameValue(after, x) {
			t.Errorf("%d rounds: %s", n, worldDiffers(after, x))
		}
		x = askQuiet(t, "round", x, 0)
	}
	for _, n := range append(greatNumbers(), -1, 61, 62, 100, 0) {
		if after := askQuiet(t, "settle", w, n); !sameValue(after, w) {
			t.Errorf("%d rounds: something is done", n)
		}
	}
	all := askQuiet(t, "settle", w, 60)
	if half := askQuiet(t, "settle", askQuiet(t, "settle", w, 31), 29); !sameValue(all, half) || len(all.Nodes[0].Done) < 20 || sameValue(all, askQuiet(t, "settle", w, 59)) {
		t.Errorf("60 rounds: %s", worldDiffers(all, half))
	}
}

// Whether the world is right is asked at the beginning alone: where a node passes its bounds, the others go on.
func TestRoundWhereANodePassesItsBounds(t *testing.T) {
	// What is said of the round 10000 brings a to none, and to nobody else.
	w := changedWorld(crewWorld("c", "d"), func(w *impl.World) { w.Nodes[0].Round = 10000 })
	w.Net = []impl.Msg{toPlace(w, 0, shareWord(rootQc(), tcOf(10000, "b c d", 0, 0, 0))), toPlace(w, 1, voteWord(1, 0, "c"))}
	drained := askQuiet(t, "drain", w, 0)
	if drained.Nodes[0].Round != 10001 || len(drained.Net) != 0 || len(drained.Nodes[1].Votes) != 1 || impl.WorldOk(drained) {
		t.Errorf("a drain: %s", worldTold(drained))
	}
	one := askQuiet(t, "round", w, 0)
	if b := one.Nodes[1]; len(one.Blocks) != 1 || b.Led != 1 || len(b.Gones) != 1 || len(one.Net) != 0 {
		t.Errorf("b leads, and leaves: %s", worldTold(one))
	}
	// The rounds behind that one ask for it again, and do nothing.
	for _, n := range []int{1, 2, 3, 60} {
		if after := askQuiet(t, "settle", w, n); !sameValue(after, one) {
			t.Errorf("%d rounds: %s", n, worldDiffers(after, one))
		}
	}
	if after := askQuiet(t, "round", one, 0); !sameValue(after, one) {
		t.Error("a round of a world that is not right")
	}
	// In an exchange, too: what b hears is more than may be done, and c hears of a all the same.
	row := rowFor(crewNode("a"), 0, 2)
	x := changedWorld(crewWorld("d"), func(w *impl.World) {
		w.Blocks = row
		w.Nodes[0].Round, w.Nodes[0].Tc = 6, tcOf(5, "a b c", 0, 0, 0)
		for at, q := range []impl.Qc{certOf(row[0]), certOf(row[1])} {
			w.Nodes[1+at] = knowing(string("bc"[at]), q, row...)
		}
		w.Nodes[1].Done = make([]int, 200)
		for i := range w.Nodes[1].Done {
			w.Nodes[1].Done[i] = 1000 + i
		}
	})
	if !impl.WorldOk(x) {
		t.Fatalf("no world: %s", worldTold(x))
	}
	x = askQuiet(t, "exchange", x, 0)
	if len(x.Nodes[1].Done) != 201 || x.Nodes[2].Round != 6 || impl.WorldOk(x) {
		t.Errorf("an exchange: %s", worldTold(x))
	}
}

// Quiet times behind whatever happened: all is safe, and no node has less that is certain.
func TestQuietBehindAnyEvents(t *testing.T) {
	came, most := 0, 0
	for _, begin := range safeLedgers() {
		for seed := range 3 {
			x := turmoilOf(180+seed, begin)
			for range 5 {
				x.goesOn(40)
				w := x.w
				deed := []string{"exchange", "drain", "round", "settle"}[x.r.Intn(4)]
				after := askQuiet(t, deed, w, x.r.Intn(5))
				if v := askVerdict(t, after); v.Safe != 0 && v.Premise {
					t.Errorf("%s: %+v: %s", deed, v, worldTold(after))
				}
				for at, n := range after.Nodes {
					came += len(n.Done) - len(w.Nodes[at].Done)
					most = max(most, n.Epoch)
				}
				x.w = after
			}
		}
	}
	if came < 100 || most < 3 {
		t.Errorf("too little happened: %d came to be certain, the epoch %d", came, most)
	}
}

// Worlds in which one thing is another one.
func TestQuietWorldsSpoilt(t *testing.T) {
	r := rand.New(rand.NewSource(18))
	begin := []impl.World{busyWorld(), nextWorld(), farWorld(), behind(votedWorld(), leadEv(2), leaveEv(0))}
	did := map[string]int{}
	for range 1500 {
		w := apartFrom(begin[r.Intn(len(begin))])
		spoil(r, reflect.ValueOf(&w).Elem())
		for _, c := range quiets(w)[:5] {
			if after := callAsked(t, c)[0]; !sameValue(after, w) {
				did[c.Deed]++
			}
		}
	}
	for _, deed := range []string{"exchange", "drain", "round", "settle"} {
		if did[deed] < 100 {
			t.Errorf("too few: %v", did)
		}
	}
}

// What is written into an answer is seen nowhere else, and no call keeps anything for another.
func TestQuietKeepsNothing(t *testing.T) {
	var calls []keptCall
	for _, w := range []impl.World{busyWorld(), crewWorld("d"), farWorld(), wrongWorlds()["a node of the round 0"], {}} {
		for _, c := range quiets(w) {
			calls = append(calls, c)
		}
	}
	keepNothing(t, calls)
}

// Full trees that all nodes have alike are told in no long time.
func TestQuietOfFullTrees(t *testing.T) {
	n := crewNode("a")
	q := rootQc()
	for i := range 400 {
		// Each second round is left out, so that nothing is certain.
		b := impl.Block{Id: i, Round: 2*i + 1, By: leaderWanted(n.Set, 2*i+1), Qc: q}
		if i > 0 {
			b.Tc = tcOf(2*i, "a b c", 0, 0, 0)
		}
		if i == 1 {
			b = makeWanted(n.Base, n.Tree, 0, nil).in(b)
		}
		n.Tree, q = append(n.Tree, b), certOf(b)
	}
	n.High, n.Round, n.Tc = q, 800, n.Tree[399].Tc
	w := crewWorld("d")
	w.Blocks = n.Tree
	for at := range w.Nodes {
		n.Name = w.Nodes[at].Name
		w.Nodes[at] = n
	}
	if after := impl.Settle(w, 12); !impl.WorldOk(after) || len(after.Nodes[0].Tree) != 400 || after.Nodes[0].Round < 806 || impl.Safe(after) != 0 {
		t.Errorf("full trees: the round %d", after.Nodes[0].Round)
	}
}

// A world as full as one may be is quiet in no long time.
func TestQuietOfFullWorlds(t *testing.T) {
	w := crewWorld("d")
	for i := range 1000 {
		w.Blocks = append(w.Blocks, impl.Block{Id: i, Round: 1, By: "b", Qc: rootQc()})
	}
	for at := range w.Nodes {
		w.Nodes[at].Tree = w.Blocks[300*at : 300*at+400]
	}
	for i := range 400 {
		w.Net = append(w.Net, toPlace(w, i%3, inEpoch(shareWord(rootQc(), impl.Tc{}, w.Blocks[i:i+400]...), 0)))
	}
	after := impl.Drain(w)
	if !impl.WorldOk(w) || len(after.Net) != 0 || !sameValue(after.Nodes, w.Nodes) {
		t.Error("shares of full trees, to full trees")
	}
	if again := impl.Exchange(after); !sameValue(again, after) {
		t.Error("an exchange of full trees")
	}
	if signed := changedWorld(votedWorld(), func(w *impl.World) { w.Signed = make([]impl.Sig, 1<<17) }); len(impl.Settle(signed, 3).Signed) < 1<<17+6 {
		t.Error("very many signatures")
	}
}
