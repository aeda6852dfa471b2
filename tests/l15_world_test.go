package tests

import (
	"fmt"
	"math"
	"math/rand"
	"reflect"
	"slices"
	"strings"
	"testing"

	"loop.example/g00194/impl"
)

func worldNewWanted(l impl.Ledger, foul []string) impl.World {
	if !ledgerWanted(l) || !namesWanted(foul) {
		return impl.World{}
	}
	w := impl.World{Base: l, Foul: foul}
	for _, a := range l.Accts {
		if !slices.Contains(foul, a.Name) {
			w.Nodes = append(w.Nodes, newWanted(a.Name, l))
		}
	}
	return w
}

func nodeNames(w impl.World) []string {
	var l []string
	for _, n := range w.Nodes {
		l = append(l, n.Name)
	}
	return l
}

// madeIn: whether each of these blocks is that of the world, in every field.
func madeIn(w impl.World, l []impl.Block) bool {
	for _, b := range l {
		if outside(b.Id, 0, len(w.Blocks)-1) || !sameFields(w.Blocks[b.Id], b) {
			return false
		}
	}
	return true
}

func worldWanted(w impl.World) bool {
	names := nodeNames(w)
	if !ledgerWanted(w.Base) || !namesWanted(w.Foul) || !namesWanted(names) || len(names) > 12 || len(w.Blocks) > 1000 || len(w.Net) > 400 {
		return false
	}
	for i, b := range w.Blocks {
		if !blockWanted(b) || b.Id != i {
			return false
		}
	}
	for _, n := range w.Nodes {
		if !nodeWanted(n) || slices.Contains(w.Foul, n.Name) || !madeIn(w, n.Tree) {
			return false
		}
	}
	return !slices.ContainsFunc(w.Net, func(m impl.Msg) bool {
		return !wordWanted(m) || !slices.Contains(names, m.To) || !madeIn(w, m.Bs)
	})
}

// eventWanted is the world behind e, whether it was right or not, and whether e was done.
func eventWanted(w impl.World, e impl.Event) (impl.World, bool) {
	if outside(e.Kind, 1, 9) {
		return w, false
	}
	if e.Kind == 9 {
		return forgeWanted(w, e.M)
	}
	if e.Kind >= 6 {
		return netWanted(w, e)
	}
	if outside(e.At, 0, len(w.Nodes)-1) {
		return w, false
	}
	n, made, said, sigs, ok := w.Nodes[e.At], []impl.Block{}, []impl.Msg{}, []impl.Sig{}, true
	switch e.Kind {
	case 1:
		n, made, said, sigs = leadWanted(n, len(w.Blocks))
		ok = len(made) > 0 && len(w.Blocks) < 1000
	case 2:
		n, said, sigs = leaveWanted(n)
		ok = len(sigs) > 0
	case 3:
		if outside(e.To, 0, len(w.Nodes)-1) {
			return w, false
		}
		said = make([]impl.Msg, 1)
		said[0], ok = shareOfWanted(n, w.Nodes[e.To].Epoch, w.Nodes[e.To].Name)
	case 4:
		n, ok = submitWanted(n, e.T)
	case 5:
		n = rebootWanted(n)
	}
	if !ok {
		return w, false
	}
	w.Blocks = append(slices.Clip(w.Blocks), made...)
	return cameOut(w, e.At, n, said, sigs), true
}

// cameOut is w with that node at its place, and what it said and signed.
func cameOut(w impl.World, at int, n impl.Node, said []impl.Msg, sigs []impl.Sig) impl.World {
	w.Nodes = slices.Clone(w.Nodes)
	w.Nodes[at] = n
	w.Net, w.Signed = slices.Clone(w.Net), slices.Clone(w.Signed)
	for _, m := range said {
		if slices.Contains(nodeNames(w), m.To) && len(w.Net) < 400 {
			w.Net = append(w.Net, m)
		}
	}
	for _, s := range sigs {
		if !slices.Contains(w.Signed, s) {
			w.Signed = append(w.Signed, s)
		}
	}
	return w
}

func netWanted(w impl.World, e impl.Event) (impl.World, bool) {
	if outside(e.At, 0, len(w.Net)-1) {
		return w, false
	}
	m := w.Net[e.At]
	if e.Kind == 8 {
		w.Net = append(slices.Clip(w.Net), m)
		w.Net = w.Net[:min(len(w.Net), 400)]
		return w, true
	}
	w.Net = slices.Delete(slices.Clone(w.Net), e.At, e.At+1)
	if e.Kind == 7 {
		return w, true
	}
	at := slices.Index(nodeNames(w), m.To)
	n, said, sigs := hearWanted(w.Nodes[at], m)
	return cameOut(w, at, n, said, sigs), true
}

func forgeWanted(w impl.World, m impl.Msg) (impl.World, bool) {
	at := slices.Index(nodeNames(w), m.To)
	if !wordWanted(m) || at < 0 || !signedWanted(w.Signed, w.Foul, m) {
		return w, false
	}
	more := w
	for _, b := range m.Bs {
		if b.Id == len(more.Blocks) && slices.Contains(w.Foul, b.By) && len(more.Blocks) < 1000 {
			more.Blocks = append(slices.Clip(more.Blocks), b)
		}
		if !madeIn(more, []impl.Block{b}) {
			return w, false
		}
	}
	return cameOut(more, at, w.Nodes[at], []impl.Msg{m}, nil), true
}

func doWanted(w impl.World, e impl.Event) (impl.World, bool) {
	if !worldWanted(w) {
		return w, false
	}
	return eventWanted(w, e)
}

func playWanted(w impl.World, list []impl.Event) impl.World {
	if !worldWanted(w) {
		return w
	}
	for i, e := range list {
		if i < 200 {
			w, _ = eventWanted(w, e)
		}
	}
	return w
}

// A worldCall is one thing that chapter 15 is asked: a new world of W's Base and Foul, whether W is right, E done in it, or L played.
type worldCall struct {
	Deed string
	W    impl.World
	E    impl.Event
	L    []impl.Event
}

func (c worldCall) ask() []any {
	switch c.Deed {
	case "new":
		return []any{impl.WorldNew(c.W.Base, c.W.Foul)}
	case "ok":
		return []any{impl.WorldOk(c.W)}
	case "do":
		return listed2(impl.Do(c.W, c.E))
	}
	return []any{impl.Play(c.W, c.L)}
}

func (c worldCall) wanted() []any {
	switch c.Deed {
	case "new":
		return []any{worldNewWanted(c.W.Base, c.W.Foul)}
	case "ok":
		return []any{worldWanted(c.W)}
	case "do":
		return listed2(doWanted(c.W, c.E))
	}
	return []any{playWanted(c.W, c.L)}
}

func (c worldCall) String() string {
	return fmt.Sprintf("%s: %s, %.500s, in %s", c.Deed, eventTold(c.E), fmt.Sprint(c.L), worldTold(c.W))
}

func eventTold(e impl.Event) string {
	s := fmt.Sprintf("the event %d at %d to %d", e.Kind, e.At, e.To)
	if e.T != (impl.Tx{}) {
		s += fmt.Sprintf(" of %+v", e.T)
	}
	if !sameValue(e.M, impl.Msg{}) {
		s += " of " + wordTold(e.M)
	}
	return s
}

func worldTold(w impl.World) string {
	s := fmt.Sprintf("a world without %v: %d blocks, signed %.300s, %d words", w.Foul, len(w.Blocks), fmt.Sprint(w.Signed), len(w.Net))
	for i, n := range w.Nodes {
		if i < 4 {
			s += fmt.Sprintf("\n    %.400s", nodeTold(n))
		}
	}
	return s
}

// worldDiffers tells the parts in which two worlds are not the same.
func worldDiffers(a, b impl.World) string {
	x, y, s := reflect.ValueOf(a), reflect.ValueOf(b), ""
	for i := range x.NumField() {
		if name := x.Type().Field(i).Name; !sameParts(x.Field(i), y.Field(i)) {
			s += fmt.Sprintf("\n  %s: %.700s, not %.700s", name, fmt.Sprintf("%+v", x.Field(i).Interface()), fmt.Sprintf("%+v", y.Field(i).Interface()))
		}
	}
	for i := range min(len(a.Nodes), len(b.Nodes)) {
		s += nodeDiffers(a.Nodes[i], b.Nodes[i])
	}
	return s
}

// worldAsked asks, and holds the answers against what is wanted, and against the conventions.
func worldAsked(t *testing.T, c worldCall) []any {
	t.Helper()
	args := withRoom(c)
	whole := memoryPrint(args)
	got, want := args.ask(), c.wanted()
	if memoryPrint(args) != whole {
		t.Errorf("%v: wrote into an argument, or behind it", c)
	}
	if shared := sharesMemory(got, []any{args.W, args.E, args.L}); shared != "" {
		t.Errorf("%v: memory is shared: %s", c, shared)
	}
	for i := range want {
		if sameValue(got[i], want[i]) {
			continue
		}
		if a, ok := got[i].(impl.World); ok {
			t.Errorf("%v\n  the world:%s", c, worldDiffers(a, want[i].(impl.World)))
		} else {
			t.Errorf("%v\n  answers %v", c, got[i])
		}
	}
	return got
}

func askWorldNew(t *testing.T, l impl.Ledger, foul ...string) impl.World {
	t.Helper()
	return worldAsked(t, worldCall{Deed: "new", W: impl.World{Base: l, Foul: foul}})[0].(impl.World)
}

func askWorldOk(t *testing.T, w impl.World) bool {
	t.Helper()
	return worldAsked(t, worldCall{Deed: "ok", W: w})[0].(bool)
}

// askDo asks for e, and looks at what comes of it.
func askDo(t *testing.T, w impl.World, e impl.Event) (impl.World, bool) {
	t.Helper()
	a := worldAsked(t, worldCall{Deed: "do", W: w, E: e})
	after, ok := a[0].(impl.World), a[1].(bool)
	checkDone(t, w, e, after, ok)
	return after, ok
}

// doWithoutMemory is as askDo, but looks at no memory, which takes most of the time.
func doWithoutMemory(t *testing.T, w impl.World, e impl.Event) (impl.World, bool) {
	t.Helper()
	after, ok := impl.Do(w, e)
	if want, may := doWanted(w, e); ok != may || !sameValue(after, want) {
		t.Errorf("%s: %v, %s", eventTold(e), ok, worldDiffers(after, want))
	}
	checkDone(t, w, e, after, ok)
	return after, ok
}

// checkDone: of a right world what comes is right, as long as its nodes keep within their bounds; what was made and signed stays so; and what is refused changes nothing.
func checkDone(t *testing.T, w impl.World, e impl.Event, after impl.World, ok bool) {
	t.Helper()
	if !ok && !sameValue(after, w) {
		t.Errorf("%s is refused, and leaves something behind: %s", eventTold(e), worldDiffers(after, w))
	}
	if !ok {
		return
	}
	if !impl.WorldOk(after) && withinBounds(after) {
		t.Errorf("%s: not right any more: %s", eventTold(e), worldTold(after))
	}
	if !sameValue(after.Blocks[:len(w.Blocks)], w.Blocks) || !slices.Equal(after.Signed[:len(w.Signed)], w.Signed) || !sameValue(after.Base, w.Base) || !slices.Equal(after.Foul, w.Foul) || !slices.Equal(nodeNames(after), nodeNames(w)) {
		t.Errorf("%s: what was made or signed is not any more: %s", eventTold(e), worldTold(after))
	}
}

func withinBounds(w impl.World) bool {
	return !slices.ContainsFunc(w.Nodes, func(n impl.Node) bool { return n.Round >= 10000 || len(n.Done) >= 200 || len(n.Past) >= 200 })
}

func askPlay(t *testing.T, w impl.World, list ...impl.Event) impl.World {
	t.Helper()
	return worldAsked(t, worldCall{Deed: "play", W: w, L: list})[0].(impl.World)
}

// happens: the event is done, and the world is changed so.
func happens(t *testing.T, what string, w impl.World, e impl.Event, change func(w *impl.World)) impl.World {
	t.Helper()
	after, ok := askDo(t, w, e)
	want := apartFrom(w)
	change(&want)
	if differs := worldDiffers(after, want); !ok || differs != "" {
		t.Errorf("%s: %v%s", what, ok, differs)
	}
	return after
}

// refusesEvent: the event is not done, neither by itself nor in a play, and the world is as it was.
func refusesEvent(t *testing.T, what string, w impl.World, e impl.Event) {
	t.Helper()
	if after, ok := askDo(t, w, e); ok || !sameValue(after, w) {
		t.Errorf("%s: done: %s", what, eventTold(e))
	}
	if after := askPlay(t, w, e, e); !sameValue(after, w) {
		t.Errorf("%s: played: %s", what, eventTold(e))
	}
}

func leadEv(at int) impl.Event              { return impl.Event{Kind: impl.EvLead, At: at} }
func leaveEv(at int) impl.Event             { return impl.Event{Kind: impl.EvLeave, At: at} }
func shareEv(at, to int) impl.Event         { return impl.Event{Kind: impl.EvShare, At: at, To: to} }
func submitEv(at int, x impl.Tx) impl.Event { return impl.Event{Kind: impl.EvSubmit, At: at, T: x} }
func rebootEv(at int) impl.Event            { return impl.Event{Kind: impl.EvReboot, At: at} }
func deliverEv(at int) impl.Event           { return impl.Event{Kind: impl.EvDeliver, At: at} }
func dropEv(at int) impl.Event              { return impl.Event{Kind: impl.EvDrop, At: at} }
func doubleEv(at int) impl.Event            { return impl.Event{Kind: impl.EvDouble, At: at} }
func forgeEv(m impl.Msg) impl.Event         { return impl.Event{Kind: impl.EvForge, M: m} }

// crewWorld: a, b, c and d, with 100 free and 10 at stake each; who is foul has no node.
func crewWorld(foul ...string) impl.World { return worldNewWanted(crewLedger(), foul) }

// behind is the world behind these events, each of which must be done.
func behind(w impl.World, list ...impl.Event) impl.World {
	for _, e := range list {
		after, ok := eventWanted(w, e)
		if !ok {
			panic("not done: " + eventTold(e) + " in " + worldTold(w))
		}
		w = after
	}
	return w
}

// drained is the world behind all words, each brought in its turn.
func drained(w impl.World) impl.World {
	for len(w.Net) > 0 {
		w = behind(w, deliverEv(0))
	}
	return w
}

// changedWorld is w, changed, and in memory of its own.
func changedWorld(w impl.World, change func(w *impl.World)) impl.World {
	w = apartFrom(w)
	change(&w)
	return w
}

// toPlace is m, to the node at this place, in its epoch.
func toPlace(w impl.World, at int, m impl.Msg) impl.Msg { return toNode(w.Nodes[at], m) }

// votedWorld: d is foul; b led the round 1, all three voted for its block 0, and are in the round 2, which c leads; nothing is on its way.
func votedWorld() impl.World { return drained(behind(crewWorld("d"), leadEv(1))) }

// nextWorld: the blocks 0 and 1 are certain at all three, and the epoch 1 has begun; the block 2, of the round 3, is of d.
func nextWorld() impl.World {
	w := behind(crewWorld("d"), submitEv(1, pay("a", "b", 5, 0)), submitEv(2, stakes(2, "c", 7, 0)), leadEv(1))
	w = drained(behind(drained(w), leadEv(2)))
	foul := blockFor(w.Nodes[0], 2, 3, w.Nodes[0].High, impl.Tc{})
	for at := range 3 {
		w = behind(w, forgeEv(toPlace(w, at, propWord(foul))))
	}
	return drained(w)
}

// busyWorld has something in each part: in the epoch 1 a left the round 1, b led it with an order, d voted for that, words of each kind are on their way, and one of the epoch that is over.
func busyWorld() impl.World {
	w := behind(nextWorld(), submitEv(1, pay("b", "c", 2, 0)), submitEv(0, pay("d", "a", 2, 0)), leaveEv(0), leadEv(1), deliverEv(0), deliverEv(1))
	late := inEpoch(voteWord(2, 1, "d"), 0)
	late.To = "b"
	vote := toPlace(w, 2, voteWord(1, 3, "d"))
	return behind(w, forgeEv(vote), forgeEv(late), shareEv(1, 0), leaveEv(2), deliverEv(len(w.Net)))
}

func TestWorldConstants(t *testing.T) {
	kinds := []int{impl.EvLead, impl.EvLeave, impl.EvShare, impl.EvSubmit, impl.EvReboot, impl.EvDeliver, impl.EvDrop, impl.EvDouble, impl.EvForge}
	if !slices.Equal(kinds, []int{1, 2, 3, 4, 5, 6, 7, 8, 9}) || impl.MaxNet != 400 {
		t.Error(kinds, impl.MaxNet)
	}
}

// The worlds that the other tests begin with are what they are said to be.
func TestWorldsToBeginWith(t *testing.T) {
	w := votedWorld()
	for _, n := range w.Nodes {
		if n.Round != 2 || n.High.Block != 0 || len(n.Tree) != 1 {
			t.Errorf("voted: %s", nodeTold(n))
		}
	}
	if w = nextWorld(); len(w.Blocks) != 3 || w.Blocks[2].By != "d" || len(w.Net) != 0 {
		t.Errorf("next: %s", worldTold(w))
	}
	for _, n := range w.Nodes {
		if n.Epoch != 1 || !slices.Equal(n.Done, []int{0, 1}) || len(n.Past) != 1 || n.Set[2].Weight != 17 {
			t.Errorf("next: %s", nodeTold(n))
		}
	}
	w = busyWorld()
	kinds := map[int]bool{}
	for _, m := range w.Net {
		kinds[m.Kind] = true
		kinds[10+m.Epoch] = true
	}
	full := slices.ContainsFunc(w.Nodes, func(n impl.Node) bool { return len(n.Votes) > 0 && len(n.Tree) > 0 }) && slices.ContainsFunc(w.Nodes, func(n impl.Node) bool { return len(n.Gones) > 0 }) && slices.ContainsFunc(w.Nodes, func(n impl.Node) bool { return len(n.Pool) > 0 })
	if !full || len(kinds) != 6 || len(w.Blocks) != 4 || len(w.Blocks[3].Txs) != 1 || len(w.Signed) < 10 || !worldWanted(w) {
		t.Errorf("busy: %v, %s", kinds, worldTold(w))
	}
}

func TestWorldNewOfLedgers(t *testing.T) {
	w := askWorldNew(t, crewLedger())
	if !slices.Equal(nodeNames(w), []string{"a", "b", "c", "d"}) || len(w.Foul)+len(w.Blocks)+len(w.Signed)+len(w.Net) != 0 || !sameLedger(w.Base, crewLedger()) || !askWorldOk(t, w) {
		t.Errorf("none is foul: %s", worldTold(w))
	}
	for i, n := range w.Nodes {
		isNode(t, "its node", n, crewNode(string("abcd"[i])))
	}
	for foul, names := range map[string]string{"d": "a b c", "a": "b c d", "b c": "a d", "a b c d": "", "z": "a b c d", "a z": "b c d", "aa": "a b c d", "0 1 2 a3": "a b c d", "a b c d e f g h i j k l m n o p q r s t": "", "d e f g h i j k l m n o p q r s t u v w": "a b c"} {
		w := askWorldNew(t, crewLedger(), strings.Fields(foul)...)
		if !slices.Equal(nodeNames(w), strings.Fields(names)) || !slices.Equal(w.Foul, strings.Fields(foul)) || !askWorldOk(t, w) {
			t.Errorf("without %s: %s", foul, worldTold(w))
		}
		for _, n := range w.Nodes {
			if len(n.Set) != 4 {
				t.Errorf("without %s: who votes is told by the ledger: %v", foul, n.Set)
			}
		}
	}
	one := ledgerOf(3, impl.Acct{Name: "x", Free: 9, Stake: 5})
	if w := askWorldNew(t, one); len(w.Nodes) != 1 || w.Nodes[0].Epoch != 3 || w.Base.Epoch != 3 || !askWorldOk(t, w) {
		t.Errorf("one account: %s", worldTold(w))
	}
	if w := askWorldNew(t, one, "x"); len(w.Nodes) != 0 || !sameLedger(w.Base, one) || !askWorldOk(t, w) {
		t.Errorf("one account, foul: %s", worldTold(w))
	}
	if w := askWorldNew(t, ledgerOf(0)); len(w.Nodes) != 0 || !askWorldOk(t, w) {
		t.Errorf("no account: %s", worldTold(w))
	}
	if w := askWorldNew(t, ledgerOf(900), "a"); w.Base.Epoch != 900 || !slices.Equal(w.Foul, []string{"a"}) || !askWorldOk(t, w) {
		t.Errorf("no account, one foul: %s", worldTold(w))
	}
	twelve := ledgerOf(900, letteredAccts(12, 3)...)
	if w := askWorldNew(t, twelve); len(w.Nodes) != 12 || !askWorldOk(t, w) {
		t.Errorf("12 accounts: %s", worldTold(w))
	}
	for _, a := range twelve.Accts {
		if w := askWorldNew(t, twelve, a.Name); len(w.Nodes) != 11 || slices.Contains(nodeNames(w), a.Name) || !askWorldOk(t, w) {
			t.Errorf("12 accounts, %s foul: %s", a.Name, worldTold(w))
		}
	}
	for _, l := range someBases() {
		if w := askWorldNew(t, l, "b"); askWorldOk(t, w) != true || ledgerWanted(l) && !sameLedger(w.Base, l) {
			t.Errorf("of %v: %s", l, worldTold(w))
		}
	}
}

// wrongNames: lists that are not NamesOk.
func wrongNames() [][]string {
	l := [][]string{{"b", "a"}, {"a", "a"}, {"a", "b", "b"}, {"c", "d", "b"}, {"ab", "a"}, strings.Fields("a b c d e f g h i j k l m n o p q r s t u"), {""}, {"", ""}}
	for _, name := range noNames() {
		l = append(l, []string{name}, []string{name, "zz"}, []string{"0", name})
	}
	return l
}

func TestWorldNewRefuses(t *testing.T) {
	isZero := func(what string, w impl.World) {
		if !sameValue(w, impl.World{}) {
			t.Errorf("%s: %s", what, worldTold(w))
		}
	}
	for i, l := range wrongLedgers() {
		isZero(fmt.Sprintf("the ledger %d", i), askWorldNew(t, l))
		isZero(fmt.Sprintf("the ledger %d, a foul", i), askWorldNew(t, l, "a"))
	}
	for _, foul := range wrongNames() {
		isZero(fmt.Sprintf("%.60q foul", foul), askWorldNew(t, crewLedger(), foul...))
		isZero(fmt.Sprintf("%.60q foul, a wrong ledger", foul), askWorldNew(t, ledgerOf(901), foul...))
	}
	if !askWorldOk(t, impl.World{}) {
		t.Error("the zero world is not right")
	}
}

// manyBlocks: n right blocks, each at the place of its Id, each behind the root; none of them is in a tree.
func manyBlocks(n int) []impl.Block {
	var l []impl.Block
	for i := range n {
		l = append(l, impl.Block{Id: i, Epoch: 5, Round: 1 + i%9, By: "b", Qc: rootQc()})
	}
	return l
}

// filledUp is w with n blocks in all; those that are more are of no tree.
func filledUp(w impl.World, n int) impl.World {
	return changedWorld(w, func(w *impl.World) { w.Blocks = append(w.Blocks, manyBlocks(n)[len(w.Blocks):]...) })
}

// crowded is w with n words on their way, those ahead being votes for nothing, each of another round.
func crowded(w impl.World, n int) impl.World {
	return changedWorld(w, func(w *impl.World) {
		var l []impl.Msg
		for i := range n - len(w.Net) {
			l = append(l, toPlace(*w, i%len(w.Nodes), voteWord(101+i, 7, "d")))
		}
		w.Net = append(l, w.Net...)
	})
}

func rightWorlds() map[string]impl.World {
	twelve := worldNewWanted(ledgerOf(0, letteredAccts(12, 3)...), nil)
	out := map[string]impl.World{
		"zero": {}, "new": crewWorld("d"), "none foul": crewWorld(), "all foul": crewWorld("a", "b", "c", "d"), "12 nodes": twelve, "voted": votedWorld(), "next": nextWorld(), "busy": busyWorld(), "1000 blocks": filledUp(busyWorld(), 1000), "999 blocks": filledUp(busyWorld(), 999), "400 words": crowded(busyWorld(), 400), "399 words": crowded(busyWorld(), 399),
	}
	for what, change := range map[string]func(w *impl.World){
		"another Base": func(w *impl.World) { w.Base = ledgerOf(900, impl.Acct{Name: "q", Free: 3}) }, "an empty Base": func(w *impl.World) { w.Base = impl.Ledger{} }, "20 foul": func(w *impl.World) { w.Foul = strings.Fields("d e f g h i j k l m n o p q r s t u v w") }, "nobody foul": func(w *impl.World) { w.Foul = nil },
		"no nodes": func(w *impl.World) { w.Nodes, w.Net = nil, nil }, "nodes of no accounts": func(w *impl.World) {
			for _, name := range strings.Fields("e f g h i j k l m") {
				w.Nodes = append(w.Nodes, newWanted(name, ledgerOf(7)))
			}
		},
		"nodes far apart": func(w *impl.World) { w.Nodes[2] = newWanted("c", ledgerOf(900, crewLedger().Accts...)) }, "a full node": func(w *impl.World) {
			w.Nodes[0] = changed(fullOf(w.Nodes[0]), func(n *impl.Node) { n.Votes, n.Gones = n.Votes[:1000], n.Gones[:1000] })
		},
		"a past of nothing that was made": func(w *impl.World) {
			w.Nodes[1].Past = []impl.Proof{{Epoch: 0, Bs: manyBlocks(3), Q: qcOf(9, 9, "q")}, {Epoch: -7, Bs: []impl.Block{{}}}}
		},
		"nothing signed": func(w *impl.World) { w.Signed = nil }, "anything signed, twice": func(w *impl.World) {
			w.Signed = append(w.Signed, impl.Sig{}, impl.Sig{}, impl.Sig{Kind: 9, Epoch: -1, Round: math.MaxInt, What: math.MinInt, Who: "A"})
			w.Signed = append(w.Signed, w.Signed...)
		},
		"nothing on its way": func(w *impl.World) { w.Net = nil }, "words twice": func(w *impl.World) { w.Net = append(w.Net, w.Net...) }, "words of later epochs": func(w *impl.World) { w.Net[0] = toNode(newWanted("b", ledgerOf(900)), voteWord(9, 99, "z")) },
		"words that nobody signed": func(w *impl.World) {
			w.Net[0] = toPlace(*w, 0, shareWord(qcOf(9, 9, "a b c d e"), tcOf(10, "a b c", 1, 2, 3)))
		},
		"blocks that nobody could make": func(w *impl.World) {
			w.Blocks = append(w.Blocks, impl.Block{Id: 4, Epoch: 900, Round: 10000, By: "nobody", Qc: qcOf(9, 3, "q"), Tc: tcOf(7, "r", 3)})
		},
	} {
		out[what] = changedWorld(busyWorld(), change)
	}
	return out
}

// placeOfKind: where a word of this kind is on its way.
func placeOfKind(w impl.World, kind int) int {
	return slices.IndexFunc(w.Net, func(m impl.Msg) bool { return m.Kind == kind })
}

// blockChanges: each changes one field of the busy world's block 3, which stays a right block of a tree.
func blockChanges() map[string]func(b *impl.Block) {
	return map[string]func(b *impl.Block){
		"Round": func(b *impl.Block) { b.Round++ }, "By": func(b *impl.Block) { b.By = "d" }, "By a node": func(b *impl.Block) { b.By = "a" }, "Tc": func(b *impl.Block) { b.Round, b.Tc = 2, tcOf(1, "a b c", 0, 0, 0) }, "no Txs": func(b *impl.Block) { b.Txs = nil }, "another Tx": func(b *impl.Block) { b.Txs[0].Amount++ }, "a Tx more": func(b *impl.Block) { b.Txs = append(b.Txs, pay("a", "b", 1, 1)) },
		"End": func(b *impl.Block) { b.End, b.Next, b.Root = true, valsTold("a:1"), root32 },
	}
}

// wrongWorlds: the busy world with one part that is not right, each with what it is.
func wrongWorlds() map[string]impl.World {
	out := map[string]impl.World{"1001 blocks": filledUp(busyWorld(), 1001), "401 words": crowded(busyWorld(), 401)}
	put := func(what string, change func(w *impl.World)) { out[what] = changedWorld(busyWorld(), change) }
	for what, change := range map[string]func(w *impl.World){
		"Base of no epoch": func(w *impl.World) { w.Base.Epoch = 901 }, "Base below 0": func(w *impl.World) { w.Base.Epoch = -1 }, "Base not in order": func(w *impl.World) { slices.Reverse(w.Base.Accts) }, "Base of too much": func(w *impl.World) { w.Base.Accts[1].Free = 1000001 },
		"a node is foul": func(w *impl.World) { w.Foul = []string{"b"} }, "all are foul": func(w *impl.World) { w.Foul = []string{"a", "b", "c", "d"} }, "the last node is foul": func(w *impl.World) { w.Foul = []string{"c", "d"} },
		"nodes not in order": func(w *impl.World) { slices.Reverse(w.Nodes) }, "two nodes the other way round": func(w *impl.World) { w.Nodes[1], w.Nodes[2] = w.Nodes[2], w.Nodes[1] }, "a node twice": func(w *impl.World) { w.Nodes = append(w.Nodes, w.Nodes[2]) }, "two nodes of one name": func(w *impl.World) { w.Nodes = append(w.Nodes, newWanted("c", ledgerOf(0))) },
		"13 nodes": func(w *impl.World) {
			for _, name := range strings.Fields("e f g h i j k l m n") {
				w.Nodes = append(w.Nodes, newWanted(name, ledgerOf(7)))
			}
		},
		"a node of the round 0": func(w *impl.World) { w.Nodes[0].Round = 0 }, "a node of the round 10001": func(w *impl.World) { w.Nodes[2].Round = 10001 }, "a node of 201 done": func(w *impl.World) { w.Nodes[2].Done = make([]int, 201) }, "a node of another epoch than its Base": func(w *impl.World) { w.Nodes[1].Epoch = 2 }, "a zero node": func(w *impl.World) { w.Nodes[1] = impl.Node{} }, "a zero node ahead": func(w *impl.World) { w.Nodes = append([]impl.Node{{}}, w.Nodes...) },
		"no blocks": func(w *impl.World) { w.Blocks = nil }, "a block too few": func(w *impl.World) { w.Blocks = w.Blocks[:3] }, "without the first block": func(w *impl.World) { w.Blocks = w.Blocks[1:] }, "blocks the other way round": func(w *impl.World) { w.Blocks[0], w.Blocks[2] = w.Blocks[2], w.Blocks[0] }, "an Id too great": func(w *impl.World) { w.Blocks = append(w.Blocks, with(w.Blocks[0], func(b *impl.Block) { b.Id = 5 })) }, "an Id twice": func(w *impl.World) { w.Blocks = append(w.Blocks, w.Blocks[3]) },
		"a zero block": func(w *impl.World) { w.Blocks = append(w.Blocks, impl.Block{}) }, "a block of no Round": func(w *impl.World) {
			w.Blocks = append(w.Blocks, with(w.Blocks[0], func(b *impl.Block) { b.Id, b.Round = 4, 0 }))
		},
		"the first block of no epoch": func(w *impl.World) { w.Blocks[0].Epoch = 901 }, "a block by nobody": func(w *impl.World) { w.Blocks[1].By = "" },
		"a word of no kind": func(w *impl.World) { w.Net[0].Kind = 0 }, "the last word of no kind": func(w *impl.World) { w.Net[len(w.Net)-1].Kind = 5 }, "a zero word": func(w *impl.World) { w.Net = append(w.Net, impl.Msg{}) }, "a word to a foul one": func(w *impl.World) { w.Net[1].To = "d" }, "a word to a stranger": func(w *impl.World) { w.Net[1].To = "z" }, "a word to nobody": func(w *impl.World) { w.Net[1].To = "" }, "the last word to a foul one": func(w *impl.World) { w.Net[len(w.Net)-1].To = "d" },
		"a word of no epoch": func(w *impl.World) { w.Net[placeOfKind(*w, 2)].Epoch = 901 }, "a vote of the round 0": func(w *impl.World) { w.Net[placeOfKind(*w, 2)].V.Round = 0 }, "a share of a block of no Id": func(w *impl.World) {
			m := &w.Net[placeOfKind(*w, 4)]
			m.Bs = append(m.Bs, with(m.Bs[0], func(b *impl.Block) { b.Id = 4 }))
		},
		"a share of a block of a great Id": func(w *impl.World) {
			m := &w.Net[placeOfKind(*w, 4)]
			m.Bs = append(m.Bs, with(m.Bs[0], func(b *impl.Block) { b.Id = 100000 }))
		},
		"a proposal of a block that is not there": func(w *impl.World) { w.Net[placeOfKind(*w, 1)].Bs[0].Id = 4 }, "a proposal of another one": func(w *impl.World) { w.Net[placeOfKind(*w, 1)].Bs[0].Id = 2 },
	} {
		put(what, change)
	}
	for _, foul := range wrongNames() {
		put(fmt.Sprintf("%.40q foul", foul), func(w *impl.World) { w.Foul = foul })
	}
	for what, change := range blockChanges() {
		put("a tree's block: "+what, func(w *impl.World) { change(&w.Nodes[1].Tree[0]); w.Net = nil })
		put("a proposal's block: "+what, func(w *impl.World) { change(&w.Net[placeOfKind(*w, 1)].Bs[0]) })
		put("a share's block: "+what, func(w *impl.World) { change(&w.Net[placeOfKind(*w, 4)].Bs[0]) })
		put("the block of the world: "+what, func(w *impl.World) { change(&w.Blocks[3]) })
	}
	for _, number := range greatNumbers() {
		put(fmt.Sprintf("Base of the epoch %d", number), func(w *impl.World) { w.Base.Epoch = number })
		put(fmt.Sprintf("a node in the round %d", number), func(w *impl.World) { w.Nodes[1].Round = outsideOf(number, 1, 10000) })
		put(fmt.Sprintf("a block of the Id %d", number), func(w *impl.World) { w.Blocks[2].Id = number })
		put(fmt.Sprintf("a shared block of the Id %d", number), func(w *impl.World) { w.Net[placeOfKind(*w, 4)].Bs[0].Id = outsideOf(number, 0, 100000) })
		put(fmt.Sprintf("a word of the kind %d", number), func(w *impl.World) { w.Net[2].Kind = number })
	}
	return out
}

func TestWorldOkEdges(t *testing.T) {
	for what, w := range rightWorlds() {
		if !askWorldOk(t, w) {
			t.Errorf("%s: not right: %s", what, worldTold(w))
		}
	}
	for what, w := range wrongWorlds() {
		if askWorldOk(t, w) {
			t.Errorf("%s: right: %s", what, worldTold(w))
		}
	}
	// That the blocks differ is what makes them wrong: each is a right one by itself.
	for what, change := range blockChanges() {
		w := busyWorld()
		if changed := with(w.Blocks[3], change); !impl.BlockOk(changed) || !impl.TreeOk([]impl.Block{changed}) || impl.SameBlock(changed, w.Blocks[3]) {
			t.Errorf("%s: %+v", what, changed)
		}
	}
}

// someEvents: of each kind one or more that the busy world does, or does not.
func someEvents() []impl.Event {
	w := busyWorld()
	l := []impl.Event{{}, {Kind: 10}, {Kind: -1}, shareEv(0, 1), shareEv(1, 1), submitEv(0, pay("c", "a", 1, 1)), submitEv(0, impl.Tx{})}
	for at := range 3 {
		l = append(l, leadEv(at), leaveEv(at), rebootEv(at), deliverEv(at), dropEv(at), doubleEv(at))
	}
	foul := impl.Block{Id: 4, Epoch: 1, Round: 3, By: "d", Qc: rootQc()}
	return append(l, forgeEv(toPlace(w, 1, voteWord(1, 3, "d"))), forgeEv(toPlace(w, 1, voteWord(1, 3, "a"))), forgeEv(toPlace(w, 0, propWord(foul))), forgeEv(impl.Msg{}))
}

// A world that is not right is answered as it is, and nothing is done in it.
func TestWorldsNotRightDoNothing(t *testing.T) {
	events := someEvents()
	for what, w := range wrongWorlds() {
		for _, e := range events {
			if after, ok := impl.Do(w, e); ok || !sameValue(after, w) {
				t.Errorf("%s: done: %s", what, eventTold(e))
			}
		}
		refusesEvent(t, what, w, events[len(what)%len(events)])
		if after := askPlay(t, w, events...); !sameValue(after, w) {
			t.Errorf("%s: played", what)
		}
	}
}

func TestWorldsRightDo(t *testing.T) {
	did, not := map[int]int{}, map[int]int{}
	for _, w := range rightWorlds() {
		for _, e := range someEvents() {
			if _, ok := askDo(t, w, e); ok {
				did[e.Kind]++
			} else {
				not[e.Kind]++
			}
		}
		askPlay(t, w, someEvents()...)
	}
	for kind := 1; kind <= 9; kind++ {
		if did[kind] < 4 || not[kind] < 3 {
			t.Errorf("the kind %d: %d done, %d refused", kind, did[kind], not[kind])
		}
	}
	if did[0]+did[10]+did[-1] > 0 {
		t.Error("events of no kind are done:", did)
	}
}

func TestWorldLeads(t *testing.T) {
	w := crewWorld("d")
	b := impl.Block{Id: 0, Round: 1, By: "b", Qc: rootQc()}
	vote := impl.Vote{Round: 1, Block: 0, Who: "b"}
	// d is no node: what goes to it is on no way.
	after := happens(t, "b leads", w, leadEv(1), func(w *impl.World) {
		n := &w.Nodes[1]
		n.Led, n.Voted, n.Tree, n.Votes = 1, 1, []impl.Block{b}, []impl.Vote{vote}
		w.Blocks, w.Signed = []impl.Block{b}, []impl.Sig{{Kind: 1, Round: 1, Who: "b"}}
		for _, to := range []string{"a", "c"} {
			w.Net = append(w.Net, impl.Msg{Kind: 1, To: to, Bs: []impl.Block{b}, Q: rootQc()})
		}
		for _, to := range []string{"a", "c"} {
			w.Net = append(w.Net, impl.Msg{Kind: 2, To: to, V: vote, Q: rootQc()})
		}
	})
	refusesEvent(t, "b leads once more", after, leadEv(1))
	for _, at := range []int{0, 2} {
		refusesEvent(t, "not the leader", w, leadEv(at))
	}
	// Where all are nodes, all hear of it.
	if all, _ := askDo(t, crewWorld(), leadEv(1)); len(all.Net) != 6 || all.Net[2].To != "d" {
		t.Errorf("none foul: %s", worldTold(all))
	}
	// What a foul one should lead, nobody leads.
	if foul := crewWorld("b"); len(foul.Nodes) == 3 {
		for at := range 3 {
			refusesEvent(t, "b is foul", foul, leadEv(at))
		}
	}
	// The Id is the next one of the world, whatever the node has heard of.
	w = filledUp(crewWorld("d"), 77)
	if after, ok := askDo(t, w, leadEv(1)); !ok || len(after.Blocks) != 78 || after.Blocks[77].Id != 77 || after.Net[0].Bs[0].Id != 77 || after.Signed[0].What != 77 {
		t.Errorf("the 78-th block: %s", worldTold(after))
	}
	// A block that not even its maker takes is made all the same.
	full := crewWorld("d")
	for i := range 400 {
		full.Blocks = append(full.Blocks, blockFor(full.Nodes[1], i, 1, rootQc(), impl.Tc{}))
	}
	full.Nodes[1].Tree = full.Blocks
	if after, ok := askDo(t, full, leadEv(1)); !ok || len(after.Blocks) != 401 || len(after.Net) != 2 || len(after.Signed) != 0 {
		t.Errorf("a full tree: %s", worldTold(after))
	}
}

func TestWorldLeadsAtMostSoManyBlocks(t *testing.T) {
	for n, may := range map[int]bool{998: true, 999: true, 1000: false} {
		w := filledUp(crewWorld("d"), n)
		if !may {
			refusesEvent(t, fmt.Sprintf("behind %d blocks", n), w, leadEv(1))
			continue
		}
		after, ok := askDo(t, w, leadEv(1))
		if !ok || len(after.Blocks) != n+1 || !impl.WorldOk(after) {
			t.Errorf("behind %d blocks: %s", n, worldTold(after))
		}
	}
	// All else goes on.
	w := filledUp(busyWorld(), 1000)
	for _, e := range []impl.Event{leaveEv(0), shareEv(0, 1), submitEv(0, pay("c", "a", 1, 1)), rebootEv(0), deliverEv(0), dropEv(0), doubleEv(0), forgeEv(toPlace(w, 1, voteWord(1, 3, "d"))), forgeEv(toPlace(w, 1, propWord(w.Blocks[3])))} {
		if _, ok := askDo(t, w, e); !ok {
			t.Errorf("behind 1000 blocks: not done: %s", eventTold(e))
		}
	}
}

func TestWorldLeaves(t *testing.T) {
	w := crewWorld("d")
	gone := impl.Gone{Round: 1, Who: "c"}
	after := happens(t, "c leaves", w, leaveEv(2), func(w *impl.World) {
		w.Nodes[2].Voted, w.Nodes[2].Gones = 1, []impl.Gone{gone}
		w.Signed = []impl.Sig{{Kind: 2, Round: 1, Who: "c"}}
		w.Net = []impl.Msg{{Kind: 3, To: "a", G: gone, Q: rootQc()}, {Kind: 3, To: "b", G: gone, Q: rootQc()}}
	})
	// It may leave again, with the same words; what it signed stands there once.
	again := happens(t, "c leaves again", after, leaveEv(2), func(w *impl.World) { w.Net = append(w.Net, w.Net...) })
	happens(t, "b leaves as well", again, leaveEv(1), func(w *impl.World) {
		*w = cameOut(*w, 1, changed(w.Nodes[1], func(n *impl.Node) { n.Voted, n.Gones = 1, gonesTold("1/0/b") }), []impl.Msg{toPlace(*w, 0, inEpoch(goneWord(1, "b", rootQc()), 0)), toPlace(*w, 2, inEpoch(goneWord(1, "b", rootQc()), 0))}, []impl.Sig{{Kind: 2, Round: 1, Who: "b"}})
	})
	// Nothing is signed by one that is not in Set, or that voted in a later round.
	refusesEvent(t, "nobody votes", worldNewWanted(ledgerOf(0, letteredAccts(3, 9)...), nil), leaveEv(0))
	refusesEvent(t, "too little at stake", worldNewWanted(aloneLedger(), nil), leaveEv(1))
	refusesEvent(t, "voted later", changedWorld(w, func(w *impl.World) { w.Nodes[0].Voted = 2 }), leaveEv(0))
	// One alone says nothing to anybody, but signs.
	alone := worldNewWanted(aloneLedger(), nil)
	if after, ok := askDo(t, alone, leaveEv(0)); !ok || len(after.Net) != 0 || len(after.Signed) != 1 || after.Nodes[0].Round != 2 {
		t.Errorf("alone: %s", worldTold(after))
	}
}

func TestWorldShares(t *testing.T) {
	w := nextWorld()
	fresh := changedWorld(w, func(w *impl.World) { w.Nodes[0] = newWanted("a", w.Base) })
	proof := fresh.Nodes[1].Past[0]
	// Of an epoch that is over, to one that is still in it.
	after := happens(t, "b to a", fresh, shareEv(1, 0), func(w *impl.World) {
		w.Net = []impl.Msg{{Kind: 4, To: "a", Epoch: 0, Bs: proof.Bs, Q: proof.Q}}
	})
	if heard, ok := askDo(t, after, deliverEv(0)); !ok || heard.Nodes[0].Epoch != 1 || !slices.Equal(heard.Nodes[0].Done, []int{0, 1}) {
		t.Errorf("a came after: %s", worldTold(heard))
	}
	refusesEvent(t, "a to b, of an epoch to come", fresh, shareEv(0, 1))
	happens(t, "b to c", fresh, shareEv(1, 2), func(w *impl.World) { w.Net = []impl.Msg{{Kind: 4, To: "c", Epoch: 1, Q: rootQc()}} })
	happens(t, "a to itself", fresh, shareEv(0, 0), func(w *impl.World) { w.Net = []impl.Msg{{Kind: 4, To: "a", Q: rootQc()}} })
	forgot := changedWorld(fresh, func(w *impl.World) { w.Nodes[1].Past = nil })
	refusesEvent(t, "b has no proof", forgot, shareEv(1, 0))
	if _, ok := askDo(t, forgot, shareEv(2, 0)); !ok {
		t.Error("c has a proof")
	}
	voted := votedWorld()
	happens(t, "a tree", voted, shareEv(2, 1), func(w *impl.World) {
		w.Net = []impl.Msg{{Kind: 4, To: "b", Bs: w.Nodes[2].Tree, Q: w.Nodes[2].High}}
	})
	// It is told of the epoch of whom it goes to; what it is handed besides does not count.
	odd := shareEv(2, 1)
	odd.M, odd.T = propWord(firstBlock()), pay("a", "b", 1, 1)
	if a, ok := askDo(t, voted, odd); !ok || !sameValue(a, behind(voted, shareEv(2, 1))) {
		t.Errorf("with more: %s", worldTold(a))
	}
}

func TestWorldSubmitsAndReboots(t *testing.T) {
	w := busyWorld()
	order := pay("c", "a", 1, 1)
	after := happens(t, "an order", w, submitEv(2, order), func(w *impl.World) { w.Nodes[2].Pool = poolOf(append(w.Nodes[2].Pool, order)...) })
	refusesEvent(t, "there already", after, submitEv(2, order))
	if _, ok := askDo(t, after, submitEv(1, order)); !ok {
		t.Error("not at another node")
	}
	for i, x := range wrongTxs() {
		if i%9 == 0 {
			refusesEvent(t, "no order", w, submitEv(0, x))
		}
	}
	full := changedWorld(w, func(w *impl.World) { w.Nodes[0].Pool = poolOf(manyOrders(20)...) })
	refusesEvent(t, "no room", full, submitEv(0, pay("zz", "a", 1, 1)))
	for at := range 3 {
		happens(t, "a reboot", full, rebootEv(at), func(w *impl.World) {
			w.Nodes[at].Votes, w.Nodes[at].Gones, w.Nodes[at].Pool = nil, nil, nil
		})
	}
	happens(t, "a new one reboots", crewWorld(), rebootEv(3), func(w *impl.World) {})
}

func TestWorldDelivers(t *testing.T) {
	w := behind(crewWorld("d"), leadEv(1))
	vote := impl.Vote{Round: 1, Block: 0, Who: "c"}
	// The second word is the proposal to c, who votes for it.
	after := happens(t, "c hears", w, deliverEv(1), func(w *impl.World) {
		n := &w.Nodes[2]
		n.Tree, n.Voted, n.Votes = w.Blocks, 1, []impl.Vote{vote}
		w.Net = append(slices.Delete(w.Net, 1, 2), impl.Msg{Kind: 2, To: "a", V: vote, Q: rootQc()}, impl.Msg{Kind: 2, To: "b", V: vote, Q: rootQc()})
		w.Signed = append(w.Signed, impl.Sig{Kind: 1, Round: 1, Who: "c"})
	})
	// What was heard is not heard again, but the word is gone.
	twice := behind(w, doubleEv(1), deliverEv(1))
	at := slices.IndexFunc(twice.Net, func(m impl.Msg) bool { return m.Kind == 1 && m.To == "c" })
	happens(t, "c hears again", twice, deliverEv(at), func(w *impl.World) { w.Net = slices.Delete(w.Net, at, at+1) })
	for at := range after.Net {
		if got, ok := askDo(t, after, deliverEv(at)); !ok || len(got.Net) < len(after.Net)-1 || sameValue(got.Nodes, after.Nodes) {
			t.Errorf("the word %d: %s", at, worldTold(got))
		}
		happens(t, "a word is lost", after, dropEv(at), func(w *impl.World) { w.Net = slices.Delete(w.Net, at, at+1) })
		happens(t, "a word twice", after, doubleEv(at), func(w *impl.World) { w.Net = append(w.Net, w.Net[at]) })
	}
	// A word of another epoch than its node's is gone, and changes nothing else.
	busy := busyWorld()
	late := slices.IndexFunc(busy.Net, func(m impl.Msg) bool { return m.Epoch == 0 })
	happens(t, "a word of an epoch that is over", busy, deliverEv(late), func(w *impl.World) { w.Net = slices.Delete(w.Net, late, late+1) })
}

// Places of nodes and of words: -1, 0, the last one and one more.
func TestWorldPlaces(t *testing.T) {
	w := busyWorld()
	places := func(n int) []int { return append(greatNumbers(), -1, 0, 1, n-1, n, n+1) }
	for _, at := range places(3) {
		there := !outside(at, 0, 2)
		for kind, e := range map[string]impl.Event{"leave": leaveEv(at), "share": shareEv(at, 1), "share to": shareEv(1, at), "submit": submitEv(at, pay("c", "a", 1, 9)), "reboot": rebootEv(at), "share of itself": shareEv(at, at)} {
			if after, ok := askDo(t, w, e); ok != there {
				t.Errorf("%s at %d: %v, %s", kind, at, ok, worldTold(after))
			}
		}
		if _, ok := askDo(t, crewWorld("d"), leadEv(at)); ok != (at == 1) {
			t.Errorf("lead at %d", at)
		}
		if _, ok := askDo(t, crewWorld("a", "b"), leadEv(at)); ok {
			t.Errorf("lead at %d, where a and b are foul", at)
		}
	}
	for _, at := range places(len(w.Net)) {
		there := !outside(at, 0, len(w.Net)-1)
		for _, e := range []impl.Event{deliverEv(at), dropEv(at), doubleEv(at)} {
			if _, ok := askDo(t, w, e); ok != there {
				t.Errorf("%s: %v", eventTold(e), ok)
			}
		}
		// A place that a kind does not name is not asked for.
		for _, e := range []impl.Event{{Kind: 1, At: 1, To: at}, {Kind: 2, At: 1, To: at}, {Kind: 5, At: 1, To: at}, {Kind: 6, At: 1, To: at}, {Kind: 7, At: 1, To: at}, {Kind: 8, At: 1, To: at}, {Kind: 9, At: at, To: at, M: toPlace(w, 0, voteWord(1, 1, "d"))}} {
			if _, ok := askDo(t, w, e); ok != (e.Kind != 1) {
				t.Errorf("%s: %v", eventTold(e), ok)
			}
		}
	}
	for what, empty := range map[string]impl.World{"zero": {}, "all foul": crewWorld("a", "b", "c", "d"), "no words": crewWorld("d")} {
		for _, at := range []int{-1, 0, 1} {
			for kind := 1; kind <= 8; kind++ {
				if e := (impl.Event{Kind: kind, At: at, To: at, T: pay("a", "b", 1, 0)}); what != "no words" || kind >= 6 {
					refusesEvent(t, what, empty, e)
				}
			}
		}
	}
}

func TestWorldKinds(t *testing.T) {
	w := busyWorld()
	e := impl.Event{At: 1, To: 1, T: pay("c", "a", 1, 9), M: toPlace(w, 1, voteWord(1, 3, "d"))}
	for _, kind := range append(greatNumbers(), -9, -1, 0, 10, 11, 257, 265) {
		e.Kind = kind
		refusesEvent(t, fmt.Sprint("the kind ", kind), w, e)
	}
	for kind := 2; kind <= 9; kind++ {
		e.Kind = kind
		if _, ok := askDo(t, w, e); !ok {
			t.Errorf("the kind %d is refused", kind)
		}
	}
}

// What is said goes behind Net as far as there is room; the rest of it is lost, and all else is done.
func TestWorldRoomInNet(t *testing.T) {
	for n := 393; n <= 400; n++ {
		w := crowded(crewWorld(), n)
		whole := behind(crewWorld(), leadEv(1)).Net
		after, ok := askDo(t, w, leadEv(1))
		if !ok || !sameValue(after.Net, append(slices.Clone(w.Net), whole[:min(6, 400-n)]...)) || len(after.Blocks) != 1 || len(after.Signed) != 1 || after.Nodes[1].Led != 1 {
			t.Errorf("led behind %d words: %s", n, worldTold(after))
		}
		after, ok = askDo(t, w, leaveEv(0))
		if !ok || len(after.Net) != min(n+3, 400) || len(after.Signed) != 1 || after.Nodes[0].Voted != 1 {
			t.Errorf("left behind %d words: %s", n, worldTold(after))
		}
		if after, ok = askDo(t, w, shareEv(0, 1)); !ok || len(after.Net) != min(n+1, 400) {
			t.Errorf("shared behind %d words: %v, %s", n, ok, worldTold(after))
		}
		if after, ok = askDo(t, w, doubleEv(3)); !ok || len(after.Net) != min(n+1, 400) || !sameValue(after.Net[:n], w.Net) {
			t.Errorf("doubled behind %d words: %v, %s", n, ok, worldTold(after))
		}
		if after, ok = askDo(t, w, dropEv(n-1)); !ok || !sameValue(after.Net, w.Net[:n-1]) {
			t.Errorf("dropped behind %d words: %v, %s", n, ok, worldTold(after))
		}
		for _, e := range []impl.Event{submitEv(0, pay("a", "b", 1, 0)), rebootEv(0)} {
			if after, ok = askDo(t, w, e); !ok || !sameValue(after.Net, w.Net) {
				t.Errorf("behind %d words: %s: %v", n, eventTold(e), ok)
			}
		}
	}
}

// The word that is heard is gone first, and leaves its room to what is said of it.
func TestWorldRoomOfTheWordHeard(t *testing.T) {
	for n := 396; n <= 400; n++ {
		w := crowded(behind(crewWorld("d"), leadEv(1)), n)
		at := placeOfKind(w, 1)
		after, ok := askDo(t, w, deliverEv(at))
		said := []impl.Msg{toPlace(w, 1, inEpoch(voteWord(1, 0, "a"), 0)), toPlace(w, 2, inEpoch(voteWord(1, 0, "a"), 0))}
		want := append(slices.Delete(slices.Clone(w.Net), at, at+1), said[:min(2, 401-n)]...)
		if !ok || !sameValue(after.Net, want) || len(after.Signed) != 2 || after.Nodes[0].Voted != 1 {
			t.Errorf("heard behind %d words: %s", n, worldTold(after))
		}
	}
}

func TestWorldRoomForWhatIsForged(t *testing.T) {
	foul := impl.Block{Id: 0, Round: 3, By: "d", Qc: rootQc()}
	for n := 398; n <= 400; n++ {
		w := crowded(crewWorld("d"), n)
		vote := toPlace(w, 0, voteWord(9, 9, "d"))
		after, ok := askDo(t, w, forgeEv(vote))
		if !ok || len(after.Net) != min(n+1, 400) || n < 400 && !sameValue(after.Net[n], vote) {
			t.Errorf("a vote behind %d words: %v, %s", n, ok, worldTold(after))
		}
		// The block is made, whether or not there is room for the word.
		after, ok = askDo(t, w, forgeEv(toPlace(w, 0, propWord(foul))))
		if !ok || len(after.Net) != min(n+1, 400) || !sameValue(after.Blocks, []impl.Block{foul}) {
			t.Errorf("a block behind %d words: %v, %s", n, ok, worldTold(after))
		}
		refusesEvent(t, "a vote of an honest one", w, forgeEv(toPlace(w, 0, voteWord(9, 9, "a"))))
	}
}

// What is signed is in the table once, also where it was there already.
func TestWorldSignsOnce(t *testing.T) {
	voted := impl.Sig{Kind: 1, Round: 1, Who: "b"}
	for what, table := range map[string][]impl.Sig{"nothing": nil, "that": {voted}, "others": {{Kind: 2, Round: 1, Who: "b"}, {Kind: 1, Round: 2, Who: "b"}, {Kind: 1, Round: 1, What: 1, Who: "b"}, {Kind: 1, Round: 1, Who: "c"}, {Kind: 1, Epoch: 1, Round: 1, Who: "b"}}, "that, twice": {voted, {}, voted}} {
		w := changedWorld(crewWorld("d"), func(w *impl.World) { w.Signed = table })
		after, ok := askDo(t, w, leadEv(1))
		want := slices.Clone(table)
		if !slices.Contains(table, voted) {
			want = append(want, voted)
		}
		if !ok || !slices.Equal(after.Signed, want) {
			t.Errorf("behind %s: %v", what, after.Signed)
		}
	}
}

// A foul one votes, leaves and leads as it likes; in the name of another it says what that one signed, and nothing else.
func TestForgedVotesAndLeavings(t *testing.T) {
	w := votedWorld()
	for _, at := range []int{0, 1, 2} {
		for who, may := range map[string]bool{"d": true, "a": false, "b": false, "c": false, "z": false, "dd": false} {
			for _, m := range []impl.Msg{voteWord(2, 0, who), voteWord(1, 1, who), voteWord(9, 100000, who), goneWord(2, who, rootQc()), goneWord(10000, who, rootQc()), goneWord(2, who, w.Nodes[0].High)} {
				m = toPlace(w, at, m)
				if !may {
					refusesEvent(t, "in the name of "+who, w, forgeEv(m))
					continue
				}
				happens(t, "by "+who, w, forgeEv(m), func(w *impl.World) { w.Net = append(w.Net, m) })
			}
			// Each of them voted for the block 0 in the round 1, and signed that.
			m := toPlace(w, at, voteWord(1, 0, who))
			if _, ok := askDo(t, w, forgeEv(m)); ok != slices.Contains([]string{"a", "b", "c", "d"}, who) {
				t.Errorf("the vote of %s: %v", who, ok)
			}
			// Not in another epoch.
			m.Epoch = 1
			if _, ok := askDo(t, w, forgeEv(m)); ok != may {
				t.Errorf("the vote of %s in the epoch 1: %v", who, ok)
			}
		}
	}
	left := behind(w, leaveEv(0))
	if _, ok := askDo(t, left, forgeEv(toPlace(left, 1, goneWord(2, "a", left.Nodes[0].High)))); !ok {
		t.Error("what a left is not told on")
	}
	refusesEvent(t, "a left with another High", left, forgeEv(toPlace(left, 1, goneWord(2, "a", rootQc()))))
	refusesEvent(t, "a left another round", left, forgeEv(toPlace(left, 1, goneWord(3, "a", left.Nodes[0].High))))
	// What is forged is not signed: it is said alone.
	if after, _ := askDo(t, w, forgeEv(toPlace(w, 1, voteWord(9, 9, "d")))); !slices.Equal(after.Signed, w.Signed) {
		t.Errorf("signed: %v", after.Signed)
	}
}

// signedWords: words of each kind to the nodes of votedWorld, of which each signature is in its table or of d, with as many places for names as there are; none of them has a new block.
func signedWords() (impl.World, map[string]impl.Msg) {
	w := behind(votedWorld(), leaveEv(0), leaveEv(1), leaveEv(2))
	cert, left := qcOf(1, 0, "a b c d"), tcOf(2, "a b c d", 1, 1, 1, 0)
	b := blockFor(w.Nodes[0], 1, 3, cert, left)
	b.By = "d"
	w = behind(w, forgeEv(toPlace(w, 0, propWord(b))))
	out := map[string]impl.Msg{
		"a vote": voteWord(1, 0, "b"), "a vote of d": voteWord(7, 3, "d"), "a leaving": goneWord(2, "c", w.Nodes[2].High), "a leaving of d": goneWord(5, "d", cert), "a certificate": shareWord(cert, impl.Tc{}), "a Tc": shareWord(rootQc(), left), "both": shareWord(cert, left), "a proposal": propWord(b), "shared blocks": shareWord(rootQc(), impl.Tc{}, b, w.Blocks[0], b), "all": shareWord(cert, left, w.Blocks[0], b),
	}
	for what, m := range out {
		out[what] = toPlace(w, 1, m)
	}
	return w, out
}

// Of each name in a word it is asked whether it signed just that, or is foul.
func TestForgedOfOneNameAlone(t *testing.T) {
	w, words := signedWords()
	asked := 0
	for what, m := range words {
		happens(t, what, w, forgeEv(m), func(w *impl.World) { w.Net = append(w.Net, m) })
		for i, s := range sigsWanted(m) {
			less := changedWorld(w, func(w *impl.World) {
				w.Signed = slices.DeleteFunc(w.Signed, func(x impl.Sig) bool { return x == s })
			})
			odd := changedWorld(less, func(w *impl.World) { w.Signed = append(w.Signed, apartSigs(s)...) })
			if s.Who == "d" {
				// It is foul, and needs no table. Were it not, it would need one.
				if _, ok := askDo(t, less, forgeEv(m)); !ok {
					t.Errorf("%s: refused for %v", what, s)
				}
				refusesEvent(t, fmt.Sprintf("%s: d is not foul", what), changedWorld(w, func(w *impl.World) { w.Foul = nil }), forgeEv(m))
				continue
			}
			asked++
			refusesEvent(t, fmt.Sprintf("%s without %v", what, s), less, forgeEv(m))
			if i%3 == 0 {
				refusesEvent(t, fmt.Sprintf("%s with what is nearly %v", what, s), odd, forgeEv(m))
			}
			if _, ok := askDo(t, changedWorld(less, func(w *impl.World) { w.Signed = append(w.Signed, impl.Sig{}, s) }), forgeEv(m)); !ok {
				t.Errorf("%s: refused, with %v behind the others", what, s)
			}
		}
	}
	if asked < 30 {
		t.Error("too few names:", asked)
	}
	// A name that nobody has, beside those who signed.
	strange := map[string]impl.Msg{"a certificate": shareWord(qcOf(1, 0, "a b c z"), impl.Tc{}), "a Tc": shareWord(rootQc(), tcOf(2, "a b c z", 1, 1, 1, 1)), "a Tc with another High": shareWord(rootQc(), tcOf(2, "a b c", 1, 0, 1)), "a certificate of another block": shareWord(qcOf(1, 1, "a b c"), impl.Tc{}), "a leaving by d, with a certificate of nobody's": goneWord(9, "d", qcOf(3, 0, "a")), "a leaving by d, with a stranger's": goneWord(9, "d", qcOf(1, 0, "a z"))}
	for what, m := range strange {
		refusesEvent(t, what, w, forgeEv(toPlace(w, 1, m)))
	}
	// Certificates of d alone, or of nobody, may be said; no node learns of them.
	for _, m := range []impl.Msg{shareWord(qcOf(7, 1, "d"), tcOf(8, "d", 7)), shareWord(qcOf(7, 1, ""), tcOf(8, ""))} {
		m = toPlace(w, 1, m)
		after := happens(t, "of d alone", w, forgeEv(m), func(w *impl.World) { w.Net = append(w.Net, m) })
		last := len(after.Net) - 1
		happens(t, "heard of d alone", after, deliverEv(last), func(w *impl.World) { w.Net = w.Net[:last] })
	}
}

func TestForgedBlocks(t *testing.T) {
	w := busyWorld()
	made := w.Blocks[3]
	for _, m := range []impl.Msg{propWord(made), shareWord(rootQc(), impl.Tc{}, made), shareWord(rootQc(), impl.Tc{}, made, made)} {
		m = toPlace(w, 2, m)
		happens(t, "a block that was made", w, forgeEv(m), func(w *impl.World) { w.Net = append(w.Net, m) })
	}
	// Another one of an Id that is there, in one field, whoever made it.
	for what, change := range blockChanges() {
		refusesEvent(t, "another "+what, w, forgeEv(toPlace(w, 2, propWord(with(made, change)))))
		refusesEvent(t, "another "+what+", shared", w, forgeEv(toPlace(w, 2, shareWord(rootQc(), impl.Tc{}, made, with(made, change)))))
	}
	foul := w.Blocks[2]
	for what, change := range fieldChanges() {
		if b := with(foul, change); b.Id == 2 {
			m := propWord(b)
			m.To = "a"
			refusesEvent(t, "d's own with another "+what, w, forgeEv(m))
		}
	}
	refusesEvent(t, "d's own in another epoch", w, forgeEv(toPlace(w, 0, propWord(foul))))
	next := impl.Block{Id: 4, Epoch: 1, Round: 3, By: "d", Qc: rootQc(), Txs: []impl.Tx{pay("q", "r", 1, 7)}}
	m := toPlace(w, 2, propWord(next))
	after := happens(t, "a new one by d", w, forgeEv(m), func(w *impl.World) { w.Blocks, w.Net = append(w.Blocks, next), append(w.Net, m) })
	// From now on it is one that was made: once more, as it is, and as no other one.
	happens(t, "the new one again", after, forgeEv(m), func(w *impl.World) { w.Net = append(w.Net, m) })
	refusesEvent(t, "the new one changed", after, forgeEv(withWord(m, func(m *impl.Msg) { m.Bs[0].Txs[0].Nonce = 8 })))
	for _, by := range []string{"a", "b", "c", "z", "dd", "e"} {
		refusesEvent(t, "by "+by, w, forgeEv(withWord(m, func(m *impl.Msg) { m.Bs[0].By = by })))
	}
	for _, id := range []int{0, 1, 2, 3, 5, 6, 999, 1000, 100000} {
		refusesEvent(t, fmt.Sprint("the Id ", id), w, forgeEv(withWord(m, func(m *impl.Msg) { m.Bs[0].Id = id })))
	}
	// Each block of d is one, whatever its round and epoch.
	for _, b := range []impl.Block{{Id: 4, Epoch: 0, Round: 1, By: "d", Qc: rootQc()}, {Id: 4, Epoch: 900, Round: 10000, By: "d", Qc: qcOf(9999, 3, "d"), Tc: tcOf(5, "d", 4)}, {Id: 4, Epoch: 7, Round: 1, By: "d", Qc: rootQc(), End: true, Next: valsTold("d:1000000"), Root: root32}} {
		m := propWord(b)
		m.To = "a"
		happens(t, "a block of no use", w, forgeEv(m), func(w *impl.World) { w.Blocks, w.Net = append(w.Blocks, b), append(w.Net, m) })
	}
	refusesEvent(t, "its Qc is not signed", w, forgeEv(toPlace(w, 0, propWord(impl.Block{Id: 4, Epoch: 1, Round: 3, By: "d", Qc: qcOf(2, 3, "a b c")}))))
	// Where two are foul, each one makes blocks.
	two := crewWorld("b", "d")
	for by, may := range map[string]bool{"a": false, "b": true, "c": false, "d": true} {
		b := impl.Block{Id: 0, Round: 3, By: by, Qc: rootQc()}
		if _, ok := askDo(t, two, forgeEv(toPlace(two, 0, propWord(b)))); ok != may {
			t.Errorf("two foul ones: by %s: %v", by, ok)
		}
	}
}

// newBlocks: blocks by d from this Id on, each behind the root.
func newBlocks(first, n int) []impl.Block {
	var l []impl.Block
	for i := range n {
		l = append(l, impl.Block{Id: first + i, Epoch: 1, Round: 3 + i, By: "d", Qc: rootQc()})
	}
	return l
}

func TestForgedBlocksInOneWord(t *testing.T) {
	w := busyWorld()
	l := newBlocks(4, 3)
	word := func(l ...impl.Block) impl.Event { return forgeEv(toPlace(w, 0, shareWord(rootQc(), impl.Tc{}, l...))) }
	for n := range 4 {
		e := word(l[:n]...)
		happens(t, fmt.Sprintf("%d new ones", n), w, e, func(w *impl.World) { w.Blocks, w.Net = append(w.Blocks, l[:n]...), append(w.Net, e.M) })
	}
	for what, x := range map[string][]impl.Block{"beside one that was made": {w.Blocks[3], l[0], w.Blocks[3], l[1]}, "twice": {l[0], l[0], l[1], l[0], l[1]}} {
		happens(t, what, w, word(x...), func(w *impl.World) { w.Blocks, w.Net = append(w.Blocks, l[:2]...), append(w.Net, word(x...).M) })
	}
	other := with(l[0], func(b *impl.Block) { b.Round++ })
	honest := with(l[2], func(b *impl.Block) { b.By = "a" })
	for what, x := range map[string][]impl.Block{"the other way round": {l[1], l[0]}, "one left out": {l[0], l[2]}, "the first left out": {l[1]}, "the last by an honest one": {l[0], l[1], honest}, "two of one Id": {l[0], other}, "two of one Id, later": {l[0], l[1], other}, "the last is another one than that made": {l[0], l[1], with(w.Blocks[3], func(b *impl.Block) { b.Round++ })}, "the first by an honest one": {with(l[0], func(b *impl.Block) { b.By = "a" }), l[1]}} {
		refusesEvent(t, what, w, word(x...))
		// Nothing of those ahead of it is left behind: the next Id is the same, and the blocks are none.
		if after := askPlay(t, w, word(x...), word(l[0])); len(after.Blocks) != 5 || len(after.Net) != len(w.Net)+1 {
			t.Errorf("%s: left behind: %s", what, worldTold(after))
		}
	}
	// One behind the other in the tree, too, with a certificate of d.
	chain := []impl.Block{l[0], {Id: 5, Epoch: 1, Round: 4, By: "d", Qc: qcOf(3, 4, "d")}}
	happens(t, "one behind the other", w, word(chain...), func(w *impl.World) { w.Blocks, w.Net = append(w.Blocks, chain...), append(w.Net, word(chain...).M) })
	refusesEvent(t, "the last is not signed", w, word(l[0], with(chain[1], func(b *impl.Block) { b.Qc = qcOf(3, 4, "a d") })))
}

func TestForgedAtMostSoManyBlocks(t *testing.T) {
	for n := 997; n <= 1000; n++ {
		w := filledUp(busyWorld(), n)
		for many := range 4 {
			e := forgeEv(toPlace(w, 0, shareWord(rootQc(), impl.Tc{}, newBlocks(n, many)...)))
			if n+many > 1000 {
				refusesEvent(t, fmt.Sprintf("%d new ones behind %d", many, n), w, e)
			} else if after, ok := askDo(t, w, e); !ok || len(after.Blocks) != n+many || len(after.Net) != len(w.Net)+1 {
				t.Errorf("%d new ones behind %d: %s", many, n, worldTold(after))
			}
		}
	}
	w := busyWorld()
	for many, may := range map[int]bool{400: true, 401: false} {
		e := forgeEv(toPlace(w, 0, shareWord(rootQc(), impl.Tc{}, newBlocks(4, many)...)))
		if after, ok := askDo(t, w, e); ok != may || may && len(after.Blocks) != 404 {
			t.Errorf("%d new ones in a word: %v", many, ok)
		}
	}
}

// A word goes to a node; what is no word goes to nobody.
func TestForgedToWhom(t *testing.T) {
	w := busyWorld()
	foul := impl.Block{Id: 4, Epoch: 1, Round: 3, By: "d", Qc: rootQc()}
	words := []impl.Msg{voteWord(1, 3, "d"), goneWord(1, "d", rootQc()), shareWord(rootQc(), impl.Tc{}), propWord(foul), propWord(w.Blocks[3])}
	for _, m := range words {
		for _, to := range append(noNames(), "d", "z", "aa", "bob", "0") {
			refusesEvent(t, fmt.Sprintf("to %.20q", to), w, forgeEv(withWord(m, func(m *impl.Msg) { m.To = to })))
		}
		for at, to := range []string{"a", "b", "c"} {
			m.To = to
			if after, ok := askDo(t, w, forgeEv(m)); !ok || after.Net[len(after.Net)-1].To != nodeNames(w)[at] {
				t.Errorf("to %s: %v", to, ok)
			}
		}
	}
	// Of another epoch than its node's it is on its way, and nobody hears it.
	for _, epoch := range []int{0, 2, 900} {
		for _, m := range words[:4] {
			m = inEpoch(toPlace(w, 1, m), epoch)
			after, ok := askDo(t, w, forgeEv(m))
			if !ok || !sameValue(after.Net[len(w.Net)], m) {
				t.Errorf("of the epoch %d: %v", epoch, ok)
				continue
			}
			heard, _ := askDo(t, after, deliverEv(len(w.Net)))
			if !sameValue(heard.Nodes, w.Nodes) || !sameValue(heard.Net, w.Net) {
				t.Errorf("of the epoch %d: heard: %s", epoch, worldTold(heard))
			}
		}
	}
	refusesEvent(t, "of no epoch", w, forgeEv(inEpoch(toPlace(w, 1, words[0]), 901)))
	for what, change := range unnamed() {
		for _, m := range words {
			if x := withWord(toPlace(w, 1, m), change); !wordWanted(x) {
				refusesEvent(t, "no word: "+what, w, forgeEv(x))
			}
		}
	}
	for _, number := range greatNumbers() {
		for _, m := range words {
			for _, change := range []func(m *impl.Msg){func(m *impl.Msg) { m.Kind = number }, func(m *impl.Msg) { m.Epoch = number }, func(m *impl.Msg) { m.V.Round = number }, func(m *impl.Msg) { m.G.Round = number }, func(m *impl.Msg) { m.Q.Block = number }, func(m *impl.Msg) { m.T.Round = number }} {
				if x := withWord(toPlace(w, 1, m), change); !wordWanted(x) {
					refusesEvent(t, "no word", w, forgeEv(x))
				} else {
					t.Errorf("%s: a word", wordTold(x))
				}
			}
		}
	}
}

// The first 200 of a list are played, whether they are done or not.
func TestPlayAtMostSoMany(t *testing.T) {
	w := behind(votedWorld(), shareEv(0, 1))
	for many, words := range map[int]int{0: 1, 1: 2, 199: 200, 200: 201, 201: 201, 202: 201, 1000: 201} {
		if after := askPlay(t, w, slices.Repeat([]impl.Event{doubleEv(0)}, many)...); len(after.Net) != words {
			t.Errorf("%d events: %d words", many, len(after.Net))
		}
	}
	for many, words := range map[int]int{0: 1, 198: 3, 199: 2, 200: 1} {
		list := append(slices.Repeat([]impl.Event{{}}, many), doubleEv(0), doubleEv(0))
		if many == 0 {
			list = nil
		}
		if after := askPlay(t, w, list...); len(after.Net) != words {
			t.Errorf("behind %d that are refused: %d words", many, len(after.Net))
		}
	}
	if after := askPlay(t, w, append(slices.Repeat([]impl.Event{rebootEv(0)}, 200), leadEv(2))...); len(after.Blocks) != 1 {
		t.Error("the 201-st is played")
	}
	if after := askPlay(t, w, append(slices.Repeat([]impl.Event{rebootEv(0)}, 199), leadEv(2))...); len(after.Blocks) != 2 {
		t.Error("the 200-th is not played")
	}
	if after := askPlay(t, impl.World{}, someEvents()...); !sameValue(after, impl.World{}) {
		t.Error("events in no world:", worldTold(after))
	}
}

// Where a node passes its bounds, the world is right no more: Do asks for that each time, Play at the beginning alone.
func TestPlayGoesOnWhereANodePassesItsBounds(t *testing.T) {
	w := worldNewWanted(ledgerOf(0, impl.Acct{Name: "a", Free: 9, Stake: 9}, impl.Acct{Name: "b", Free: 9}), nil)
	w.Nodes[0].Round = 10000
	list := []impl.Event{leaveEv(0), submitEv(0, pay("a", "b", 1, 0)), leaveEv(0), submitEv(1, pay("a", "b", 1, 0)), shareEv(1, 0), deliverEv(0)}
	after, ok := askDo(t, w, list[0])
	if !ok || after.Nodes[0].Round != 10001 || askWorldOk(t, after) {
		t.Fatalf("the last round: %s", worldTold(after))
	}
	for _, e := range list[1:] {
		refusesEvent(t, "a world that is right no more", after, e)
	}
	// The node does nothing any more, the others do.
	played := askPlay(t, w, list...)
	if len(played.Nodes[0].Pool) != 0 || len(played.Nodes[1].Pool) != 1 || len(played.Net) != 0 || played.Nodes[0].Round != 10001 {
		t.Errorf("played: %s", worldTold(played))
	}
}

// oneByOne does these events one behind the other, and answers how many were done.
func oneByOne(t *testing.T, w impl.World, list []impl.Event) (impl.World, int) {
	t.Helper()
	many := 0
	for _, e := range list {
		after, ok := impl.Do(w, e)
		if w = after; ok {
			many++
		}
	}
	return w, many
}

// Quiet rounds: who may leads, and each word is brought; the same by Do and by Play, over epochs.
func TestPlayOfRounds(t *testing.T) {
	for _, foul := range [][]string{nil, {"d"}, {"a"}, {"c"}} {
		w := crewWorld(foul...)
		nodes := len(w.Nodes)
		for at := range nodes {
			w = behind(w, submitEv(at, pay("a", "b", 5, 0)), submitEv(at, stakes(2, w.Nodes[1].Name, 7, 0)))
		}
		by := w
		for turn := range 16 {
			var list []impl.Event
			for at := range nodes {
				list = append(list, leadEv(at))
			}
			list = append(list, slices.Repeat([]impl.Event{deliverEv(0)}, 40)...)
			for at := range nodes {
				if turn%2 == 1 {
					list = append(list, leaveEv(at))
				}
			}
			list = append(list, slices.Repeat([]impl.Event{deliverEv(0)}, 40)...)
			one, _ := oneByOne(t, by, list)
			if w = askPlay(t, w, list...); !sameValue(w, one) {
				t.Fatalf("%v foul, the turn %d: %s", foul, turn, worldDiffers(w, one))
			}
			by = one
		}
		for _, n := range w.Nodes {
			if n.Epoch < 2 || len(n.Done) < 4 || !slices.Equal(n.Done, w.Nodes[0].Done) || !impl.WorldOk(w) {
				t.Errorf("%v foul: %s", foul, nodeTold(n))
			}
		}
	}
}

// anyEvent is one that is likely to be done in w, by kinds; what is forged is out of what was said.
func anyEvent(r *rand.Rand, w impl.World) impl.Event {
	at, place := r.Intn(len(w.Nodes)), r.Intn(max(1, min(len(w.Net), 6)))
	if r.Intn(60) == 0 {
		at, place = pick(r, 2, -1, len(w.Nodes), math.MaxInt, math.MinInt), pick(r, 2, -1, len(w.Net), math.MaxInt, math.MinInt)
	}
	switch k := r.Intn(60); {
	case k < 7:
		for i, n := range w.Nodes {
			if leaderWanted(n.Set, n.Round) == n.Name && n.Led < n.Round {
				return leadEv(i)
			}
		}
		return leadEv(at)
	case k < 8:
		return leaveEv(at)
	case k < 11:
		return shareEv(at, r.Intn(len(w.Nodes)))
	case k < 13:
		return submitEv(at, anyOrder(r, w.Nodes[max(0, min(at, len(w.Nodes)-1))].Base))
	case k < 14:
		return []impl.Event{rebootEv(at), {Kind: pick(r, 2, 0, 10, -1, math.MaxInt), At: at}}[r.Intn(2)]
	case k < 17:
		return []impl.Event{dropEv(place), doubleEv(place)}[r.Intn(2)]
	case k < 22:
		return forgeEv(anyForged(r, w))
	case k < 45 && len(w.Net) == 0:
		// Nothing goes on by itself: a round is left, or somebody is behind.
		return []impl.Event{leaveEv(at), leaveEv(at), shareEv(at, r.Intn(len(w.Nodes)))}[r.Intn(3)]
	}
	return deliverEv(place)
}

// anyForged is mostly a word that the foul one may say.
func anyForged(r *rand.Rand, w impl.World) impl.Msg {
	m := (&crew{nodes: w.Nodes, made: w.Blocks}).forged(r)
	switch r.Intn(12) {
	case 0:
		m.To = []string{"foul", "zed", ""}[r.Intn(3)]
	case 1:
		m.V.Who, m.G.Who = "b", "b"
	case 2:
		m = anyWord(r)
	case 3:
		if m.Kind == 4 {
			next := len(w.Blocks)
			m.Bs = append(slices.Clone(m.Bs), impl.Block{Id: next, Epoch: m.Epoch, Round: 3, By: "foul", Qc: rootQc()}, impl.Block{Id: next + r.Intn(2), Epoch: m.Epoch, Round: 4, By: []string{"foul", "a"}[r.Intn(2)], Qc: rootQc()})
		}
	}
	return m
}

// A tally counts by kinds which events were done and refused.
type tally struct {
	did, not map[int]int
}

func (c tally) count(kind int, ok bool) {
	if ok {
		c.did[kind]++
	} else {
		c.not[kind]++
	}
}

// anyEvents does 200 events, each one asked of what the last one left; it answers the world behind them, and which they were.
func anyEvents(t *testing.T, r *rand.Rand, w impl.World, c tally) (impl.World, []impl.Event) {
	t.Helper()
	var list []impl.Event
	for i := range 200 {
		do := doWithoutMemory
		if i%8 == 0 {
			do = askDo
		}
		e := anyEvent(r, w)
		after, ok := do(t, w, e)
		c.count(e.Kind, ok)
		w, list = after, append(list, e)
	}
	return w, list
}

// Promise 15: whatever happens, events one by one come to the world of one play; all of them stay right, and agree.
func TestEventsOneByOneAreOnePlay(t *testing.T) {
	c := tally{did: map[int]int{}, not: map[int]int{}}
	epochs, most := 0, 0
	for seed := range 16 {
		r := rand.New(rand.NewSource(int64(150 + seed)))
		w := worldNewWanted(foulLedger(), []string{"foul"})
		for range 4 {
			first := w
			after, list := anyEvents(t, r, first, c)
			w = after
			if played := askPlay(t, first, list...); !sameValue(played, w) {
				t.Fatalf("one play: %s", worldDiffers(played, w))
			}
			cut := r.Intn(201)
			if parts := impl.Play(impl.Play(first, list[:cut]), list[cut:]); !sameValue(parts, w) {
				t.Fatalf("two plays, of %d and the others: %s", cut, worldDiffers(parts, w))
			}
		}
		(&crew{t: t, nodes: w.Nodes}).agrees()
		checkSignedOnce(t, w)
		for _, n := range w.Nodes {
			epochs, most = epochs+n.Epoch, max(most, len(n.Done))
		}
	}
	for kind := 1; kind <= 9; kind++ {
		if c.did[kind] < 50 {
			t.Errorf("the kind %d: %d done, %d refused", kind, c.did[kind], c.not[kind])
		}
	}
	if epochs < 40 || most < 6 || c.not[9] < 100 {
		t.Errorf("too little happened: %d epochs, %d done, %d forgeries refused", epochs, most, c.not[9])
	}
}

// checkSignedOnce: each signature is of a node, stands there once, and no two votes are of one epoch and round.
func checkSignedOnce(t *testing.T, w impl.World) {
	t.Helper()
	for i, s := range w.Signed {
		if !slices.Contains(nodeNames(w), s.Who) || slices.Contains(w.Signed[:i], s) {
			t.Errorf("signed: %v", s)
		}
		if s.Kind == 1 && slices.ContainsFunc(w.Signed[:i], func(x impl.Sig) bool {
			return x.Kind == 1 && x.Who == s.Who && x.Epoch == s.Epoch && x.Round == s.Round
		}) {
			t.Errorf("a second vote: %v", s)
		}
	}
}

// spoil changes one thing within x, wherever it stands: a number, a text, a flag, or a list as a whole.
func spoil(r *rand.Rand, x reflect.Value) {
	switch x.Kind() {
	case reflect.Struct:
		spoil(r, x.Field(r.Intn(x.NumField())))
	case reflect.Slice:
		spoilList(r, x)
	case reflect.String:
		x.SetString([]string{"", "a", "b", "c", "foul", "zed", x.String() + "x"}[r.Intn(7)])
	case reflect.Bool:
		x.SetBool(!x.Bool())
	default:
		x.SetInt([]int64{x.Int() + 1, x.Int() - 1, 0, -1, 1, math.MaxInt, math.MinInt}[r.Intn(7)])
	}
}

func spoilList(r *rand.Rand, x reflect.Value) {
	n := x.Len()
	if n == 0 || r.Intn(8) == 0 {
		x.Set(reflect.Append(x, reflect.Zero(x.Type().Elem())))
		return
	}
	at := r.Intn(n)
	switch r.Intn(12) {
	case 0:
		x.Set(x.Slice(0, at))
	case 1:
		x.Set(reflect.AppendSlice(x.Slice(0, at), x.Slice(at+1, n)))
	case 2:
		x.Set(reflect.Append(x, x.Index(at)))
	default:
		spoil(r, x.Index(at))
	}
}

// Worlds in which one thing is another one: most of them are not right, and those that are do what is wanted.
func TestWorldsSpoilt(t *testing.T) {
	r := rand.New(rand.NewSource(15))
	right, wrong := 0, 0
	begin := []impl.World{busyWorld(), nextWorld(), votedWorld(), behind(votedWorld(), leadEv(2), leaveEv(0))}
	for range 4000 {
		w := apartFrom(begin[r.Intn(len(begin))])
		spoil(r, reflect.ValueOf(&w).Elem())
		if askWorldOk(t, w) {
			right++
		} else {
			wrong++
		}
		e := deliverEv(r.Intn(4))
		if len(w.Nodes) > 0 {
			e = anyEvent(r, w)
		}
		worldAsked(t, worldCall{Deed: "do", W: w, E: e})
		if r.Intn(8) == 0 {
			askPlay(t, w, e, deliverEv(0), deliverEv(1), e)
		}
	}
	if right < 500 || wrong < 1500 {
		t.Errorf("too few: %d right, %d wrong", right, wrong)
	}
}

// Events of which one thing is another one.
func TestEventsSpoilt(t *testing.T) {
	r := rand.New(rand.NewSource(51))
	did, not := 0, 0
	for range 2500 {
		w := worldNewWanted(foulLedger(), []string{"foul"})
		for range r.Intn(12) {
			w, _ = eventWanted(w, anyEvent(r, w))
		}
		e := apartFrom(anyEvent(r, w))
		for range 1 + r.Intn(2) {
			spoil(r, reflect.ValueOf(&e).Elem())
		}
		if _, ok := askDo(t, w, e); ok {
			did++
		} else {
			not++
		}
	}
	if did < 300 || not < 300 {
		t.Errorf("too few: %d done, %d refused", did, not)
	}
}

// What is written into an answer is seen nowhere else, and no call keeps anything for another.
func TestWorldsKeepNothing(t *testing.T) {
	var calls []worldCall
	for _, w := range []impl.World{busyWorld(), crewWorld("d"), wrongWorlds()["a node of the round 0"], crowded(busyWorld(), 400)} {
		for _, e := range someEvents() {
			calls = append(calls, worldCall{Deed: "do", W: w, E: e})
		}
		calls = append(calls, worldCall{Deed: "new", W: w}, worldCall{Deed: "ok", W: w}, worldCall{Deed: "play", W: w}, worldCall{Deed: "play", W: w, L: someEvents()})
	}
	for i, c := range calls {
		args := withRoom(c)
		whole, want := memoryPrint(args), c.wanted()
		first := args.ask()
		scribbleOver(calls[(i+1)%len(calls)].ask())
		scribbleOver(args.ask())
		if !sameValue(first, want) {
			t.Errorf("%v: two answers share memory", c)
		}
		scribbleOver(first)
		if memoryPrint(args) != whole || !sameValue(args.ask(), want) {
			t.Errorf("%v: what is written into an answer is seen elsewhere", c)
		}
		second := args.ask()
		scribbleOver([]any{args.W, args.E, args.L})
		if !sameValue(second, want) {
			t.Errorf("%v: an answer shares memory with an argument", c)
		}
	}
}

// What lies behind the length of a list is none of the world, or of a play.
func TestWorldsReadNothingBehindLists(t *testing.T) {
	w := withRoom(busyWorld())
	w.Nodes = append(w.Nodes, w.Nodes[0])[:3]
	w.Net = append(w.Net, impl.Msg{})[:len(w.Net)]
	w.Blocks = append(w.Blocks, impl.Block{Id: 4})[:4]
	list := []impl.Event{leaveEv(0), leaveEv(1)}
	if !impl.WorldOk(w) || !sameValue(impl.Play(w, list[:1]), behind(busyWorld(), leaveEv(0))) {
		t.Error("what lies behind is read")
	}
}

// A world as full as one may be is told in no long time, and so is one that is far too full.
func TestWorldsOfVeryMany(t *testing.T) {
	w := crewWorld("d")
	for i := range 1000 {
		w.Blocks = append(w.Blocks, impl.Block{Id: i, Round: 1, By: "b", Qc: rootQc()})
	}
	for at := range w.Nodes {
		w.Nodes[at].Tree = w.Blocks[300*at : 300*at+400]
	}
	for i := range 400 {
		w.Net = append(w.Net, toPlace(w, i%3, shareWord(rootQc(), impl.Tc{}, w.Blocks[i:i+400]...)))
		w.Net[i].Epoch = 0
	}
	after, ok := impl.Do(w, dropEv(399))
	if !ok || len(after.Net) != 399 || !impl.WorldOk(w) {
		t.Error("a full world is not right")
	}
	if got := impl.Play(after, slices.Repeat([]impl.Event{shareEv(0, 1), dropEv(0)}, 100)); len(got.Net) != 399 {
		t.Errorf("a full world, played: %d words", len(got.Net))
	}
	many := crewWorld("d")
	many.Signed, many.Net, many.Blocks, many.Nodes = make([]impl.Sig, 1<<17), make([]impl.Msg, 1<<15), make([]impl.Block, 1<<15), slices.Repeat(many.Nodes, 1<<10)
	if got, ok := impl.Do(many, deliverEv(0)); ok || len(got.Net) != 1<<15 || len(got.Nodes) != 3<<10 {
		t.Error("very many of all")
	}
	signed := crewWorld("d")
	signed.Signed = make([]impl.Sig, 1<<17)
	if got, ok := impl.Do(signed, leaveEv(0)); !ok || len(got.Signed) != 1<<17+1 {
		t.Error("very many signatures")
	}
	if got := impl.Play(crewWorld("d"), make([]impl.Event, 1<<17)); !sameValue(got, crewWorld("d")) {
		t.Error("very many events")
	}
}
