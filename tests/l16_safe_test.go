package tests

import (
	"fmt"
	"math"
	"math/big"
	"math/rand"
	"reflect"
	"slices"
	"strings"
	"testing"

	"loop.example/g00194/impl"
)

// setsWanted: who votes, or voted, as far as the world tells it.
func setsWanted(w impl.World) [][]impl.Val {
	sets := [][]impl.Val{setOfWanted(w.Base)}
	for _, n := range w.Nodes {
		sets = append(sets, n.Set)
		for _, p := range n.Past {
			for _, b := range p.Bs {
				if b.End {
					sets = append(sets, b.Next)
				}
			}
		}
	}
	return sets
}

// premiseWanted sums without a limit, set by set.
func premiseWanted(w impl.World) bool {
	for _, set := range setsWanted(w) {
		foul, all := new(big.Int), new(big.Int)
		for _, v := range set {
			all.Add(all, big.NewInt(int64(v.Weight)))
			if slices.Contains(w.Foul, v.Name) {
				foul.Add(foul, big.NewInt(int64(v.Weight)))
			}
		}
		if foul.Mul(foul, big.NewInt(3)).Cmp(all) >= 0 {
			return false
		}
	}
	return true
}

// oneVoteWanted holds each vote against each one ahead of it.
func oneVoteWanted(w impl.World) bool {
	for i, x := range w.Signed {
		for _, y := range w.Signed[:i] {
			if x.Kind == 1 && y.Kind == 1 && x.Who == y.Who && x.Epoch == y.Epoch && x.Round == y.Round && x.What != y.What {
				return false
			}
		}
	}
	return true
}

func prefixWanted(w impl.World) bool {
	begins := func(a, b []int) bool { return len(a) <= len(b) && slices.Equal(a, b[:len(a)]) }
	for _, a := range w.Nodes {
		for _, b := range w.Nodes {
			if !begins(a.Done, b.Done) && !begins(b.Done, a.Done) {
				return false
			}
		}
	}
	return true
}

func foldWanted(w impl.World, done []int) (impl.Ledger, bool) {
	l := w.Base
	for _, id := range done {
		if outside(id, 0, len(w.Blocks)-1) {
			return w.Base, false
		}
		if l, _ = applyAllWanted(l, w.Blocks[id].Txs); w.Blocks[id].End {
			l = nextWanted(l)
		}
	}
	return l, true
}

func foldedWanted(w impl.World) bool {
	for _, n := range w.Nodes {
		ended := 0
		for i, id := range n.Done {
			if !outside(id, 0, len(w.Blocks)-1) && w.Blocks[id].End {
				ended = i + 1
			}
		}
		if l, ok := foldWanted(w, n.Done[:ended]); !ok || !sameLedger(l, n.Base) {
			return false
		}
	}
	return true
}

// A verdict is what is told of a world.
type verdict struct {
	Premise, OneVote, Prefix, Folded bool
	Safe                             int
}

func verdictOf(w impl.World) verdict {
	return verdict{impl.Premise(w), impl.OneVote(w), impl.Prefix(w), impl.Folded(w), impl.Safe(w)}
}

func verdictWanted(w impl.World) verdict {
	v := verdict{Premise: premiseWanted(w), OneVote: oneVoteWanted(w), Prefix: prefixWanted(w), Folded: foldedWanted(w)}
	for i, holds := range []bool{worldWanted(w), v.OneVote, v.Prefix, v.Folded} {
		if !holds && v.Safe == 0 {
			v.Safe = i + 1
		}
	}
	return v
}

// A safeCall asks all that is told of W, or what Done folds to in it.
type safeCall struct {
	Deed string
	W    impl.World
	Done []int
}

func (c safeCall) ask() []any {
	if c.Deed == "fold" {
		return listed2(impl.Fold(c.W, c.Done))
	}
	return []any{verdictOf(c.W)}
}

func (c safeCall) wanted() []any {
	if c.Deed == "fold" {
		return listed2(foldWanted(c.W, c.Done))
	}
	return []any{verdictWanted(c.W)}
}

func (c safeCall) String() string {
	return fmt.Sprintf("%s of %.300s in %s", c.Deed, fmt.Sprint(c.Done), worldTold(c.W))
}

func askVerdict(t *testing.T, w impl.World) verdict {
	t.Helper()
	return callAsked(t, safeCall{Deed: "verdict", W: w})[0].(verdict)
}

func askFold(t *testing.T, w impl.World, done ...int) (impl.Ledger, bool) {
	t.Helper()
	a := callAsked(t, safeCall{Deed: "fold", W: w, Done: done})
	return a[0].(impl.Ledger), a[1].(bool)
}

// safeIs: Safe answers this number.
func safeIs(t *testing.T, what string, w impl.World, want int) verdict {
	t.Helper()
	v := askVerdict(t, w)
	if v.Safe != want {
		t.Errorf("%s: %+v, not %d: %.900s", what, v, want, worldTold(w))
	}
	return v
}

func premiseIs(t *testing.T, what string, w impl.World, want bool) {
	t.Helper()
	if v := askVerdict(t, w); v.Premise != want {
		t.Errorf("%s: %+v", what, v)
	}
}

func TestSafeWorldsMadeNew(t *testing.T) {
	for foul, premise := range map[string]bool{"": true, "d": true, "a": true, "z": true, "c d": false, "a b c d": false, "a z": true, "e f g h i j k l m n o p q r s t u v w x": true} {
		w := crewWorld(strings.Fields(foul)...)
		if v := safeIs(t, "new", w, 0); v != (verdict{premise, true, true, true, 0}) {
			t.Errorf("%q foul: %+v", foul, v)
		}
	}
	for _, l := range append(someBases(), ledgerOf(0, letteredAccts(12, 3)...), ledgerOf(900, crewLedger().Accts...), aloneLedger()) {
		for _, foul := range []string{"", "a", "d"} {
			safeIs(t, "new", worldNewWanted(l, strings.Fields(foul)), 0)
		}
	}
	// Nobody votes: nothing is less than nothing.
	if v := safeIs(t, "the zero world", impl.World{}, 0); v != (verdict{false, true, true, true, 0}) {
		t.Errorf("the zero world: %+v", v)
	}
	if v := safeIs(t, "all foul", crewWorld("a", "b", "c", "d"), 0); v.Premise {
		t.Error("all are foul, and less than a third")
	}
}

// stakesLedger: a, b, c and d have these at stake.
func stakesLedger(weights ...int) impl.Ledger {
	l := ledgerOf(0)
	for _, v := range letteredVals(weights...) {
		l.Accts = append(l.Accts, impl.Acct{Name: v.Name, Free: 7, Stake: v.Weight})
	}
	return l
}

// endOf is an End of a Past, with this Next.
func endOf(next []impl.Val) impl.Block {
	return impl.Block{Id: 1, Round: 2, By: "c", Qc: rootQc(), End: true, Next: next, Root: root32}
}

// placesOfSets: where a set may stand in a world, each as what puts it there.
func placesOfSets() map[string]func(w *impl.World, set []impl.Val) {
	out := map[string]func(w *impl.World, set []impl.Val){
		"Base": func(w *impl.World, set []impl.Val) {
			w.Base.Accts = nil
			for _, v := range set {
				w.Base.Accts = append(w.Base.Accts, impl.Acct{Name: v.Name, Stake: v.Weight})
			}
		},
	}
	for at := range 3 {
		out[fmt.Sprintf("the Set %d", at)] = func(w *impl.World, set []impl.Val) { w.Nodes[at].Set = set }
		out[fmt.Sprintf("a Next of %d", at)] = func(w *impl.World, set []impl.Val) {
			w.Nodes[at].Past = []impl.Proof{{Bs: []impl.Block{endOf(set)}, Q: rootQc()}}
		}
		out[fmt.Sprintf("a Next of %d behind others", at)] = func(w *impl.World, set []impl.Val) {
			good := endOf(valsTold("a:10 b:10 x:1000"))
			w.Nodes[at].Past = []impl.Proof{{Bs: []impl.Block{firstBlock(), good, good}}, {}, {Bs: []impl.Block{good}}, {Bs: []impl.Block{firstBlock(), good, endOf(set), firstBlock(), good}}, {Bs: []impl.Block{good}}}
		}
	}
	return out
}

// heavyWorld: x weighs so much that each of the others is far from a third, but where a set is put.
func heavyWorld() impl.World {
	l := crewLedger()
	l.Accts = append(l.Accts, impl.Acct{Name: "x", Stake: 1000})
	return worldNewWanted(l, []string{"d"})
}

// Each set counts by itself, wherever it stands: just a third is too much.
func TestPremiseOfEachSetAlone(t *testing.T) {
	for where, put := range placesOfSets() {
		at := func(told string, foul ...string) impl.World {
			w := heavyWorld()
			w.Foul = foul
			return changedWorld(w, func(w *impl.World) { put(w, valsTold(told)) })
		}
		for told, want := range map[string]bool{
			"a:10 b:10 c:10 d:13": true, "a:10 b:10 c:10 d:14": true, "a:10 b:10 c:10 d:15": false, "a:10 b:10 c:10 d:16": false, "a:11 b:10 c:10 d:15": true, "a:9 b:10 c:10 d:15": false, "a:9 b:10 c:10 d:14": true,
			"d:5": false, "a:5": true, "a:5 d:5": false, "a:10 d:5": false, "a:11 d:5": true, "a:500000 b:499999 d:1": true, "a:6 d:999994": false,
		} {
			premiseIs(t, where+" of "+told, at(told, "d"), want)
		}
		// All who are foul weigh together; who is in no set weighs nothing, and who is named twice weighs once.
		for foul, want := range map[string]bool{"": true, "a": false, "b": true, "c": true, "d": true, "b c": false, "c d": false, "b d": false, "b c d": false, "z": true, "c z": true, "a z": false, "b b": true, "c c c": true, "d d d d d": true, "c d d": false, "e f g h": true, "aa bb": true} {
			premiseIs(t, where+" without "+foul, at("a:20 b:16 c:10 d:8", strings.Fields(foul)...), want)
		}
		premiseIs(t, where+" of none", at("", "d"), false)
		premiseIs(t, where+" of none, nobody foul", at(""), false)
	}
}

// What votes is told by what is at stake, and by Ends: by nothing else.
func TestPremiseAsksNothingElse(t *testing.T) {
	w := crewWorld("d")
	for what, change := range map[string]func(w *impl.World){
		"a Next without an End": func(w *impl.World) {
			b := endOf(valsTold("d:9"))
			b.End = false
			w.Nodes[1].Past = []impl.Proof{{Bs: []impl.Block{b, endOf(valsTold("a:9")), b}, Q: rootQc()}}
		},
		"a Past without blocks": func(w *impl.World) { w.Nodes[0].Past = []impl.Proof{{}, {Epoch: 9, Q: qcOf(7, 7, "d")}} },
		"an End in the Tree":    func(w *impl.World) { w.Nodes[2].Tree = []impl.Block{endOf(valsTold("d:9"))} },
		"an End of the blocks": func(w *impl.World) {
			w.Blocks = []impl.Block{with(endOf(valsTold("d:9")), func(b *impl.Block) { b.Id = 0 })}
		},
		"an End on its way": func(w *impl.World) {
			w.Net = []impl.Msg{propWord(endOf(valsTold("d:9")))}
		},
		"much that is free, and that leaves": func(w *impl.World) {
			w.Base.Accts[3].Free, w.Base.Accts[3].Leaves = 5000, leavesAt(7000, 3, 4)
		},
		"the ledgers of the nodes": func(w *impl.World) { w.Nodes[0].Base = stakesLedger(1, 1, 1, 99) },
		"what was signed":          func(w *impl.World) { w.Signed = []impl.Sig{{Kind: 1, Who: "d"}, {Kind: 1, What: 1, Who: "d"}} },
	} {
		premiseIs(t, what, changedWorld(w, change), true)
	}
	// Less than MinStake is not in SetOf; so it weighs nothing, on either side.
	for told, want := range map[string]bool{"5 5 5 4": true, "4 4 4 5": false, "4 4 10 5": false, "4 4 11 5": true, "4 4 4 4": false, "6 5 5 5": true, "5 4 5 5": false} {
		var weights []int
		for _, s := range strings.Fields(told) {
			weights = append(weights, numTold(s))
		}
		x := w
		x.Base = stakesLedger(weights...)
		premiseIs(t, "at stake "+told, x, want)
	}
	for _, l := range wrongLedgers() {
		x := w
		x.Base = l
		premiseIs(t, "a ledger that is not right", x, false)
	}
}

// Three times a great weight is more than an int holds, and so is what all weigh.
func TestPremiseOfGreatWeights(t *testing.T) {
	third := math.MaxInt / 3
	known := map[bool][][]int{
		true:  {{2*third + 1, 0, 0, third}, {math.MaxInt, math.MaxInt, math.MaxInt, math.MaxInt}, {math.MaxInt, math.MaxInt, 1, math.MaxInt}, {math.MaxInt - 4, 0, 0, 1}, {math.MaxInt / 2, math.MaxInt / 2, 1, math.MaxInt / 3}, {1, 1, 1, math.MinInt}, {1 << 62, 1 << 62, 1, 1 << 62}, {1 << 32, 0, 1, 1 << 31}, {0, 0, 0, -1}, {math.MinInt, -1, 0, math.MinInt}},
		false: {{2 * third, 0, 0, third}, {2*third - 1, 0, 0, third}, {math.MaxInt / 2, 0, 0, math.MaxInt / 2}, {math.MaxInt, math.MaxInt, 0, math.MaxInt}, {math.MaxInt, math.MaxInt, -1, math.MaxInt}, {0, 0, 0, math.MaxInt}, {1 << 62, 0, 0, 1 << 62}, {1 << 62, 1 << 62, 0, 1 << 62}, {1 << 32, 0, 0, 1 << 31}, {math.MinInt, 1, 1, 1}, {0, 0, 0, 0}, {-1, 0, 0, 0}, {math.MinInt, math.MinInt, math.MinInt, math.MinInt / 2}},
	}
	for where, put := range placesOfSets() {
		if where == "Base" {
			// No ledger has so much.
			continue
		}
		for want, lists := range known {
			for _, weights := range lists {
				premiseIs(t, fmt.Sprint(where, " of ", weights), changedWorld(heavyWorld(), func(w *impl.World) { put(w, letteredVals(weights...)) }), want)
			}
		}
	}
	great := append(greatNumbers(), third, third+1, 2*third, 2*third+1, math.MaxInt/2, math.MaxInt/2+1, math.MinInt/3, -1, 0, 1, 5)
	for _, a := range great {
		for _, b := range great {
			for _, foul := range []string{"", "a", "b", "a b", "c"} {
				w := impl.World{Base: stakesLedger(10, 10, 10, 10), Foul: strings.Fields(foul), Nodes: []impl.Node{{Set: letteredVals(a, b)}, {Set: letteredVals(a, 7, b)}}}
				if got := impl.Premise(w); got != premiseWanted(w) {
					t.Errorf("%d and %d, %q foul: %v", a, b, foul, got)
				}
			}
		}
	}
	// A set that is not right counts as it stands: each of two of one name weighs.
	for told, want := range map[string]bool{"a:20 d:3 d:3": true, "a:12 d:3 d:3": false, "d:3 a:13 d:3": true, "d:3 c:1 b:6": true, "d:3 c:1 b:5": false} {
		premiseIs(t, told, changedWorld(crewWorld("d"), func(w *impl.World) { w.Nodes[1].Set = valsTold(told) }), want)
	}
}

// signedWorld is the new world in which that was signed.
func signedWorld(l ...impl.Sig) impl.World {
	w := crewWorld("d")
	w.Signed = l
	return w
}

// Two signatures that differ in one part: only another block makes them two votes of one round.
func TestOneVoteOfTwo(t *testing.T) {
	vote := impl.Sig{Kind: 1, Epoch: 3, Round: 5, What: 7, Who: "a"}
	filling := sigsTold(9, "v1/0/a v2/1/a v3/2/b g5/7/a g5/3/a")
	for what, x := range map[string]struct {
		change func(s *impl.Sig)
		want   bool
	}{
		"the same": {func(s *impl.Sig) {}, true}, "another block": {func(s *impl.Sig) { s.What = 8 }, false}, "the block 0": {func(s *impl.Sig) { s.What = 0 }, false}, "the block -1": {func(s *impl.Sig) { s.What = -1 }, false}, "a great block": {func(s *impl.Sig) { s.What = math.MaxInt }, false},
		"another epoch": {func(s *impl.Sig) { s.What, s.Epoch = 8, 4 }, true}, "another round": {func(s *impl.Sig) { s.What, s.Round = 8, 6 }, true}, "another name": {func(s *impl.Sig) { s.What, s.Who = 8, "b" }, true}, "a longer name": {func(s *impl.Sig) { s.What, s.Who = 8, "aa" }, true}, "a leaving": {func(s *impl.Sig) { s.What, s.Kind = 8, 2 }, true}, "no kind": {func(s *impl.Sig) { s.What, s.Kind = 8, 0 }, true}, "a kind that is none": {func(s *impl.Sig) { s.What, s.Kind = 8, 3 }, true},
		"the same in another epoch": {func(s *impl.Sig) { s.Epoch = 0 }, true}, "the same in another round": {func(s *impl.Sig) { s.Round = 0 }, true}, "the same by another one": {func(s *impl.Sig) { s.Who = "" }, true},
	} {
		other := vote
		x.change(&other)
		far := slices.Concat([]impl.Sig{vote}, slices.Repeat(filling, 40), []impl.Sig{other})
		for i, l := range [][]impl.Sig{{vote, other}, {other, vote}, {vote, vote, other}, {vote, other, vote, other}, far, slices.Concat(filling, far, filling), slices.Concat(filling, []impl.Sig{other, vote})} {
			want := 2
			if x.want {
				want = 0
			}
			if v := safeIs(t, what, signedWorld(l...), want); v.OneVote != x.want {
				t.Errorf("%s, the list %d: %+v", what, i, v)
			}
		}
	}
}

// Of two leavings each may have its High, and whoever stands in the table counts.
func TestOneVoteOfMany(t *testing.T) {
	for told, want := range map[string]bool{
		"": true, "v1/0/a": true, "g1/0/a g1/1/a g1/2/a": true, "v1/0/a v1/0/b v1/0/c v2/1/a v2/1/b": true, "v1/0/a v1/1/b v1/2/c": true, "v1/0/a g1/1/a v1/0/a": true,
		"v1/0/d v1/1/d": false, "v1/0/z v1/1/z": false, "v0/0/a v0/1/a": false, "v1/0/a v2/0/a": true, "v1/0/a v2/1/a v3/2/a v2/3/a": false, "v1/0/a v1/1/a v1/2/a": false, "v1/1/a v1/0/a": false,
	} {
		w := signedWorld(sigsTold(2, told)...)
		if v := askVerdict(t, w); v.OneVote != want {
			t.Errorf("%s: %+v", told, v)
		}
	}
	// What is no vote by its kind is none, whatever it is.
	for _, kind := range append(greatNumbers(), -1, 0, 2, 3) {
		w := signedWorld(impl.Sig{Kind: kind, Round: 4, What: 1, Who: "a"}, impl.Sig{Kind: kind, Round: 4, What: 2, Who: "a"})
		if v := safeIs(t, fmt.Sprint("the kind ", kind), w, 0); !v.OneVote {
			t.Errorf("the kind %d: %+v", kind, v)
		}
	}
	odd := impl.Sig{Kind: 1, Epoch: math.MinInt, Round: math.MaxInt, What: math.MinInt}
	if v := safeIs(t, "numbers that are great", signedWorld(odd, impl.Sig{Kind: math.MaxInt}, odd), 0); !v.OneVote {
		t.Error("great numbers")
	}
	odd.What++
	safeIs(t, "two of great numbers", signedWorld(odd, impl.Sig{Kind: 1, Epoch: math.MinInt, Round: math.MaxInt, What: math.MinInt}), 2)
	for _, a := range greatNumbers() {
		for _, b := range greatNumbers() {
			w := signedWorld(impl.Sig{Kind: 1, Round: 4, What: a, Who: "a"}, impl.Sig{Kind: 1, Round: 4, What: b, Who: "a"})
			if got := impl.OneVote(w); got != (a == b) {
				t.Errorf("%d and %d: %v", a, b, got)
			}
		}
	}
}

// doneWorld has a node for each of these lists of Done.
func doneWorld(lists ...[]int) impl.World {
	w := impl.World{Base: crewLedger()}
	for i, done := range lists {
		w.Nodes = append(w.Nodes, changed(crewNode(string(rune('a'+i))), func(n *impl.Node) { n.Done = done }))
	}
	return w
}

func TestPrefixOfTwo(t *testing.T) {
	many := slices.Repeat([]int{1, 2, 3, 4, 5}, 40)
	last := slices.Clone(many)
	last[199] = 6
	for i, x := range []struct {
		a, b []int
		want bool
	}{
		{nil, nil, true}, {[]int{}, nil, true}, {nil, []int{7}, true}, {[]int{0}, []int{0}, true}, {[]int{0, 1}, []int{0, 1, 2}, true}, {[]int{0}, []int{0, 1, 2, 5, 4}, true}, {[]int{3, 1, 2}, []int{3, 1, 2}, true}, {many, many[:199], true}, {many, many, true}, {last, many[:199], true}, {[]int{-1, math.MaxInt}, []int{-1}, true}, {[]int{5, 5}, []int{5}, true},
		{[]int{0}, []int{1}, false}, {[]int{0, 1, 2}, []int{1, 1, 2}, false}, {[]int{0, 1, 2}, []int{0, 1, 3}, false}, {[]int{0, 1, 2}, []int{0, 1, 3, 4, 5}, false}, {[]int{0, 1, 2}, []int{0, 2, 1}, false}, {[]int{0, 1}, []int{1}, false}, {[]int{0, 1, 2}, []int{1, 2}, false}, {many, last, false}, {many[:1], []int{2, 2}, false}, {[]int{math.MaxInt}, []int{math.MinInt}, false}, {[]int{5, 5, 6}, []int{5, 6}, false},
	} {
		want := 3
		if x.want {
			want = 0
		}
		for _, w := range []impl.World{doneWorld(x.a, x.b), doneWorld(x.b, x.a), doneWorld(x.a, x.b, nil), doneWorld(nil, x.b, x.a), doneWorld(x.b, nil, x.a), doneWorld(x.a, x.a, x.b, x.b)} {
			if v := safeIs(t, fmt.Sprint("the lists ", i), w, want); v.Prefix != x.want {
				t.Errorf("the lists %d: %+v", i, v)
			}
		}
	}
}

func TestPrefixOfMore(t *testing.T) {
	for i, x := range []struct {
		lists [][]int
		want  bool
	}{
		{nil, true}, {[][]int{nil}, true}, {[][]int{{4, 4, 1}}, true}, {[][]int{{0}, {0, 1}, {0, 1, 2}}, true}, {[][]int{{0, 1, 2}, nil, {0}, {0, 1}, nil}, true},
		// Each of two goes on from the third one, but not from each other.
		{[][]int{{0}, {0, 1}, {0, 2}}, false}, {[][]int{{0, 1}, {0}, {0, 2}}, false}, {[][]int{{0, 1}, {0, 2}, {0}}, false}, {[][]int{{0, 1}, {0, 1}, {0, 1}, {0, 1}, {0, 2}}, false}, {[][]int{{9}, {0, 1}, {0, 1}, {0, 1}}, false},
	} {
		if v := askVerdict(t, doneWorld(x.lists...)); v.Prefix != x.want {
			t.Errorf("the lists %d: %+v", i, v)
		}
	}
	twelve := slices.Repeat([][]int{{0, 1, 2}}, 12)
	for at := range 12 {
		lists := slices.Clone(twelve)
		lists[at] = []int{0, 1}
		w := doneWorld(lists...)
		if v := askVerdict(t, w); !v.Prefix {
			t.Errorf("a shorter one at %d: %+v", at, v)
		}
		w.Nodes[at].Done = []int{0, 2}
		if v := askVerdict(t, w); v.Prefix || v.Safe != 3 {
			t.Errorf("another one at %d: %+v", at, v)
		}
	}
}

// foldWorld: blocks that do something each, in no tree; the blocks 1, 3 and 5 are Ends.
func foldWorld() impl.World {
	w := crewWorld("d")
	for id, txs := range [][]impl.Tx{{pay("a", "b", 5, 0), pay("a", "e", 6, 1)}, {stakes(2, "c", 7, 0), stakes(3, "d", 4, 0)}, nil, {pay("e", "a", 1, 0)}, {pay("d", "a", 1, 1)}, nil, {pay("q", "a", 1, 1), pay("b", "a", 101, 0), pay("b", "a", 2, 0)}} {
		b := impl.Block{Id: id, Epoch: 5, Round: 1 + id, By: "b", Qc: rootQc(), Txs: txs}
		if id%2 == 1 {
			b.End, b.Next, b.Root = true, valsTold("a:9"), root32
		}
		w.Blocks = append(w.Blocks, b)
	}
	return w
}

// acctTold is an account of the crew, with a change.
func acctTold(name string, free, nonce, stake int, leaves ...impl.Leave) impl.Acct {
	return impl.Acct{Name: name, Free: free, Nonce: nonce, Stake: stake, Leaves: leaves}
}

func TestFoldKnown(t *testing.T) {
	w := foldWorld()
	a, b, c, d := acctTold("a", 100, 0, 10), acctTold("b", 100, 0, 10), acctTold("c", 100, 0, 10), acctTold("d", 100, 0, 10)
	leaving := acctTold("d", 100, 1, 6, impl.Leave{Amount: 4, At: 2})
	for i, x := range []struct {
		done []int
		want impl.Ledger
	}{
		{nil, crewLedger()}, {[]int{2}, crewLedger()}, {[]int{2, 2, 2}, crewLedger()},
		{[]int{0}, ledgerOf(0, acctTold("a", 89, 2, 10), acctTold("b", 105, 0, 10), c, d, acctTold("e", 6, 0, 0))},
		{[]int{6}, ledgerOf(0, acctTold("a", 102, 0, 10), acctTold("b", 98, 1, 10), c, d)},
		{[]int{5}, ledgerOf(1, a, b, c, d)}, {[]int{5, 5}, ledgerOf(2, a, b, c, d)}, {[]int{5, 2, 5, 2, 5}, ledgerOf(3, a, b, c, d)}, {[]int{3}, ledgerOf(1, a, b, c, d)},
		{[]int{1}, ledgerOf(1, a, b, acctTold("c", 93, 1, 17), leaving)},
		// Once more it is an End, but its orders have been given.
		{[]int{1, 1}, ledgerOf(2, a, b, acctTold("c", 93, 1, 17), acctTold("d", 104, 1, 6))},
		{[]int{1, 4}, ledgerOf(1, acctTold("a", 101, 0, 10), b, acctTold("c", 93, 1, 17), acctTold("d", 99, 2, 6, impl.Leave{Amount: 4, At: 2}))},
		{[]int{4, 1}, ledgerOf(1, a, b, acctTold("c", 93, 1, 17), leaving)},
		// What leaves is free at an End two epochs later, and an order that comes ahead of its time does nothing.
		{[]int{0, 1, 3}, ledgerOf(2, acctTold("a", 90, 2, 10), acctTold("b", 105, 0, 10), acctTold("c", 93, 1, 17), acctTold("d", 104, 1, 6), acctTold("e", 5, 1, 0))},
		{[]int{3, 0, 1}, ledgerOf(2, acctTold("a", 89, 2, 10), acctTold("b", 105, 0, 10), acctTold("c", 93, 1, 17), acctTold("d", 100, 1, 6, impl.Leave{Amount: 4, At: 3}), acctTold("e", 6, 0, 0))},
		{[]int{0, 0}, ledgerOf(0, acctTold("a", 89, 2, 10), acctTold("b", 105, 0, 10), c, d, acctTold("e", 6, 0, 0))},
	} {
		if got, ok := askFold(t, w, x.done...); !ok || !sameLedger(got, x.want) {
			t.Errorf("%d: %v: %v, %v", i, x.done, got, ok)
		}
	}
	// Nothing of the nodes counts, nor of what is on its way.
	w.Nodes, w.Net, w.Foul, w.Signed = nil, nil, []string{"B"}, make([]impl.Sig, 3)
	if got, ok := askFold(t, w, 0, 1, 3); !ok || got.Epoch != 2 {
		t.Errorf("without nodes: %v, %v", got, ok)
	}
}

func TestFoldOfBlocksThatAreNotThere(t *testing.T) {
	w := foldWorld()
	for _, id := range append(greatNumbers(), -1, -2, 7, 8, 100) {
		for _, done := range [][]int{{id}, {id, 0}, {0, 1, id}, {0, 1, 3, id, 4}, {2, 2, id}, {1, 5, id, id}} {
			if got, ok := askFold(t, w, done...); ok || !sameLedger(got, crewLedger()) {
				t.Errorf("%v: %v, %v", done, got, ok)
			}
		}
	}
	for n := range 8 {
		x := w
		x.Blocks = w.Blocks[:n]
		for id := -1; id < 9; id++ {
			if _, ok := askFold(t, x, id); ok != !outside(id, 0, n-1) {
				t.Errorf("%d of %d blocks: %v", id, n, ok)
			}
		}
	}
	if got, ok := askFold(t, impl.World{}, 0); ok || !sameLedger(got, impl.Ledger{}) {
		t.Errorf("no world: %v", got)
	}
}

// Of ledgers that are not right nothing is changed; blocks count for their orders, and for whether they are Ends, alone.
func TestFoldOfWhatIsNotRight(t *testing.T) {
	for _, l := range wrongLedgers() {
		w := foldWorld()
		w.Base = l
		for _, done := range [][]int{nil, {0}, {0, 1, 3, 5}} {
			if got, ok := askFold(t, w, done...); !ok || !sameLedger(got, l) {
				t.Errorf("%v: %.300s", done, fmt.Sprint(got))
			}
		}
		if got, ok := askFold(t, w, 0, 7); ok || !sameLedger(got, l) {
			t.Errorf("not there: %.300s", fmt.Sprint(got))
		}
	}
	w := foldWorld()
	for i, b := range append(wrongBlocks(), rightBlocks()...) {
		w.Blocks[2] = b
		got, ok := askFold(t, w, 0, 2)
		want, _ := applyAllWanted(mustFold(foldWorld(), 0), b.Txs)
		if b.End {
			want = nextWanted(want)
		}
		if !ok || !sameLedger(got, want) {
			t.Errorf("the block %d: %v, %v", i, got, ok)
		}
	}
	// A place counts, not what stands there as an Id; and an End in the last epoch stays in it.
	w = foldWorld()
	w.Blocks[2] = with(w.Blocks[0], func(b *impl.Block) { b.Id = 77 })
	if got, ok := askFold(t, w, 2); !ok || !sameLedger(got, mustFold(w, 0)) {
		t.Errorf("another Id: %v, %v", got, ok)
	}
	if _, ok := askFold(t, w, 77); ok {
		t.Error("an Id without a place")
	}
	w.Base.Epoch = 899
	if got, ok := askFold(t, w, 5, 5, 0, 5); !ok || got.Epoch != 900 || got.Accts[0].Free != 89 {
		t.Errorf("the last epoch: %v, %v", got, ok)
	}
	// An order more than a block may have is done all the same.
	w.Blocks[2].Txs = []impl.Tx{pay("a", "b", 1, 0), pay("a", "b", 1, 1), pay("a", "b", 1, 2), {}, pay("a", "b", 1, 3), pay("a", "b", 1, 4)}
	if got, ok := askFold(t, w, 2); !ok || got.Accts[1].Free != 105 {
		t.Errorf("five orders: %v, %v", got, ok)
	}
}

func mustFold(w impl.World, done ...int) impl.Ledger {
	l, ok := foldWanted(w, done)
	if !ok {
		panic("not there")
	}
	return l
}

// baseWorld is the world in which what is certain at b is done, with this ledger as the beginning of its epoch.
func baseWorld(w impl.World, base impl.Ledger, done ...int) impl.World {
	return changedWorld(w, func(w *impl.World) {
		w.Nodes[1] = newWanted("b", base)
		w.Nodes[1].Done = done
	})
}

func TestFoldedUpToTheLastEnd(t *testing.T) {
	w := foldWorld()
	for _, done := range [][]int{nil, {0}, {2, 4, 6}, {1}, {0, 1}, {0, 1, 2}, {0, 1, 4}, {0, 1, 3}, {0, 1, 3, 0, 2, 6}, {5}, {5, 5}, {5, 0, 5}, {1, 3, 5}, {0, 1, 2, 3, 4, 5, 6}, {6, 5, 4, 3, 2, 1, 0}, {1, 7}, {0, 1, -1, 99, math.MaxInt}, {99}, {-1, 7, 0}} {
		ended := 0
		for i, id := range done {
			if id == 1 || id == 3 || id == 5 {
				ended = i + 1
			}
		}
		// Up to there, and no more, and no less.
		base := mustFold(w, done[:ended]...)
		if v := safeIs(t, fmt.Sprint("done ", done), baseWorld(w, base, done...), 0); !v.Folded {
			t.Errorf("%v: %+v", done, v)
		}
		for upTo := range len(done) + 1 {
			other, ok := foldWanted(w, done[:upTo])
			if !ok || sameLedger(other, base) {
				continue
			}
			if v := safeIs(t, fmt.Sprint("done ", done, " up to ", upTo), baseWorld(w, other, done...), 4); v.Folded {
				t.Errorf("%v up to %d: %+v", done, upTo, v)
			}
		}
	}
	// A block that is not there, ahead of an End, folds to nothing: not even to the first ledger.
	for _, done := range [][]int{{99, 1}, {-1, 5}, {0, 7, 1}, {5, 99, 5}} {
		for _, base := range []impl.Ledger{w.Base, mustFold(w, 1), mustFold(w, 5), mustFold(w, 0, 1), mustFold(w, 5, 5)} {
			safeIs(t, fmt.Sprint("done ", done), baseWorld(w, base, done...), 4)
		}
	}
	safeIs(t, "no nodes", changedWorld(w, func(w *impl.World) { w.Nodes = nil }), 0)
}

// baseChanges: each changes one thing in a ledger of the crew, which stays a right one.
func baseChanges() map[string]func(l *impl.Ledger) {
	out := map[string]func(l *impl.Ledger){
		"Epoch one more": func(l *impl.Ledger) { l.Epoch++ }, "Epoch one less, or the last": func(l *impl.Ledger) { l.Epoch = (l.Epoch + 900) % 901 }, "one more account": func(l *impl.Ledger) { l.Accts = append(l.Accts, impl.Acct{Name: "z"}) }, "one more ahead": func(l *impl.Ledger) { l.Accts = append([]impl.Acct{{Name: "0"}}, l.Accts...) }, "the last one gone": func(l *impl.Ledger) { l.Accts = l.Accts[:len(l.Accts)-1] }, "the first one gone": func(l *impl.Ledger) { l.Accts = l.Accts[1:] }, "no accounts": func(l *impl.Ledger) { l.Accts = nil },
		"the last name": func(l *impl.Ledger) { l.Accts[len(l.Accts)-1].Name += "x" }, "the first name": func(l *impl.Ledger) { l.Accts[0].Name = "0" },
	}
	for at := range 4 {
		for what, change := range map[string]func(a *impl.Acct){"Free": func(a *impl.Acct) { a.Free++ }, "Free less": func(a *impl.Acct) { a.Free-- }, "Nonce": func(a *impl.Acct) { a.Nonce++ }, "Stake": func(a *impl.Acct) { a.Stake++ }, "a Leave more": func(a *impl.Acct) { a.Leaves = append(a.Leaves, impl.Leave{Amount: 1, At: 9}) }, "Free for Stake": func(a *impl.Acct) { a.Free, a.Stake = a.Free-1, a.Stake+1 }} {
			out[fmt.Sprintf("%s of %d", what, at)] = func(l *impl.Ledger) { change(&l.Accts[at]) }
		}
	}
	return out
}

func TestFoldedOfAnotherLedger(t *testing.T) {
	w := foldWorld()
	for _, x := range []struct{ done, ended []int }{{nil, nil}, {[]int{0}, nil}, {[]int{0, 1}, []int{0, 1}}, {[]int{0, 1, 3, 4}, []int{0, 1, 3}}} {
		done, base := x.done, mustFold(w, x.ended...)
		safeIs(t, fmt.Sprint("done ", done), baseWorld(w, base, done...), 0)
		for what, change := range baseChanges() {
			other := apartFrom(base)
			change(&other)
			if v := safeIs(t, fmt.Sprint(what, ", done ", done), baseWorld(w, other, done...), 4); v.Folded {
				t.Errorf("%s: %+v", what, v)
			}
			// At whichever node it is.
			for _, at := range []int{0, 2} {
				x := changedWorld(baseWorld(w, base, done...), func(w *impl.World) {
					w.Nodes[at] = changed(newWanted(string("abc"[at]), other), func(n *impl.Node) { n.Done = done })
				})
				safeIs(t, fmt.Sprintf("%s at %d", what, at), x, 4)
			}
		}
	}
	// What leaves: how much, when, and in how many parts.
	leaving := foldWorld()
	base := mustFold(leaving, 1)
	for _, leaves := range [][]impl.Leave{nil, leavesAt(4, 3), leavesAt(3, 2), leavesAt(5, 2), leavesAt(4, 2, 3), {{Amount: 1, At: 1}, {Amount: 4, At: 2}}, leavesAt(4, 1)} {
		other := apartFrom(base)
		other.Accts[3].Leaves = leaves
		safeIs(t, fmt.Sprint("leaving ", leaves), baseWorld(leaving, other, 1), 4)
	}
	safeIs(t, "leaving as told", baseWorld(leaving, base, 1), 0)
}

// faults: each makes one of the four not hold, and no other one.
func faults() []func(w *impl.World) {
	return []func(w *impl.World){
		func(w *impl.World) { w.Foul = []string{"d", "c", "e"} },
		func(w *impl.World) {
			w.Signed = append(w.Signed, impl.Sig{Kind: 1, Epoch: 1, Round: 9, What: 1, Who: "a"}, impl.Sig{Kind: 1, Epoch: 1, Round: 9, What: 2, Who: "a"})
		},
		func(w *impl.World) {
			w.Nodes[0].Done, w.Nodes[2].Done = append(w.Nodes[0].Done, 2), append(w.Nodes[2].Done, 99)
		},
		func(w *impl.World) { w.Nodes[1].Base.Accts[0].Free++ },
	}
}

// Of several that do not hold the first one's number counts.
func TestSafeTellsTheFirst(t *testing.T) {
	for what, begin := range map[string]impl.World{"next": nextWorld(), "settled": settleWanted(crewWorld("d"), 7)} {
		for mask := range 16 {
			want := 0
			w := changedWorld(begin, func(w *impl.World) {
				for i, fault := range faults() {
					if mask>>i&1 == 1 {
						fault(w)
						if want == 0 {
							want = i + 1
						}
					}
				}
			})
			v := safeIs(t, fmt.Sprintf("%s: the faults %04b", what, mask), w, want)
			if v.OneVote != (mask&2 == 0) || v.Prefix != (mask&4 == 0) || v.Folded != (mask&8 == 0) {
				t.Errorf("%s: the faults %04b: %+v", what, mask, v)
			}
		}
	}
}

// What is no world is told all the same, by what stands there.
func TestSafeOfWorldsNotRight(t *testing.T) {
	for what, w := range wrongWorlds() {
		v := safeIs(t, what, w, 1)
		if impl.WorldOk(w) {
			t.Errorf("%s: right: %+v", what, v)
		}
		for _, done := range [][]int{nil, {0, 1}, {0, 1, 3}, {5, 0}, {-1}} {
			askFold(t, w, done...)
		}
	}
	for what, w := range rightWorlds() {
		if v := askVerdict(t, w); v.Safe == 1 {
			t.Errorf("%s: not right: %+v", what, v)
		}
		for _, done := range [][]int{nil, {0, 1}, {0, 1, 3}, {len(w.Blocks) - 1}, {len(w.Blocks)}} {
			askFold(t, w, done...)
		}
	}
	// A world of nothing that is right still has what it has.
	odd := impl.World{Base: ledgerOf(-1), Foul: []string{"", "a", ""}, Nodes: []impl.Node{{}, {Base: ledgerOf(-1), Done: []int{0}}, {Name: "A", Base: ledgerOf(-1), Done: []int{0, 0}}}, Blocks: []impl.Block{{Id: -5, End: true, Txs: make([]impl.Tx, 9)}}, Signed: []impl.Sig{{}, {}}, Net: make([]impl.Msg, 3)}
	if v := safeIs(t, "nothing is right", odd, 1); v != (verdict{false, true, true, false, 1}) {
		t.Errorf("nothing is right: %+v", v)
	}
	odd.Nodes[0].Base.Epoch = -1
	if v := safeIs(t, "nothing is right", odd, 1); !v.Folded {
		t.Errorf("nothing is right, and folded: %+v", v)
	}
}

// safeLedgers: first ledgers, each with who is foul in it, and weighs less than a third.
func safeLedgers() map[string]impl.World {
	out := map[string]impl.World{}
	for foul, weights := range map[string][]int{"": {10, 10, 10, 10}, "d": {10, 10, 10, 10}, "a": {10, 10, 10, 10}, "c e": {10, 12, 5, 9, 5}, "b": {14, 10, 9}, "a b c": {5, 5, 5, 20, 20, 20}, "g": {9, 8, 7, 6, 5, 5, 9}, "z": {8}, "b d": {30, 5, 30, 5}} {
		out["without "+foul] = worldNewWanted(stakesLedger(weights...), strings.Fields(foul))
	}
	return out
}

// saidBy is m, in the name of one of the foul ones.
func saidBy(r *rand.Rand, w impl.World, m impl.Msg) impl.Msg {
	if len(w.Foul) == 0 {
		return m
	}
	who := w.Foul[r.Intn(len(w.Foul))]
	if m.V.Who == "foul" {
		m.V.Who = who
	}
	if m.G.Who == "foul" {
		m.G.Who = who
	}
	return m
}

// A schemer is all foul ones of a world together, with all that they know of one epoch: who may lead and vote, what was made, and what comes together of all that was ever signed, and of what they sign themselves.
type schemer struct {
	r      *rand.Rand
	w      impl.World
	node   impl.Node
	blocks []impl.Block
	certs  []impl.Qc
	lefts  []impl.Tc
}

func schemerOf(r *rand.Rand, w impl.World) schemer {
	x := schemer{r: r, w: w, node: w.Nodes[r.Intn(len(w.Nodes))], certs: []impl.Qc{rootQc()}}
	for _, b := range w.Blocks {
		if b.Epoch == x.node.Epoch {
			x.blocks = append(x.blocks, b)
		}
	}
	for _, b := range x.blocks {
		q := impl.Qc{Round: b.Round, Block: b.Id}
		for _, name := range namesOf(x.node.Set) {
			if x.foul(name) || slices.Contains(w.Signed, impl.Sig{Kind: 1, Epoch: b.Epoch, Round: b.Round, What: b.Id, Who: name}) {
				q.Who = append(q.Who, name)
			}
		}
		if qcWanted(x.node.Set, q) {
			x.certs = append(x.certs, q)
		}
	}
	for round := max(1, x.node.Round-3); round < x.node.Round+3; round++ {
		if y, ok := x.left(round); ok {
			x.lefts = append(x.lefts, y)
		}
	}
	return x
}

func (x schemer) foul(name string) bool { return slices.Contains(x.w.Foul, name) }

// left: that this round was left, by no more than are needed, with Highs as low as they can be told.
func (x schemer) left(round int) (impl.Tc, bool) {
	highs := map[string]int{}
	for _, name := range namesOf(x.node.Set) {
		if x.foul(name) {
			highs[name] = 0
		}
	}
	for _, s := range x.w.Signed {
		if high, there := highs[s.Who]; s.Kind == 2 && s.Epoch == x.node.Epoch && s.Round == round && (!there || s.What < high) {
			highs[s.Who] = s.What
		}
	}
	for most := range round {
		y := impl.Tc{Round: round}
		for _, name := range namesOf(x.node.Set) {
			if high, there := highs[name]; there && high <= most {
				y.Who, y.Highs = append(y.Who, name), append(y.Highs, high)
			}
		}
		if tcWanted(x.node.Set, y) {
			return y, true
		}
	}
	return impl.Tc{}, false
}

// anyLate takes one of these, mostly one of the last few.
func anyLate[T any](r *rand.Rand, l []T) T {
	return l[max(0, len(l)-1-r.Intn(min(len(l), 1+r.Intn(4))))]
}

// propose is a block of a round that a foul one leads, behind what has a certificate.
func (x schemer) propose() (impl.Block, bool) {
	round := x.node.Round + x.r.Intn(3) - x.r.Intn(2)
	q := anyLate(x.r, x.certs)
	if x.r.Intn(3) == 0 {
		q = x.certs[x.r.Intn(len(x.certs))]
	}
	var left impl.Tc
	if q.Round != round-1 {
		left, _ = x.left(round - 1)
	}
	if !x.foul(leaderWanted(x.node.Set, round)) || q.Round >= round {
		return impl.Block{}, false
	}
	view := x.node
	view.Tree = x.blocks
	txs := [][]impl.Tx{nil, {pay(x.w.Base.Accts[0].Name, "z", 1, 0)}, x.node.Pool}[x.r.Intn(3)]
	return blockFor(view, len(x.w.Blocks), round, q, left, txs...), true
}

// words are what it says next: a block, votes, leavings, or what it knows.
func (x schemer) words() []impl.Msg {
	var l []impl.Msg
	switch k := x.r.Intn(8); {
	case k < 3:
		if b, ok := x.propose(); ok {
			l = append(l, propWord(b))
		}
	case k < 6 && len(x.blocks) > 0:
		b := anyLate(x.r, x.blocks)
		for _, who := range x.w.Foul {
			l = append(l, voteWord(b.Round, b.Id, who))
		}
	case k < 7:
		for _, who := range x.w.Foul {
			l = append(l, goneWord(x.node.Round, who, rootQc()))
		}
	default:
		m := shareWord(anyLate(x.r, x.certs), impl.Tc{}, x.blocks[:min(len(x.blocks), 400)]...)
		if len(x.lefts) > 0 && x.r.Intn(2) == 0 {
			m.Q, m.T = rootQc(), anyLate(x.r, x.lefts)
		}
		l = append(l, m)
	}
	return l
}

// A turmoil is a world in which anything happens that is not barred, and what of that was done.
type turmoil struct {
	tally
	r    *rand.Rand
	w    impl.World
	bars func(impl.Event) bool
}

func turmoilOf(seed int, w impl.World) *turmoil {
	return &turmoil{tally{map[int]int{}, map[int]int{}}, rand.New(rand.NewSource(int64(seed))), w, func(impl.Event) bool { return false }}
}

func (x *turmoil) do(e impl.Event) bool {
	if x.bars(e) {
		return false
	}
	after, ok := impl.Do(x.w, e)
	x.w = after
	x.count(e.Kind, ok)
	return ok
}

// scheme has the foul ones say this to some of the nodes, most of which hear it at once.
func (x *turmoil) scheme() {
	s := schemerOf(x.r, x.w)
	for _, m := range s.words() {
		for at, n := range x.w.Nodes {
			if n.Epoch == s.node.Epoch && x.r.Intn(3) > 0 && x.do(forgeEv(toPlace(x.w, at, m))) && x.r.Intn(4) > 0 {
				x.do(deliverEv(len(x.w.Net) - 1))
			}
		}
	}
}

// happens is one event, or all that goes with a scheme.
func (x *turmoil) happens() {
	switch k := x.r.Intn(20); {
	case k < 6 && len(x.w.Foul) > 0:
		x.scheme()
	case k < 8:
		x.do(leaveEv(x.r.Intn(len(x.w.Nodes))))
	case k < 10 && len(x.w.Net) > 0:
		x.do(dropEv(x.r.Intn(len(x.w.Net))))
	default:
		e := anyEvent(x.r, x.w)
		if e.Kind == 9 {
			e.M = saidBy(x.r, x.w, e.M)
		}
		x.do(e)
	}
}

func (x *turmoil) goesOn(n int) {
	for range n {
		x.happens()
	}
}

// apart: whether something is certain at one node, and not yet at another.
func (x *turmoil) apart() bool {
	return slices.ContainsFunc(x.w.Nodes, func(n impl.Node) bool { return len(n.Done) != len(x.w.Nodes[0].Done) })
}

// Promise 16: whatever is lost, doubled, late, forgotten or forged, what is certain at two nodes is the same as far as it goes.
func TestSafeWhateverHappens(t *testing.T) {
	c := tally{map[int]int{}, map[int]int{}}
	epochs, most, held, parted := 0, 0, 0, 0
	for what, begin := range safeLedgers() {
		for seed := range 20 {
			x := turmoilOf(160+seed, begin)
			for turn := range 6 {
				x.goesOn(25)
				if x.apart() {
					parted++
				}
				if turn%2 == 1 {
					x.w = impl.Settle(x.w, x.r.Intn(4))
				}
				v := askVerdict(t, x.w)
				if v.Premise {
					held++
				}
				if v.Safe != 0 && v.Premise && withinBounds(x.w) {
					t.Fatalf("%s, the seed %d, the turn %d: %+v: %s", what, seed, turn, v, worldTold(x.w))
				}
			}
			for kind := 1; kind <= 9; kind++ {
				c.did[kind], c.not[kind] = c.did[kind]+x.did[kind], c.not[kind]+x.not[kind]
			}
			for _, n := range x.w.Nodes {
				epochs, most = epochs+n.Epoch, max(most, len(n.Done))
			}
		}
	}
	for kind := 1; kind <= 9; kind++ {
		if c.did[kind] < 100 {
			t.Errorf("the kind %d: %d done, %d refused", kind, c.did[kind], c.not[kind])
		}
	}
	if epochs < 300 || most < 8 || held < 800 || parted < 15 {
		t.Errorf("too little happened: %d epochs, %d done, %d times, %d apart", epochs, most, held, parted)
	}
}

// halfFoul: c and d are foul, and half of all; what they say parts a and b.
func halfFoul(t *testing.T) impl.World {
	w := behind(crewWorld("c", "d"), leaveEv(0), leaveEv(1))
	w.Net = nil
	left := tcOf(1, "a b c", 0, 0, 0)
	q := [2]impl.Qc{rootQc(), rootQc()}
	for round := 2; round <= 3; round++ {
		for at := range 2 {
			// To each of the two another chain, of which that one believes that all others voted for it.
			n := w.Nodes[at]
			b := blockFor(n, len(w.Blocks), round, q[at], left, slices.Repeat([]impl.Tx{pay("a", "b", 1, 0)}, at)...)
			w = behind(w, forgeEv(toPlace(w, at, propWord(b))))
			w = behind(w, deliverEv(len(w.Net)-1))
			for _, who := range []string{"c", "d"} {
				w = behind(w, forgeEv(toPlace(w, at, voteWord(round, b.Id, who))))
				w = behind(w, deliverEv(len(w.Net)-1))
			}
			q[at] = qcOf(round, b.Id, string("ab"[at])+" c d")
			w.Net = nil
		}
		left = impl.Tc{}
	}
	if !impl.WorldOk(w) {
		t.Fatalf("no world: %s", worldTold(w))
	}
	return w
}

// Where half is foul, what is certain does part, and Safe sees it.
func TestSafeWhereHalfIsFoul(t *testing.T) {
	w := halfFoul(t)
	v := safeIs(t, "parted", w, 3)
	if v != (verdict{false, true, false, true, 3}) || !slices.Equal(w.Nodes[0].Done, []int{0}) || !slices.Equal(w.Nodes[1].Done, []int{1}) {
		t.Errorf("%+v: %v and %v", v, w.Nodes[0].Done, w.Nodes[1].Done)
	}
}

// A plot is what the foul ones do on purpose: each word comes to whom they like, and is lost to all others.
type plot struct {
	t *testing.T
	w impl.World
}

// does is an event; what is said of it is lost. (The foul ones may say it again: it was signed.)
func (p *plot) does(e impl.Event) bool {
	after, ok := impl.Do(p.w, e)
	after.Net = nil
	p.w = after
	return ok
}

func (p *plot) leads(at int) impl.Block {
	p.t.Helper()
	if !p.does(leadEv(at)) {
		p.t.Fatalf("%d does not lead: %s", at, worldTold(p.w))
	}
	return p.w.Blocks[len(p.w.Blocks)-1]
}

func (p *plot) leave(at ...int) {
	for _, x := range at {
		p.does(leaveEv(x))
	}
}

// tell has the node at this place hear m; false, where that may not be said.
func (p *plot) tell(at int, m impl.Msg) bool {
	after, ok := impl.Do(p.w, forgeEv(toPlace(p.w, at, m)))
	p.w = after
	if ok {
		p.does(deliverEv(0))
	}
	return ok
}

// votes are told to the node at this place, each by itself; it is how many of them may be said.
func (p *plot) votes(at int, b impl.Block, who string) int {
	many := 0
	for _, name := range strings.Fields(who) {
		if p.tell(at, voteWord(b.Round, b.Id, name)) {
			many++
		}
	}
	return many
}

// voters: who signed a vote for this block.
func (p *plot) voters(b impl.Block) string {
	var l []string
	for _, s := range p.w.Signed {
		if s.Kind == 1 && s.What == b.Id {
			l = append(l, s.Who)
		}
	}
	slices.Sort(l)
	return strings.Join(l, " ")
}

func (p *plot) done(at int, want ...int) {
	p.t.Helper()
	if n := p.w.Nodes[at]; !slices.Equal(n.Done, want) {
		p.t.Errorf("what is certain at %s is %v, not %v", n.Name, n.Done, want)
	}
}

func (p *plot) safe() {
	p.t.Helper()
	if v := safeIs(p.t, "a plot", p.w, 0); !v.Premise {
		p.t.Error("too many are foul")
	}
}

// followed: the block is certified, a leads the next round behind it, and that is certified, too, as far as they let themselves be led so.
func (p *plot) followed(b impl.Block, who string) {
	p.votes(1, b, who)
	p.tell(0, shareWord(qcOf(b.Round, b.Id, who), impl.Tc{}, b))
	if p.does(leadEv(0)) {
		next := p.w.Blocks[len(p.w.Blocks)-1]
		p.tell(1, propWord(next))
		p.tell(2, propWord(next))
		p.votes(1, next, "a b c d")
	}
}

// lockedPlot: d is foul. b's block 0 is certain at a, by c's block 1 behind it; c knows the certificate of the block 0, b knows none.
func lockedPlot(t *testing.T) *plot {
	p := &plot{t, crewWorld("d")}
	first := p.leads(1)
	p.tell(0, propWord(first))
	p.tell(2, propWord(first))
	p.leave(1, 2)
	p.votes(2, first, "a b c")
	second := p.leads(2)
	p.tell(0, propWord(second))
	p.votes(0, second, "a c d")
	p.tell(1, shareWord(rootQc(), tcOf(1, "b c d", 0, 0, 0)))
	p.done(0, 0)
	p.done(1)
	if p.voters(second) != "a c" || p.w.Nodes[1].Round != 2 || p.w.Nodes[1].High.Round != 0 {
		t.Fatalf("not so far: %s", worldTold(p.w))
	}
	return p
}

// A block behind the root, once another one is certain: whoever votes for it, and however the round ahead of it was left, it needs one who knew a certificate.
func TestSafeFromABlockBesideWhatIsCertain(t *testing.T) {
	for what, left := range map[string]impl.Tc{"as it was left": tcOf(2, "b c d", 0, 1, 0), "with a lower High": tcOf(2, "b c d", 0, 0, 0), "by too few": tcOf(2, "b d", 0, 0), "by one who did not": tcOf(2, "a b d", 0, 0, 0), "not at all": {}} {
		p := lockedPlot(t)
		// What c knows, it knows behind a reboot, too.
		p.does(rebootEv(2))
		p.leave(1, 2)
		b := blockFor(p.w.Nodes[1], 2, 3, rootQc(), left)
		b.By = "d"
		for at := range 3 {
			p.tell(at, shareWord(rootQc(), left))
			p.tell(at, propWord(b))
		}
		if p.voters(b) != "" {
			t.Errorf("%s: %s voted", what, p.voters(b))
		}
		p.followed(b, "b c d")
		p.done(0, 0)
		p.safe()
	}
}

// Certificates of those who did not sign: nobody may say them.
func TestSafeFromCertificatesOfNobody(t *testing.T) {
	p := lockedPlot(t)
	b := impl.Block{Id: 2, Round: 3, By: "d", Qc: rootQc(), Tc: tcOf(2, "a b c", 0, 0, 0)}
	for _, m := range []impl.Msg{propWord(b), shareWord(qcOf(2, 0, "a b c"), impl.Tc{}), shareWord(qcOf(2, 1, "a b d"), impl.Tc{}), shareWord(rootQc(), tcOf(1, "a b c", 0, 0, 0)), shareWord(rootQc(), tcOf(2, "b c d", 0, 0, 0)), voteWord(2, 1, "b"), goneWord(1, "a", rootQc()), goneWord(2, "b", rootQc())} {
		for at := range 3 {
			if p.tell(at, m) {
				t.Errorf("said: %s", wordTold(m))
			}
		}
	}
	p.safe()
}

// Who left a round does not vote in it any more: else it could have told too low a High.
func TestSafeFromWhoLeftAndVotes(t *testing.T) {
	p := &plot{t, crewWorld("d")}
	first := p.leads(1)
	p.tell(0, propWord(first))
	p.tell(2, propWord(first))
	p.leave(1, 2)
	left := shareWord(rootQc(), tcOf(1, "b c d", 0, 0, 0))
	p.tell(0, left)
	p.tell(1, left)
	p.leave(0, 1)
	p.votes(2, first, "a b c")
	second := p.leads(2)
	p.tell(0, propWord(second))
	if got := p.voters(second); got != "c" || p.votes(0, second, "a c d") != 2 {
		t.Errorf("%s voted", got)
	}
	p.done(0)
	// So the round 2 is left by a, b and d, who know nothing, and what comes behind the root is certain.
	b := blockFor(p.w.Nodes[1], 2, 3, rootQc(), tcOf(2, "a b d", 0, 0, 0))
	for at := range 2 {
		p.tell(at, propWord(b))
	}
	if got := p.voters(b); got != "a b" {
		t.Errorf("%s voted for what follows", got)
	}
	p.followed(b, "a b d")
	p.done(1, 2)
	p.safe()
}

// leftBy: this round is left by these nodes, and by d; they hear it, and are in the next one.
func (p *plot) leftBy(round int, at ...int) {
	p.leave(at...)
	for _, to := range at {
		for _, from := range at {
			n := p.w.Nodes[from]
			for _, s := range p.w.Signed {
				if s.Kind == 2 && s.Round == round && s.Who == n.Name {
					p.tell(to, goneWord(round, n.Name, n.High))
				}
			}
		}
		p.tell(to, goneWord(round, "d", rootQc()))
	}
}

// Two blocks of one round, to each node both: what it voted for, and what it left, it knows also behind a reboot.
func TestSafeFromTwoBlocksOfOneRound(t *testing.T) {
	p := &plot{t, crewWorld("d")}
	p.leftBy(1, 0, 1, 2)
	p.leftBy(2, 0, 1, 2)
	one := blockFor(p.w.Nodes[0], 0, 3, rootQc(), p.w.Nodes[0].Tc)
	two := blockFor(p.w.Nodes[0], 1, 3, rootQc(), p.w.Nodes[0].Tc, pay("a", "b", 1, 0))
	for _, at := range []int{0, 2} {
		p.tell(at, propWord(one))
		p.does(rebootEv(at))
		p.tell(at, propWord(two))
		p.tell(at, propWord(two))
	}
	p.leave(1)
	p.does(rebootEv(1))
	p.tell(1, propWord(one))
	p.tell(1, propWord(two))
	if p.voters(one) != "a c" || p.voters(two) != "" {
		t.Errorf("for the first %q, for the second %q", p.voters(one), p.voters(two))
	}
	for at := range 3 {
		p.votes(at, one, "a b c d")
		p.votes(at, two, "a b c d")
		if n := p.w.Nodes[at]; n.High.Block != one.Id || !slices.Equal(n.High.Who, []string{"a", "c", "d"}) {
			t.Errorf("what is certified: %s", nodeTold(n))
		}
	}
	p.safe()
}

// Two chains beside each other, of which each has its second block two rounds or more behind the first: nothing is certain by either.
func TestSafeFromRoundsLeftOut(t *testing.T) {
	p := &plot{t, crewWorld("d")}
	p.leftBy(1, 0, 1, 2)
	p.leftBy(2, 0, 1, 2)
	one := blockFor(p.w.Nodes[0], 0, 3, rootQc(), p.w.Nodes[0].Tc)
	p.tell(0, propWord(one))
	p.tell(1, propWord(one))
	// b and c leave the rounds 3 and 4, and c knows nothing of the block that b voted for; then a hears of its certificate.
	p.leftBy(3, 1, 2)
	p.leftBy(4, 1, 2)
	p.votes(0, one, "a b d")
	two := p.leads(1)
	p.tell(2, propWord(two))
	p.votes(1, two, "b c d")
	if p.w.Nodes[0].High.Block != one.Id || p.w.Nodes[1].High.Block != two.Id || two.Qc.Round != 0 || two.Round != 5 {
		t.Fatalf("no two chains: %s", worldTold(p.w))
	}
	// a and c leave the round 6, and what d makes in the round 7 comes behind the first one.
	p.tell(0, shareWord(rootQc(), tcOf(4, "b c d", 0, 0, 0)))
	p.leftBy(5, 0, 2)
	p.leftBy(6, 0, 2)
	third := blockFor(p.w.Nodes[0], 2, 7, p.w.Nodes[0].High, p.w.Nodes[0].Tc)
	p.tell(0, propWord(third))
	p.tell(2, shareWord(rootQc(), impl.Tc{}, one))
	p.tell(2, propWord(third))
	if p.votes(0, third, "a c d") != 3 || p.w.Nodes[0].High.Block != third.Id {
		t.Fatalf("the first chain does not go on: %s", worldTold(p.w))
	}
	for at := range 3 {
		p.done(at)
	}
	p.safe()
}

// Of two halves neither decides without the other, with the foul one's help.
func TestSafeFromTwoHalves(t *testing.T) {
	p := &plot{t, worldNewWanted(stakesLedger(10, 10, 10, 10, 10), []string{"e"})}
	for _, half := range [][]int{{2, 3}, {0, 1}} {
		for range 6 {
			for _, at := range half {
				if p.does(leadEv(at)) {
					b := p.w.Blocks[len(p.w.Blocks)-1]
					for _, to := range half {
						p.tell(to, propWord(b))
						p.votes(to, b, "a b c d e")
					}
				}
			}
			round := p.w.Nodes[half[0]].Round
			p.leave(half...)
			for _, to := range half {
				for _, from := range half {
					n := p.w.Nodes[from]
					p.tell(to, goneWord(round, n.Name, n.High))
				}
				p.tell(to, goneWord(round, "e", rootQc()))
			}
		}
	}
	for at := range 4 {
		p.done(at)
		if n := p.w.Nodes[at]; n.Round != 1 {
			t.Errorf("half of them came on: %s", nodeTold(n))
		}
	}
	p.safe()
}

// Up to the bounds of a node all is safe; what passes them is no world any more.
func TestSafeUpToTheBounds(t *testing.T) {
	alone := worldNewWanted(ledgerOf(0, impl.Acct{Name: "a", Free: 50, Stake: 8}), nil)
	w := alone
	for many := 0; len(w.Nodes[0].Done) <= 200 && many < 400; many++ {
		if n := len(w.Nodes[0].Done); many%25 == 0 || n >= 198 {
			safeIs(t, fmt.Sprint(n, " done"), w, 0)
		}
		w = impl.Play(w, []impl.Event{leadEv(0)})
	}
	if v := safeIs(t, "201 done", w, 1); v != (verdict{true, true, true, true, 1}) {
		t.Errorf("%d done: %+v", len(w.Nodes[0].Done), v)
	}
	last := changedWorld(alone, func(w *impl.World) { w.Nodes[0].Round = 9999 })
	for _, want := range []int{0, 0, 1, 1} {
		safeIs(t, "the last rounds", last, want)
		last = impl.Play(last, []impl.Event{leaveEv(0)})
	}
}

// Worlds in which one thing is another one.
func TestSafeOfWorldsSpoilt(t *testing.T) {
	r := rand.New(rand.NewSource(16))
	seen := map[int]int{}
	begin := []impl.World{busyWorld(), nextWorld(), settleWanted(crewWorld("d"), 5), foldWorld(), halfFoul(t)}
	for i := range 6000 {
		w := apartFrom(begin[r.Intn(len(begin))])
		for range 1 + r.Intn(2) {
			x := reflect.ValueOf(&w).Elem()
			if i%3 == 0 && len(w.Nodes) > 0 {
				// What is told of is mostly in a few parts of a node.
				x = reflect.ValueOf(&w.Nodes[r.Intn(len(w.Nodes))]).Elem().FieldByName([]string{"Done", "Base", "Set", "Past"}[r.Intn(4)])
			}
			spoil(r, x)
		}
		seen[askVerdict(t, w).Safe]++
		done := []int{r.Intn(5), r.Intn(5), pick(r, 2, 1, 0, -1, len(w.Blocks), len(w.Blocks)-1, math.MaxInt)}
		askFold(t, w, done[r.Intn(3):]...)
	}
	for number, least := range map[int]int{0: 300, 1: 1000, 2: 1, 3: 100, 4: 100} {
		if seen[number] < least {
			t.Errorf("too few: %v", seen)
		}
	}
}

// Lists of signatures and of what is done, of few values each, so that they often meet.
func TestSafeOfAnything(t *testing.T) {
	r := rand.New(rand.NewSource(61))
	seen := [4]int{}
	for range 6000 {
		w := foldWorld()
		for range r.Intn(8) {
			w.Signed = append(w.Signed, impl.Sig{Kind: 1 + r.Intn(2), Epoch: r.Intn(2), Round: 1 + r.Intn(2), What: r.Intn(2), Who: string("ab"[r.Intn(2)])})
		}
		for at := range w.Nodes {
			var done []int
			for range r.Intn(4) {
				done = append(done, []int{0, 1, 2, 4, 5, 7}[r.Intn(6)])
			}
			l, _ := foldWanted(w, done[:r.Intn(len(done)+1)])
			w.Nodes[at] = changed(newWanted(w.Nodes[at].Name, l), func(n *impl.Node) { n.Done = done })
			if r.Intn(3) == 0 {
				w.Nodes[at].Set = letteredVals(1+r.Intn(9), 1+r.Intn(9), 0, r.Intn(9))
			}
		}
		v, want := verdictOf(w), verdictWanted(w)
		if v != want {
			t.Errorf("%+v, not %+v: %s", v, want, worldTold(w))
		}
		for i, holds := range []bool{v.Premise, v.OneVote, v.Prefix, v.Folded} {
			if holds {
				seen[i]++
			}
		}
	}
	for i, n := range seen {
		if n < 200 || n > 5800 {
			t.Errorf("too few, or too many, of %d: %v", i, seen)
		}
	}
}

// What is written into an answer is seen nowhere else, and no call keeps anything for another.
func TestSafeKeepsNothing(t *testing.T) {
	var calls []keptCall
	for _, w := range []impl.World{busyWorld(), foldWorld(), nextWorld(), wrongWorlds()["Base below 0"], halfFoul(t)} {
		calls = append(calls, safeCall{Deed: "verdict", W: w})
		for _, done := range [][]int{nil, {0}, {0, 1}, {0, 1, 99}, {99}} {
			calls = append(calls, safeCall{Deed: "fold", W: w, Done: done})
		}
	}
	keepNothing(t, calls)
}

// What lies behind the length of a list is neither read nor counted.
func TestSafeReadsNothingBehindLists(t *testing.T) {
	w := apartFrom(nextWorld())
	vote := impl.Sig{Kind: 1, Epoch: 9, Round: 9, Who: "a"}
	other := vote
	other.What = 1
	w.Signed = append(w.Signed, vote, other)[:len(w.Signed)+1]
	w.Nodes[0].Done = append(w.Nodes[0].Done, 2)[:2]
	w.Nodes[1].Done = append(w.Nodes[1].Done, 99, 1)[:2]
	w.Nodes[2].Past = append(w.Nodes[2].Past, impl.Proof{Bs: []impl.Block{endOf(valsTold("d:9"))}})[:1]
	if v := verdictOf(w); v != (verdict{true, true, true, true, 0}) {
		t.Errorf("what lies behind is read: %+v", v)
	}
	if l, ok := impl.Fold(w, []int{0, 1, 99}[:2]); !ok || !sameLedger(l, w.Nodes[0].Base) {
		t.Errorf("what lies behind is folded: %v", l)
	}
}

// Very many signatures, blocks, nodes and Ids are told in no long time.
func TestSafeOfVeryMany(t *testing.T) {
	w := crewWorld("d")
	for i := range 1 << 17 {
		w.Signed = append(w.Signed, impl.Sig{Kind: 1, Epoch: i % 7, Round: i, What: i, Who: "a"})
	}
	if !impl.OneVote(w) || impl.Safe(w) != 0 {
		t.Error("very many votes")
	}
	w.Signed = append(w.Signed, impl.Sig{Kind: 1, Epoch: 0, Round: 0, What: 1, Who: "a"})
	if impl.OneVote(w) || impl.Safe(w) != 2 {
		t.Error("the last of very many votes")
	}
	x := foldWorld()
	x.Nodes = slices.Repeat(x.Nodes, 1<<8)
	if impl.Safe(x) != 1 || !impl.Prefix(x) || !impl.Folded(x) || !impl.Premise(x) {
		t.Error("very many nodes")
	}
	if l, ok := impl.Fold(x, slices.Repeat([]int{5, 2}, 1<<13)); !ok || l.Epoch != 900 {
		t.Error("very many Ids")
	}
	x.Nodes = x.Nodes[:2]
	x.Nodes[0].Done, x.Nodes[1].Done = make([]int, 1<<17), append(make([]int, 1<<17), 1)
	if !impl.Prefix(x) || impl.Safe(x) != 1 {
		t.Error("very many done")
	}
}
