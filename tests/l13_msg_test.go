package tests

import (
	"fmt"
	"math"
	"math/rand"
	"slices"
	"strings"
	"testing"

	"loop.example/g00194/impl"
)

func propWord(b impl.Block) impl.Msg {
	return impl.Msg{Kind: 1, To: "bob", Epoch: b.Epoch, Bs: []impl.Block{b}, Q: rootQc()}
}

func voteWord(round, block int, who string) impl.Msg {
	return impl.Msg{Kind: 2, To: "bob", Epoch: 1, V: impl.Vote{Round: round, Block: block, Who: who}, Q: rootQc()}
}

// goneWord: that who left this round, with the Round of q as High.
func goneWord(round int, who string, q impl.Qc) impl.Msg {
	return impl.Msg{Kind: 3, To: "bob", Epoch: 1, G: impl.Gone{Round: round, High: q.Round, Who: who}, Q: q}
}

func shareWord(q impl.Qc, x impl.Tc, l ...impl.Block) impl.Msg {
	return impl.Msg{Kind: 4, To: "bob", Epoch: 1, Bs: l, Q: q, T: x}
}

func cloneWord(m impl.Msg) impl.Msg {
	m.Bs, m.Q.Who, m.T.Who, m.T.Highs = cloneTree(m.Bs), slices.Clone(m.Q.Who), slices.Clone(m.T.Who), slices.Clone(m.T.Highs)
	return m
}

// withWord is m, changed, and in memory of its own.
func withWord(m impl.Msg, change func(m *impl.Msg)) impl.Msg {
	m = cloneWord(m)
	change(&m)
	return m
}

// inEpoch is m with all of it in another epoch.
func inEpoch(m impl.Msg, epoch int) impl.Msg {
	return withWord(m, func(m *impl.Msg) {
		m.Epoch = epoch
		for i := range m.Bs {
			m.Bs[i].Epoch = epoch
		}
	})
}

// oneOfEach is a word of each kind, with something in each part that the kind names.
func oneOfEach() []impl.Msg {
	return []impl.Msg{propWord(endBlock()), voteWord(3, 7, "ann"), goneWord(6, "ann", qcOf(4, 2, "a b")), shareWord(qcOf(6, 5, "a c"), tcOf(9, "b d", 0, 6), fullTree()...)}
}

func rightWords() []impl.Msg {
	l := append(oneOfEach(), voteWord(1, 0, "a"), voteWord(10000, 100000, "zzzzzzzz"), voteWord(5, 99999, "0"))
	for _, q := range rightCerts() {
		l = append(l, goneWord(max(q.Round+1, 1), "ann", q), goneWord(10000, "9", q))
		for _, x := range rightLefts() {
			l = append(l, shareWord(q, x), shareWord(q, x, nextBlock()), shareWord(q, x, fullTree()...))
		}
	}
	for _, b := range rightBlocks() {
		l = append(l, propWord(b), inEpoch(shareWord(rootQc(), impl.Tc{}, b, b), b.Epoch))
	}
	for _, tree := range rightTrees() {
		m := shareWord(qcOf(9, 9, "a b c"), tcOf(3, "a", 2), cloneTree(tree)...)
		if len(tree) > 0 {
			m.Epoch = tree[0].Epoch
		}
		l = append(l, m)
	}
	return l
}

// rightCerts: that of the root, and others that leave room for a later round.
func rightCerts() []impl.Qc {
	return []impl.Qc{rootQc(), qcOf(1, 0, "a"), qcOf(2, 100000, "a b c"), qcOf(3, 7, ""), qcOf(9999, 0, "zz"), {Round: 9998, Block: 3, Who: longNames(20)}}
}

func rightLefts() []impl.Tc {
	return []impl.Tc{{}, tcOf(1, "a", 0), tcOf(10000, "a b c", 0, 9999, 5), tcOf(7, ""), {Round: 9, Who: longNames(20), Highs: slices.Repeat([]int{8}, 20)}}
}

func certWanted(q impl.Qc) bool {
	if q.Round == 0 {
		return q.Block == -1 && len(q.Who) == 0
	}
	return !outside(q.Round, 1, 10000) && !outside(q.Block, 0, 100000) && namesWanted(q.Who)
}

func leftWanted(x impl.Tc) bool {
	if x.Round == 0 {
		return len(x.Who) == 0 && len(x.Highs) == 0
	}
	bad := slices.ContainsFunc(x.Highs, func(high int) bool { return high < 0 || high >= x.Round })
	return !bad && !outside(x.Round, 1, 10000) && namesWanted(x.Who) && len(x.Highs) == len(x.Who)
}

// wordWanted tells by kind alone what must stand in each part.
func wordWanted(m impl.Msg) bool {
	if !nameWanted(m.To) || outside(m.Epoch, 0, 900) || slices.ContainsFunc(m.Bs, func(b impl.Block) bool { return b.Epoch != m.Epoch || !blockWanted(b) }) {
		return false
	}
	noV, noG, noQ, noT := m.V == impl.Vote{}, m.G == impl.Gone{}, sameQc(m.Q, rootQc()), sameTc(m.T, impl.Tc{})
	switch m.Kind {
	case 1:
		return len(m.Bs) == 1 && noV && noG && noQ && noT
	case 2:
		v := !outside(m.V.Round, 1, 10000) && !outside(m.V.Block, 0, 100000) && nameWanted(m.V.Who)
		return len(m.Bs) == 0 && v && noG && noQ && noT
	case 3:
		g := !outside(m.G.Round, 1, 10000) && m.G.High >= 0 && m.G.High < m.G.Round && nameWanted(m.G.Who)
		return len(m.Bs) == 0 && noV && g && certWanted(m.Q) && m.Q.Round == m.G.High && noT
	case 4:
		return len(m.Bs) <= 400 && noV && noG && certWanted(m.Q) && leftWanted(m.T)
	}
	return false
}

func sigsWanted(m impl.Msg) []impl.Sig {
	var l []impl.Sig
	certs := func(q impl.Qc, x impl.Tc) {
		for _, who := range q.Who {
			l = append(l, impl.Sig{Kind: 1, Epoch: m.Epoch, Round: q.Round, What: q.Block, Who: who})
		}
		highs := append(slices.Clone(x.Highs), make([]int, len(x.Who))...)
		for i, who := range x.Who {
			l = append(l, impl.Sig{Kind: 2, Epoch: m.Epoch, Round: x.Round, What: highs[i], Who: who})
		}
	}
	if m.Kind == 2 || m.V.Round != 0 || m.V.Block != 0 || m.V.Who != "" {
		certs(impl.Qc{Round: m.V.Round, Block: m.V.Block, Who: []string{m.V.Who}}, impl.Tc{})
	}
	if m.Kind == 3 || m.G.Round != 0 || m.G.High != 0 || m.G.Who != "" {
		certs(impl.Qc{}, impl.Tc{Round: m.G.Round, Who: []string{m.G.Who}, Highs: []int{m.G.High}})
	}
	certs(m.Q, m.T)
	for _, b := range m.Bs {
		certs(b.Qc, b.Tc)
	}
	return l
}

func signedWanted(table []impl.Sig, foul []string, m impl.Msg) bool {
	for _, s := range sigsWanted(m) {
		if !slices.Contains(table, s) && !slices.Contains(foul, s.Who) {
			return false
		}
	}
	return true
}

func wordTold(m impl.Msg) string { return fmt.Sprintf("%.700s", fmt.Sprintf("%+v", m)) }

// checkWord holds all that a word answers against what is wanted, and answers whether it is right.
func checkWord(t *testing.T, m impl.Msg) bool {
	t.Helper()
	want := wordWanted(m)
	if got := impl.MsgOk(m); got != want {
		t.Errorf("MsgOk(%s): %v", wordTold(m), got)
	}
	sigs := sigsWanted(m)
	if got := impl.SigsOf(m); !slices.Equal(got, sigs) {
		t.Errorf("SigsOf(%s): %.700v, not %.700v", wordTold(m), fmt.Sprint(got), fmt.Sprint(sigs))
	}
	checkSigned(t, sigs, nil, m)
	checkSigned(t, nil, nil, m)
	checkSigned(t, nil, signersOf(sigs), m)
	checkSigned(t, sigs[:len(sigs)/2], nil, m)
	return want
}

func checkSigned(t *testing.T, table []impl.Sig, foul []string, m impl.Msg) bool {
	t.Helper()
	got := impl.Signed(table, foul, m)
	if got != signedWanted(table, foul, m) {
		t.Errorf("Signed(%.500v, %.300q, %s): %v", fmt.Sprint(table), foul, wordTold(m), got)
	}
	return got
}

// signersOf: who signed, each once, ascending.
func signersOf(l []impl.Sig) []string {
	var who []string
	for _, s := range l {
		who = append(who, s.Who)
	}
	slices.Sort(who)
	return slices.Compact(who)
}

// sigsTold: "v3/7/a" is a vote of a in the round 3 for the block 7, "g3/2/a" that a left the round 3 with the High 2; all of one epoch.
func sigsTold(epoch int, s string) []impl.Sig {
	var l []impl.Sig
	for _, word := range strings.Fields(s) {
		kind := map[byte]int{'v': 1, 'g': 2}[word[0]]
		told(word[1:], func(round, what int, who string) {
			l = append(l, impl.Sig{Kind: kind, Epoch: epoch, Round: round, What: what, Who: who})
		})
	}
	return l
}

func TestWordKinds(t *testing.T) {
	if got := []int{impl.MsgProp, impl.MsgVote, impl.MsgGone, impl.MsgShare, impl.SigVote, impl.SigGone}; !slices.Equal(got, []int{1, 2, 3, 4, 1, 2}) {
		t.Error(got)
	}
	for _, m := range oneOfEach() {
		for _, kind := range append(greatNumbers(), -1, 0, 1, 2, 3, 4, 5, 6, 257, 258, 259, 260) {
			// One block with nothing else is as well a share.
			if checkWord(t, withWord(m, func(x *impl.Msg) { x.Kind = kind })) != (kind == m.Kind || kind == 4 && m.Kind == 1) {
				t.Errorf("the kind %d for %d", kind, m.Kind)
			}
		}
	}
}

func TestWordsRight(t *testing.T) {
	for _, m := range rightWords() {
		if !checkWord(t, m) || !impl.MsgOk(m) {
			t.Errorf("not right: %s", wordTold(m))
		}
	}
}

func TestWordsTo(t *testing.T) {
	for _, m := range oneOfEach() {
		for _, name := range []string{"a", "z", "0", "9", "a0z9", "abcdefgh", "00000000", "ann"} {
			if m.To = name; !checkWord(t, m) {
				t.Errorf("to %q: %s", name, wordTold(m))
			}
		}
		for _, name := range noNames() {
			if m.To = name; checkWord(t, m) || impl.MsgOk(m) {
				t.Errorf("to %.20q: %s", name, wordTold(m))
			}
		}
	}
}

func TestWordsEpochs(t *testing.T) {
	for _, m := range append(oneOfEach(), shareWord(rootQc(), impl.Tc{})) {
		for epoch, want := range map[int]bool{-2: false, -1: false, 0: true, 1: true, 2: true, 899: true, 900: true, 901: false, 902: false} {
			if checkWord(t, inEpoch(m, epoch)) != want {
				t.Errorf("the Epoch %d: %s", epoch, wordTold(m))
			}
		}
		for _, epoch := range greatNumbers() {
			if checkWord(t, inEpoch(m, epoch)) || impl.MsgOk(inEpoch(m, epoch)) {
				t.Errorf("the Epoch %d: %s", epoch, wordTold(m))
			}
		}
	}
}

// A block of another epoch than the word's is in no word, at whatever place it stands.
func TestWordsBlocksOfAnotherEpoch(t *testing.T) {
	for _, epoch := range []int{0, 1, 2, 899, 900} {
		for _, other := range []int{0, 1, 2, 899, 900, 901, -1} {
			for _, m := range []impl.Msg{propWord(nextBlock()), shareWord(qcOf(2, 1, "a"), impl.Tc{}, fullTree()...)} {
				m = inEpoch(m, epoch)
				for at := range m.Bs {
					if checkWord(t, withWord(m, func(m *impl.Msg) { m.Bs[at].Epoch = other })) != (epoch == other) {
						t.Errorf("in the Epoch %d the %d-th of %d blocks of the Epoch %d", epoch, at, len(m.Bs), other)
					}
				}
				if all := withWord(inEpoch(m, other), func(m *impl.Msg) { m.Epoch = epoch }); checkWord(t, all) != (epoch == other) {
					t.Errorf("in the Epoch %d all blocks of the Epoch %d", epoch, other)
				}
			}
		}
	}
}

func TestWordsVotes(t *testing.T) {
	for round, want := range map[int]bool{-1: false, 0: false, 1: true, 2: true, 9999: true, 10000: true, 10001: false, 10002: false} {
		for block, fits := range map[int]bool{-2: false, -1: false, 0: true, 1: true, 99999: true, 100000: true, 100001: false, 100002: false} {
			if checkWord(t, voteWord(round, block, "ann")) != (want && fits) {
				t.Errorf("a vote in the round %d for the block %d", round, block)
			}
		}
	}
	for _, n := range greatNumbers() {
		if checkWord(t, voteWord(n, 7, "ann")) || checkWord(t, voteWord(3, outsideOf(n, 0, 100000), "ann")) || checkWord(t, voteWord(n, n, "ann")) {
			t.Errorf("a vote with %d", n)
		}
	}
	for _, name := range noNames() {
		if m := voteWord(3, 7, name); checkWord(t, m) || impl.MsgOk(m) {
			t.Errorf("a vote of %.20q", name)
		}
	}
	// Whom it goes to need not be another than who voted: nothing asks for that.
	if !checkWord(t, voteWord(3, 7, "bob")) || checkWord(t, withWord(voteWord(3, 7, "ann"), func(m *impl.Msg) { m.V = impl.Vote{} })) {
		t.Error("a vote to oneself, and no vote")
	}
}

func TestWordsGones(t *testing.T) {
	for round, want := range map[int]bool{-1: false, 0: false, 1: true, 2: true, 9999: true, 10000: true, 10001: false, 10002: false} {
		for _, high := range []int{-1, 0, 1, round - 2, round - 1, round, round + 1} {
			q := qcOf(high, 7, "a b")
			if high == 0 {
				q = rootQc()
			}
			if checkWord(t, goneWord(round, "ann", q)) != (want && high >= 0 && high < round) {
				t.Errorf("the round %d left with the High %d", round, high)
			}
		}
	}
	for _, n := range greatNumbers() {
		for _, m := range []impl.Msg{goneWord(n, "ann", rootQc()), goneWord(n, "ann", qcOf(1, 0, "a")), goneWord(6, "ann", qcOf(n, 0, "a")), goneWord(n, "ann", qcOf(n, 0, "a")), goneWord(n, "ann", qcOf(n-1, 0, "a"))} {
			if checkWord(t, m) || impl.MsgOk(m) {
				t.Errorf("right: %s", wordTold(m))
			}
		}
	}
	for _, name := range noNames() {
		for _, q := range []impl.Qc{rootQc(), qcOf(4, 2, "a b")} {
			if m := goneWord(6, name, q); checkWord(t, m) || impl.MsgOk(m) {
				t.Errorf("left by %.20q", name)
			}
		}
	}
}

// The certificate is that of the High: of another round it is none, even where both are right by themselves.
func TestWordsGonesHighAndCertificate(t *testing.T) {
	for high := range 8 {
		for round := range 8 {
			q := qcOf(round, 3, "a b c")
			if round == 0 {
				q = rootQc()
			}
			m := goneWord(6, "ann", q)
			m.G.High = high
			if checkWord(t, m) != (high == round && high < 6) {
				t.Errorf("the High %d with a certificate of the round %d", high, round)
			}
		}
	}
	// High 0 is that of the root's certificate alone.
	for _, q := range []impl.Qc{{}, {Block: 0}, {Block: 1}, {Block: -2}, qcOf(0, -1, "a"), qcOf(0, 0, "a"), qcOf(0, 3, "a b c"), {Block: -1, Who: []string{""}}} {
		if m := goneWord(6, "ann", q); checkWord(t, m) || impl.MsgOk(m) {
			t.Errorf("High 0 with %+v", q)
		}
	}
	for _, q := range []impl.Qc{rootQc(), {Block: -1, Who: []string{}}, {Block: -1, Who: []string{"a"}[:0]}} {
		if !checkWord(t, goneWord(1, "ann", q)) || !checkWord(t, goneWord(10000, "ann", q)) {
			t.Errorf("High 0 with %+v", q)
		}
	}
}

func TestWordsHowManyBlocks(t *testing.T) {
	one := nextBlock()
	for n, want := range map[int]map[int]bool{0: {2: true, 3: true, 4: true}, 1: {1: true, 4: true}, 2: {4: true}, 3: {4: true}, 9: {4: true}, 399: {4: true}, 400: {4: true}, 401: {}, 402: {}, 1000: {}} {
		for _, m := range oneOfEach() {
			m.Bs = slices.Repeat([]impl.Block{one}, n)
			if checkWord(t, m) != want[m.Kind] {
				t.Errorf("%d blocks in a word of the kind %d", n, m.Kind)
			}
		}
	}
	for n, want := range map[int]bool{398: true, 399: true, 400: true, 401: false} {
		for _, tree := range [][]impl.Block{rowTold(n), bushTold(n)} {
			if m := inEpoch(shareWord(qcOf(400, 399, "a b c"), impl.Tc{}, tree...), 0); checkWord(t, m) != want {
				t.Errorf("a share of %d blocks", n)
			}
		}
	}
}

func TestWordsOfBlocksNotRight(t *testing.T) {
	good := with(nextBlock(), func(b *impl.Block) { b.Id = 9 })
	for _, b := range wrongBlocks() {
		for _, m := range []impl.Msg{propWord(b), shareWord(rootQc(), impl.Tc{}, b), shareWord(rootQc(), impl.Tc{}, good, b), shareWord(rootQc(), impl.Tc{}, b, good), shareWord(rootQc(), impl.Tc{}, good, b, good)} {
			// That they are of another epoch is no fault of the block itself.
			epoch := b.Epoch
			if outside(epoch, 0, 900) {
				epoch = 1
			}
			m.Epoch = epoch
			for i := range m.Bs {
				if m.Bs[i].Id == 9 {
					m.Bs[i].Epoch = epoch
				}
			}
			if impl.MsgOk(m) || wordWanted(m) {
				t.Errorf("right: %s", wordTold(m))
			}
			if !slices.Equal(impl.SigsOf(m), sigsWanted(m)) {
				t.Errorf("SigsOf(%s): %v", wordTold(m), impl.SigsOf(m))
			}
		}
	}
}

// The blocks of a share are asked one by one: whether they are a tree, in order, or one of them stands there twice, another chapter asks.
func TestWordsSharesThatAreNoTrees(t *testing.T) {
	shares := 0
	for _, tree := range oddTrees() {
		m := shareWord(qcOf(2, 1, "a"), impl.Tc{}, cloneTree(tree)...)
		m.Epoch = tree[0].Epoch
		if checkWord(t, m) {
			shares++
		}
	}
	if shares < 10 {
		t.Error("too few are right:", shares)
	}
	back := fullTree()
	slices.Reverse(back)
	for _, l := range [][]impl.Block{back, append(fullTree(), fullTree()...), fullTree()[2:], {endBlock(), endBlock()}} {
		if m := shareWord(rootQc(), impl.Tc{}, l...); !checkWord(t, m) {
			t.Errorf("not right: %s", wordTold(m))
		}
	}
}

// Q stands in a word as in a block, but with no block's Round and Id above it.
func TestWordsCertificates(t *testing.T) {
	for _, q := range rightCerts() {
		if !checkWord(t, goneWord(10000, "ann", q)) || !checkWord(t, shareWord(q, impl.Tc{})) {
			t.Errorf("not right: %+v", q)
		}
	}
	for round, want := range map[int]bool{-1: false, 0: false, 1: true, 2: true, 9999: true, 10000: true, 10001: false, 10002: false} {
		for block, fits := range map[int]bool{-2: false, -1: false, 0: true, 1: true, 99999: true, 100000: true, 100001: false, 100002: false} {
			for _, who := range []string{"", "a", "a b c"} {
				q := qcOf(round, block, who)
				root := round == 0 && block == -1 && who == ""
				if checkWord(t, shareWord(q, impl.Tc{})) != (want && fits || root) || checkWord(t, shareWord(q, tcOf(3, "a", 1), fullTree()...)) != (want && fits || root) {
					t.Errorf("a share with %+v", q)
				}
				if checkWord(t, goneWord(10000, "ann", q)) != (want && fits && round < 10000 || root) {
					t.Errorf("a round left with %+v", q)
				}
			}
		}
	}
	for _, n := range greatNumbers() {
		for _, q := range []impl.Qc{qcOf(n, 0, "a"), qcOf(n, -1, ""), qcOf(3, outsideOf(n, 0, 100000), "a"), qcOf(n, n, "a"), qcOf(0, n, ""), qcOf(0, n, "a")} {
			if checkWord(t, shareWord(q, impl.Tc{})) || checkWord(t, goneWord(10000, "ann", q)) {
				t.Errorf("right: %+v", q)
			}
		}
	}
}

func TestWordsNamesOfCerts(t *testing.T) {
	for who, want := range map[string]bool{
		"": true, "a": true, "a b": true, "a ab b": true, "0 9 a z": true, "b a": false, "a a": false, "a b b": false, "a c b": false, "ab a": false, "a B": false, "a abcdefghi": false, "A": false, "a- b": false, "c b a": false,
	} {
		x := tcOf(4, who, make([]int, len(strings.Fields(who)))...)
		if checkWord(t, goneWord(6, "ann", qcOf(4, 2, who))) != want || checkWord(t, shareWord(qcOf(4, 2, who), impl.Tc{})) != want || checkWord(t, shareWord(rootQc(), x)) != want {
			t.Errorf("named: %q", who)
		}
	}
	for n := range 24 {
		names := manyNames(n)
		q, x := impl.Qc{Round: 4, Block: 2, Who: names}, impl.Tc{Round: 4, Who: names, Highs: make([]int, n)}
		if checkWord(t, goneWord(6, "ann", q)) != (n <= 20) || checkWord(t, shareWord(q, impl.Tc{})) != (n <= 20) || checkWord(t, shareWord(rootQc(), x)) != (n <= 20) {
			t.Errorf("%d names", n)
		}
	}
	for _, name := range noNames() {
		q, x := impl.Qc{Round: 4, Block: 2, Who: []string{name}}, impl.Tc{Round: 4, Who: []string{name}, Highs: []int{0}}
		if checkWord(t, goneWord(6, "ann", q)) || checkWord(t, shareWord(q, impl.Tc{})) || checkWord(t, shareWord(rootQc(), x)) {
			t.Errorf("named: %.20q", name)
		}
	}
}

func TestWordsTcs(t *testing.T) {
	for _, x := range rightLefts() {
		if !checkWord(t, shareWord(rootQc(), x)) || !checkWord(t, shareWord(qcOf(9, 9, "a"), x, fullTree()...)) {
			t.Errorf("not right: %+v", x)
		}
	}
	for round, want := range map[int]bool{-1: false, 0: false, 1: true, 2: true, 9999: true, 10000: true, 10001: false, 10002: false} {
		for high, fits := range map[int]bool{-2: false, -1: false, 0: true, round - 1: true, round: false, round + 1: false} {
			for at := range 3 {
				x := tcOf(round, "a b c", 0, 0, 0)
				x.Highs[at] = high
				if checkWord(t, shareWord(rootQc(), x)) != (want && fits) {
					t.Errorf("a share with %+v", x)
				}
			}
		}
	}
	for names := range 5 {
		for highs := range 7 {
			for _, round := range []int{0, 3} {
				x := impl.Tc{Round: round, Who: manyNames(names), Highs: make([]int, highs)}
				if checkWord(t, shareWord(qcOf(2, 1, "a"), x)) != (names == highs && (round > 0 || names == 0)) {
					t.Errorf("a share with %+v", x)
				}
			}
		}
	}
	for _, n := range greatNumbers() {
		for _, x := range []impl.Tc{tcOf(n, "a", 0), tcOf(n, ""), tcOf(3, "a", n), tcOf(n, "a", n-1), tcOf(0, "", n), tcOf(0, "a", n)} {
			if checkWord(t, shareWord(rootQc(), x)) {
				t.Errorf("right: %+v", x)
			}
		}
	}
}

// unnamed: changes of a part, each told by the part; V, G and Bs are not zero behind them, Q is not the root's, T is not none.
func unnamed() map[string]func(m *impl.Msg) {
	return map[string]func(m *impl.Msg){
		"V whole": func(m *impl.Msg) { m.V = impl.Vote{Round: 3, Block: 7, Who: "ann"} }, "V.Round": func(m *impl.Msg) { m.V.Round = 1 }, "V.Round below 0": func(m *impl.Msg) { m.V.Round = -1 }, "V.Block": func(m *impl.Msg) { m.V.Block = 1 }, "V.Block of the root": func(m *impl.Msg) { m.V.Block = -1 }, "V.Who": func(m *impl.Msg) { m.V.Who = "a" },
		"G whole": func(m *impl.Msg) { m.G = impl.Gone{Round: 3, High: m.Q.Round, Who: "ann"} }, "G.Round": func(m *impl.Msg) { m.G.Round = 1 }, "G.Round below 0": func(m *impl.Msg) { m.G.Round = -1 }, "G.High": func(m *impl.Msg) { m.G.High = 1 }, "G.High below 0": func(m *impl.Msg) { m.G.High = -1 }, "G.Who": func(m *impl.Msg) { m.G.Who = "a" },
		"Q whole": func(m *impl.Msg) { m.Q = qcOf(2, 1, "a b") }, "Q zero": func(m *impl.Msg) { m.Q = impl.Qc{} }, "Q.Round": func(m *impl.Msg) { m.Q.Round = 1 }, "Q.Block": func(m *impl.Msg) { m.Q.Block = 0 }, "Q.Block below the root's": func(m *impl.Msg) { m.Q.Block = -2 }, "Q.Who": func(m *impl.Msg) { m.Q.Who = []string{"a"} }, "Q.Who of nothing": func(m *impl.Msg) { m.Q.Who = []string{""} },
		"T whole": func(m *impl.Msg) { m.T = tcOf(3, "a b", 0, 2) }, "T.Round": func(m *impl.Msg) { m.T.Round = 1 }, "T.Who": func(m *impl.Msg) { m.T.Who = []string{"a"} }, "T.Highs": func(m *impl.Msg) { m.T.Highs = []int{0} }, "T.Who of nothing": func(m *impl.Msg) { m.T.Who = []string{""} },
		"Bs whole": func(m *impl.Msg) { m.Bs = append(m.Bs, nextBlock()) }, "Bs of nothing": func(m *impl.Msg) { m.Bs = append(m.Bs, impl.Block{}) },
	}
}

// What a kind does not name is zero; each part in turn is not.
func TestWordsPartsNotNamed(t *testing.T) {
	names := map[int]string{1: "", 2: "V", 3: "GQ", 4: "BQT"}
	for _, m := range append(oneOfEach(), propWord(firstBlock()), voteWord(1, 0, "a"), goneWord(1, "a", rootQc()), shareWord(rootQc(), impl.Tc{})) {
		if !checkWord(t, m) {
			t.Fatalf("not right: %s", wordTold(m))
		}
		for what, change := range unnamed() {
			x := withWord(m, change)
			if got := checkWord(t, x); got && !strings.Contains(names[m.Kind], what[:1]) {
				t.Errorf("%s in a word of the kind %d: right", what, m.Kind)
			}
		}
	}
}

func TestWordsEmptyListsAndNil(t *testing.T) {
	for _, m := range []impl.Msg{propWord(firstBlock()), voteWord(1, 0, "a"), goneWord(1, "a", rootQc()), shareWord(rootQc(), impl.Tc{})} {
		empty := withWord(m, func(m *impl.Msg) {
			m.Q.Who, m.T.Who, m.T.Highs = []string{}, []string{"a"}[:0], []int{7}[:0]
			if len(m.Bs) == 0 {
				m.Bs = []impl.Block{nextBlock()}[:0]
			}
		})
		if !checkWord(t, m) || !checkWord(t, empty) || !slices.Equal(impl.SigsOf(m), impl.SigsOf(empty)) {
			t.Errorf("an empty list and nil: %s", wordTold(m))
		}
	}
}

func TestSigsKnown(t *testing.T) {
	for what, x := range map[string]struct {
		m    impl.Msg
		want string
	}{
		"a vote":                            {voteWord(3, 7, "ann"), "v3/7/ann"},
		"the first vote":                    {voteWord(1, 0, "a"), "v1/0/a"},
		"a round left with the root's":      {goneWord(6, "ann", rootQc()), "g6/0/ann"},
		"a round left":                      {goneWord(6, "ann", qcOf(4, 2, "a b")), "g6/4/ann v4/2/a v4/2/b"},
		"a round left, knowing one's own":   {goneWord(6, "a", qcOf(4, 2, "a b")), "g6/4/a v4/2/a v4/2/b"},
		"a round left, of nobody":           {goneWord(6, "ann", qcOf(4, 2, "")), "g6/4/ann"},
		"a block behind the root":           {propWord(firstBlock()), ""},
		"a block":                           {propWord(nextBlock()), "v5/2/a v5/2/b v5/2/c"},
		"a block behind rounds left out":    {propWord(leftBlock()), "v3/2/a v3/2/b v3/2/c g5/1/a g5/3/c g5/0/d"},
		"an end":                            {propWord(endBlock()), "v3/2/a v3/2/b v3/2/c g5/1/a g5/3/c g5/0/d"},
		"nothing shared":                    {shareWord(rootQc(), impl.Tc{}), ""},
		"a certificate shared":              {shareWord(qcOf(6, 5, "a c"), impl.Tc{}), "v6/5/a v6/5/c"},
		"a Tc shared":                       {shareWord(rootQc(), tcOf(9, "b d", 0, 6)), "g9/0/b g9/6/d"},
		"both shared":                       {shareWord(qcOf(6, 5, "z0"), tcOf(9, "a0", 6)), "v6/5/z0 g9/6/a0"},
		"a block shared":                    {shareWord(rootQc(), impl.Tc{}, nextBlock()), "v5/2/a v5/2/b v5/2/c"},
		"a block with both":                 {shareWord(qcOf(6, 4, "x y"), tcOf(8, "w", 6), nextBlock()), "v6/4/x v6/4/y g8/6/w v5/2/a v5/2/b v5/2/c"},
		"several blocks":                    {shareWord(qcOf(7, 5, "x"), impl.Tc{}, fullTree()...), "v7/5/x v1/0/a v1/0/b v1/0/d v3/2/a v3/2/b v3/2/c g5/1/a g5/3/c g5/0/d v6/4/b v6/4/c v6/4/d g5/1/a g5/3/c g5/0/d"},
		"blocks out of order":               {inEpoch(shareWord(rootQc(), impl.Tc{}, leftBlock(), firstBlock(), nextBlock()), 2), "v3/2/a v3/2/b v3/2/c g5/1/a g5/3/c g5/0/d v5/2/a v5/2/b v5/2/c"},
		"what is signed twice stands twice": {shareWord(qcOf(5, 2, "a b c"), tcOf(5, "a c d", 1, 3, 0), nextBlock(), nextBlock(), leftBlock()), "v5/2/a v5/2/b v5/2/c g5/1/a g5/3/c g5/0/d v5/2/a v5/2/b v5/2/c v5/2/a v5/2/b v5/2/c v3/2/a v3/2/b v3/2/c g5/1/a g5/3/c g5/0/d"},
	} {
		if got := impl.SigsOf(x.m); !slices.Equal(got, sigsTold(x.m.Epoch, x.want)) {
			t.Errorf("%s: %v, not %s", what, got, x.want)
		}
		if !checkWord(t, x.m) {
			t.Errorf("not right: %s", what)
		}
	}
}

// All signatures are of the word's epoch, also where a block of it (which is then not right there) tells another one.
func TestSigsAreOfTheWordsEpoch(t *testing.T) {
	for _, m := range oneOfEach() {
		for _, epoch := range append(greatNumbers(), 0, 1, 2, 900, 901, -1) {
			for _, x := range []impl.Msg{inEpoch(m, epoch), withWord(m, func(m *impl.Msg) { m.Epoch = epoch })} {
				got := impl.SigsOf(x)
				if len(got) != len(impl.SigsOf(m)) || slices.ContainsFunc(got, func(s impl.Sig) bool { return s.Epoch != epoch }) {
					t.Errorf("the Epoch %d: %v", epoch, got)
				}
				if epoch != m.Epoch && impl.Signed(impl.SigsOf(m), nil, x) {
					t.Errorf("signed in the Epoch %d by those of %d: %s", epoch, m.Epoch, wordTold(m))
				}
			}
		}
	}
}

// No kind is told apart in what is signed: what stands in V and G counts in each, as what stands in Q, T and blocks does.
func TestSigsOfEachKind(t *testing.T) {
	v, g := impl.Vote{Round: 2, Block: 8, Who: "v"}, impl.Gone{Round: 9, High: 6, Who: "g"}
	all := impl.Msg{To: "bob", Epoch: 1, Bs: []impl.Block{nextBlock()}, Q: qcOf(6, 4, "x"), T: tcOf(8, "w", 6)}
	rest := " v6/4/x g8/6/w v5/2/a v5/2/b v5/2/c"
	for _, kind := range []int{1, 2, 3, 4, 0, 5, -1, math.MaxInt, math.MinInt} {
		all.Kind = kind
		for _, x := range []struct {
			v    impl.Vote
			g    impl.Gone
			want string
		}{{v, g, "v2/8/v g9/6/g"}, {v, impl.Gone{}, "v2/8/v"}, {impl.Vote{}, g, "g9/6/g"}, {impl.Vote{}, impl.Gone{}, ""}} {
			// A vote, or a leaving, that is zero in a word of its own kind is asked elsewhere.
			if kind == 2 && x.v.Who == "" || kind == 3 && x.g.Who == "" {
				continue
			}
			all.V, all.G = x.v, x.g
			if got := impl.SigsOf(all); !slices.Equal(got, sigsTold(1, x.want+rest)) || checkWord(t, all) != (kind == 4 && x.want == "") {
				t.Errorf("the kind %d: %v, not %s", kind, got, x.want+rest)
			}
			checkEachAsked(t, all)
		}
	}
}

// checkEachAsked: with one signature less in the table, the word is not signed, but by a foul one.
func checkEachAsked(t *testing.T, m impl.Msg) {
	t.Helper()
	sigs := sigsWanted(m)
	for i, s := range sigs {
		rest := slices.Delete(slices.Clone(sigs), i, i+1)
		if !checkSigned(t, sigs, nil, m) || checkSigned(t, rest, nil, m) || !checkSigned(t, rest, []string{s.Who}, m) {
			t.Errorf("%s: signed without %v, or not by a foul one", wordTold(m), s)
		}
	}
}

// One part that is not zero is enough for a vote, or a leaving, to stand in a word.
func TestSigsOfPartsOfVotes(t *testing.T) {
	for kind := range 6 {
		for _, n := range []int{1, -1, 10000, math.MaxInt, math.MinInt} {
			m := impl.Msg{Kind: kind, To: "bob", Epoch: 3, Q: rootQc()}
			for _, v := range []impl.Vote{{Round: n}, {Block: n}, {Who: "a"}} {
				m.V, m.G = v, impl.Gone{}
				if got := impl.SigsOf(m); checkWord(t, m) || !slices.Contains(got, impl.Sig{Kind: 1, Epoch: 3, Round: v.Round, What: v.Block, Who: v.Who}) {
					t.Errorf("the kind %d, %+v: %v", kind, v, got)
				}
			}
			for _, g := range []impl.Gone{{Round: n}, {High: n}, {Who: "a"}} {
				m.V, m.G = impl.Vote{}, g
				if got := impl.SigsOf(m); checkWord(t, m) || !slices.Contains(got, impl.Sig{Kind: 2, Epoch: 3, Round: g.Round, What: g.High, Who: g.Who}) {
					t.Errorf("the kind %d, %+v: %v", kind, g, got)
				}
			}
		}
	}
}

// someTable has signatures that are in none of the words, and each of these with one part that is another.
func someTable(l []impl.Sig) []impl.Sig {
	table := sigsTold(1, "v1/1/q g1/0/q v10000/100000/q")
	for _, s := range l {
		table = append(table, apartSigs(s)...)
	}
	return slices.DeleteFunc(table, func(s impl.Sig) bool { return slices.Contains(l, s) })
}

// apartSigs: each differs from s in one part alone.
func apartSigs(s impl.Sig) []impl.Sig {
	l := []impl.Sig{s, s, s, s, s, s, s, s, s, s, s, s, s}
	l[0].Kind, l[1].Kind, l[2].Kind = 3-s.Kind, 0, s.Kind+2
	l[3].Epoch, l[4].Epoch = s.Epoch+1, s.Epoch-1
	l[5].Round, l[6].Round = s.Round+1, s.Round-1
	l[7].What, l[8].What = s.What+1, s.What-1
	l[9].Who, l[10].Who, l[11].Who, l[12].Who = s.Who+"0", "0"+s.Who, "", strings.ToUpper(s.Who)
	return l
}

func TestSignedByTheTable(t *testing.T) {
	r := rand.New(rand.NewSource(41))
	for _, m := range rightWords() {
		sigs := impl.SigsOf(m)
		others := someTable(sigs)
		if len(others) > 400 {
			others = others[:400]
		}
		table := append(slices.Clone(sigs), others...)
		r.Shuffle(len(table), func(i, j int) { table[i], table[j] = table[j], table[i] })
		if !checkSigned(t, sigs, nil, m) || !checkSigned(t, table, nil, m) || !checkSigned(t, append(table, table...), nil, m) {
			t.Errorf("not signed: %s", wordTold(m))
		}
		if checkSigned(t, nil, nil, m) != (len(sigs) == 0) || checkSigned(t, others, nil, m) != (len(sigs) == 0) {
			t.Errorf("signed by none of it: %s", wordTold(m))
		}
	}
}

// Without any one of them the word is not signed, unless that one is of a foul one.
func TestSignedAllButOne(t *testing.T) {
	for _, m := range append(oneOfEach(), propWord(fullBlock()), shareWord(qcOf(5, 2, "a b c"), tcOf(5, "a c d", 1, 3, 0), nextBlock(), leftBlock(), endBlock())) {
		sigs := impl.SigsOf(m)
		for _, lacks := range sigs {
			rest := slices.DeleteFunc(slices.Clone(sigs), func(s impl.Sig) bool { return s == lacks })
			apart := append(slices.Clone(rest), apartSigs(lacks)...)
			apart = slices.DeleteFunc(apart, func(s impl.Sig) bool { return s == lacks })
			for _, table := range [][]impl.Sig{rest, apart, slices.Repeat(rest, 3)} {
				if checkSigned(t, table, nil, m) || checkSigned(t, table, []string{"q", "bob0", lacks.Who + "0", strings.ToUpper(lacks.Who), ""}, m) {
					t.Errorf("signed without %v: %s", lacks, wordTold(m))
				}
				for _, foul := range [][]string{{lacks.Who}, {"q", lacks.Who}, {lacks.Who, lacks.Who}, {"", "Z", lacks.Who, "0"}} {
					if !checkSigned(t, table, foul, m) {
						t.Errorf("not signed although %q is foul: %s", lacks.Who, wordTold(m))
					}
				}
			}
		}
	}
}

// One that differs from what is signed in one part alone does not stand for it.
func TestSignedOnePartApart(t *testing.T) {
	for _, m := range []impl.Msg{voteWord(3, 7, "ann"), voteWord(1, 0, "a"), goneWord(6, "ann", rootQc()), goneWord(6, "ann", qcOf(4, 2, "")), propWord(with(nextBlock(), func(b *impl.Block) { b.Qc.Who = []string{"c"} })), shareWord(rootQc(), tcOf(5, "a", 3)), shareWord(qcOf(5, 2, "a"), impl.Tc{})} {
		sigs := impl.SigsOf(m)
		if len(sigs) != 1 {
			t.Fatalf("%s: %v", wordTold(m), sigs)
		}
		for _, s := range apartSigs(sigs[0]) {
			if checkSigned(t, []impl.Sig{s}, nil, m) || checkSigned(t, []impl.Sig{s, {}, s}, []string{s.Who + "x"}, m) {
				t.Errorf("%s: signed by %v", wordTold(m), s)
			}
		}
		if checkSigned(t, apartSigs(sigs[0]), nil, m) || !checkSigned(t, append(apartSigs(sigs[0]), sigs[0]), nil, m) || !checkSigned(t, slices.Insert(apartSigs(sigs[0]), 0, sigs[0]), nil, m) {
			t.Errorf("%s by its likes", wordTold(m))
		}
	}
	// A vote for the block 4 in the round 5 is no leaving of the round 5 with the High 4, and the other way round.
	vote, gone := shareWord(qcOf(5, 4, "a"), impl.Tc{}), shareWord(rootQc(), tcOf(5, "a", 4))
	if checkSigned(t, impl.SigsOf(gone), nil, vote) || checkSigned(t, impl.SigsOf(vote), nil, gone) || !checkSigned(t, append(impl.SigsOf(vote), impl.SigsOf(gone)...), nil, gone) {
		t.Error("a vote and a leaving of the same numbers")
	}
}

// The promise itself: with each part of its signatures in the table, and each of its names foul or not, a word is signed just if each signature is in the one or of one of the others.
func TestSignedJustIf(t *testing.T) {
	signed, not := 0, 0
	for _, m := range []impl.Msg{
		voteWord(3, 7, "ann"), goneWord(6, "a", qcOf(4, 2, "a b")), goneWord(6, "ann", rootQc()), propWord(leftBlock()), propWord(firstBlock()), shareWord(qcOf(5, 2, "a b c"), impl.Tc{}, nextBlock()), shareWord(qcOf(6, 4, "b"), tcOf(8, "a b", 6, 5), with(nextBlock(), func(b *impl.Block) { b.Qc = qcOf(5, 2, "a c") })),
	} {
		all := impl.SigsOf(m)
		distinct := slices.Clone(all)
		slices.SortFunc(distinct, func(a, b impl.Sig) int { return strings.Compare(fmt.Sprint(a), fmt.Sprint(b)) })
		distinct = slices.Compact(distinct)
		names := append(signersOf(all), "q")
		for tabled := range 1 << len(distinct) {
			table := someTable(distinct)[:3]
			for i, s := range distinct {
				if tabled>>i&1 == 1 {
					table = slices.Insert(table, i%(len(table)+1), s)
				}
			}
			for mask := range 1 << len(names) {
				var foul []string
				for i, name := range names {
					if mask>>i&1 == 1 {
						foul = slices.Insert(foul, i%(len(foul)+1), name)
					}
				}
				want := true
				for i, s := range distinct {
					want = want && (tabled>>i&1 == 1 || mask>>slices.Index(names, s.Who)&1 == 1)
				}
				if got := checkSigned(t, table, foul, m); got != want {
					t.Fatalf("%s: by %v, foul %q: %v", wordTold(m), table, foul, got)
				}
				if want {
					signed++
				} else {
					not++
				}
			}
		}
	}
	if signed < 200 || not < 200 {
		t.Error("too few are signed, or not:", signed, not)
	}
}

// A foul one may sign anything; whoever else stands in the word must have signed.
func TestSignedByFoulOnes(t *testing.T) {
	for _, m := range rightWords() {
		sigs := impl.SigsOf(m)
		names := signersOf(sigs)
		back := slices.Clone(names)
		slices.Reverse(back)
		for _, foul := range [][]string{names, back, append(back, names...), append([]string{"", "A", "\xff", "abcdefghi"}, names...)} {
			if !checkSigned(t, nil, foul, m) || !checkSigned(t, sigs, foul, m) {
				t.Errorf("all are foul, and it is not signed: %s", wordTold(m))
			}
		}
		for i, name := range names {
			but := slices.Delete(slices.Clone(names), i, i+1)
			hers := slices.DeleteFunc(slices.Clone(sigs), func(s impl.Sig) bool { return s.Who != name })
			others := slices.DeleteFunc(slices.Clone(sigs), func(s impl.Sig) bool { return s.Who == name })
			if checkSigned(t, others, but, m) || !checkSigned(t, hers, but, m) || !checkSigned(t, others, []string{name}, m) {
				t.Errorf("all but %q are foul: %s", name, wordTold(m))
			}
		}
	}
	// Who says it, and to whom, is nothing that is signed.
	if m := voteWord(3, 7, "ann"); checkSigned(t, nil, []string{"bob"}, m) || checkSigned(t, impl.SigsOf(voteWord(3, 7, "bob")), nil, m) {
		t.Error("signed by whom it goes to")
	}
	if m := propWord(with(nextBlock(), func(b *impl.Block) { b.By = "zed" })); checkSigned(t, nil, []string{"zed"}, m) {
		t.Error("signed by who made the block")
	}
	// A word with no signature in it is signed, whatever is known.
	for _, m := range []impl.Msg{propWord(firstBlock()), shareWord(rootQc(), impl.Tc{}), shareWord(qcOf(3, 7, ""), tcOf(7, "")), {}} {
		if !checkSigned(t, nil, nil, m) || !checkSigned(t, sigsTold(1, "v1/0/a"), []string{"a"}, m) {
			t.Errorf("not signed: %s", wordTold(m))
		}
	}
}

// What stands twice in a word needs to stand once in the table, and what stands there twice is no more than once.
func TestSignedTwice(t *testing.T) {
	twice := shareWord(qcOf(5, 2, "a b c"), tcOf(5, "a c d", 1, 3, 0), nextBlock(), nextBlock(), with(leftBlock(), func(b *impl.Block) { b.Qc = qcOf(5, 2, "a b c") }))
	once := sigsTold(1, "v5/2/a v5/2/b v5/2/c g5/1/a g5/3/c g5/0/d")
	if got := impl.SigsOf(twice); len(got) != 18 || !checkSigned(t, once, nil, twice) || !checkSigned(t, append(once, once...), nil, twice) {
		t.Error("signed twice:", got)
	}
	for i := range once {
		rest := slices.Delete(slices.Clone(once), i, i+1)
		doubled := append(slices.Clone(rest), rest...)
		if checkSigned(t, rest, nil, twice) || checkSigned(t, doubled, nil, twice) {
			t.Errorf("signed without %v", once[i])
		}
	}
	// One who voted for two blocks in a round signed both: each by itself is in the table, or is not.
	two := sigsTold(1, "v3/7/ann v3/8/ann")
	for i, m := range []impl.Msg{voteWord(3, 7, "ann"), voteWord(3, 8, "ann")} {
		if !checkSigned(t, two, nil, m) || !checkSigned(t, two[i:i+1], nil, m) || checkSigned(t, two[1-i:2-i], nil, m) {
			t.Errorf("two votes of one round: %s", wordTold(m))
		}
	}
	if m := voteWord(3, 9, "ann"); checkSigned(t, two, nil, m) {
		t.Error("a third vote")
	}
}

// SigsOf and Signed name no answer of their own for a word that is not right: what stands in it is asked.
func TestSigsOfWordsNotRight(t *testing.T) {
	for what, x := range map[string]struct {
		m    impl.Msg
		want []impl.Sig
	}{
		"the zero word":               {impl.Msg{}, nil},
		"a vote that is zero":         {impl.Msg{Kind: 2, Epoch: 4}, []impl.Sig{{Kind: 1, Epoch: 4}}},
		"a leaving that is zero":      {impl.Msg{Kind: 3, Epoch: 4}, []impl.Sig{{Kind: 2, Epoch: 4}}},
		"to no one":                   {withWord(voteWord(3, 7, "ann"), func(m *impl.Msg) { m.To = "" }), sigsTold(1, "v3/7/ann")},
		"a vote in a share":           {withWord(shareWord(qcOf(5, 2, "b"), impl.Tc{}), func(m *impl.Msg) { m.V = impl.Vote{Round: 3, Block: 7, Who: "ann"} }), sigsTold(1, "v3/7/ann v5/2/b")},
		"a certificate beside a vote": {withWord(voteWord(3, 7, "ann"), func(m *impl.Msg) { m.Q = qcOf(5, 2, "b") }), sigsTold(1, "v3/7/ann v5/2/b")},
		"names out of order":          {shareWord(qcOf(5, 2, "b a b"), tcOf(3, "c A c", 2, 9, -1)), sigsTold(1, "v5/2/b v5/2/a v5/2/b g3/2/c g3/9/A g3/-1/c")},
		"the root's with names":       {shareWord(qcOf(0, -1, "a b"), tcOf(0, "c", 0)), sigsTold(1, "v0/-1/a v0/-1/b g0/0/c")},
		"fewer Highs than names":      {shareWord(rootQc(), tcOf(3, "a b c", 2)), sigsTold(1, "g3/2/a g3/0/b g3/0/c")},
		"no Highs":                    {propWord(with(nextBlock(), func(b *impl.Block) { b.Qc, b.Tc = rootQc(), tcOf(3, "a b") })), sigsTold(1, "g3/0/a g3/0/b")},
		"more Highs than names":       {shareWord(rootQc(), tcOf(3, "a", 2, 1, 0)), sigsTold(1, "g3/2/a")},
		"Highs alone":                 {shareWord(rootQc(), tcOf(3, "", 2, 1)), nil},
		"an empty name":               {impl.Msg{Kind: 4, Epoch: 1, Q: impl.Qc{Round: 2, Who: []string{""}}}, []impl.Sig{{Kind: 1, Epoch: 1, Round: 2}}},
		"two blocks":                  {withWord(propWord(nextBlock()), func(m *impl.Msg) { m.Bs = append(m.Bs, leftBlock()) }), sigsTold(1, "v5/2/a v5/2/b v5/2/c v3/2/a v3/2/b v3/2/c g5/1/a g5/3/c g5/0/d")},
	} {
		if got := impl.SigsOf(x.m); !slices.Equal(got, x.want) {
			t.Errorf("%s: %v, not %v", what, got, x.want)
		}
		if impl.MsgOk(x.m) || !checkSigned(t, x.want, nil, x.m) || !checkSigned(t, nil, signersOf(x.want), x.m) || checkSigned(t, nil, nil, x.m) != (len(x.want) == 0) {
			t.Errorf("%s: right, or signed otherwise", what)
		}
		for i, s := range x.want {
			if rest := slices.DeleteFunc(slices.Clone(x.want), func(y impl.Sig) bool { return y == s }); checkSigned(t, rest, nil, x.m) {
				t.Errorf("%s: signed without the %d-th", what, i)
			}
		}
	}
	long := shareWord(rootQc(), impl.Tc{}, slices.Repeat([]impl.Block{nextBlock()}, 401)...)
	if got := impl.SigsOf(long); len(got) != 3*401 || !checkSigned(t, got[:3], nil, long) || checkSigned(t, got[:2], nil, long) {
		t.Error("of 401 blocks:", len(got))
	}
}

func TestWordsOfGreatNumbers(t *testing.T) {
	for _, n := range append(greatNumbers(), -1) {
		for _, base := range oneOfEach() {
			for what, change := range map[string]func(m *impl.Msg){
				"Kind": func(m *impl.Msg) { m.Kind = n }, "Epoch": func(m *impl.Msg) { m.Epoch = n }, "V.Round": func(m *impl.Msg) { m.V.Round = n }, "V.Block": func(m *impl.Msg) { m.V.Block = outsideOf(n, 0, 100000) }, "G.Round": func(m *impl.Msg) { m.G.Round = n }, "G.High": func(m *impl.Msg) { m.G.High = n }, "G.High and Q.Round": func(m *impl.Msg) { m.G.High, m.Q.Round = n, n }, "Q.Round": func(m *impl.Msg) { m.Q.Round = n }, "Q.Block": func(m *impl.Msg) { m.Q.Block = outsideOf(n, -1, 100000) }, "T.Round": func(m *impl.Msg) { m.T.Round = n }, "T.Highs": func(m *impl.Msg) { m.T.Highs = append(m.T.Highs, n) }, "all": func(m *impl.Msg) {
					m.Epoch, m.V, m.G, m.Q, m.T = n, impl.Vote{Round: n, Block: n, Who: "a"}, impl.Gone{Round: n, High: n, Who: "a"}, qcOf(n, n, "a"), tcOf(n, "a", n)
				},
			} {
				// -1 is the Block of the root's certificate, and that alone.
				m := withWord(base, change)
				if checkWord(t, m) && !(what == "Q.Block" && n == -1 && len(m.Q.Who) == 0) {
					t.Errorf("%s %d: right: %s", what, n, wordTold(m))
				}
			}
		}
	}
}

// anyWord has parts of which most are right, and some are not.
func anyWord(r *rand.Rand) impl.Msg {
	m := impl.Msg{Kind: pick(r, 4, 1, 2, 3, 4, 0, 5, -1, math.MaxInt), To: anyVoter(r), Epoch: pick(r, 2, 0, 1, 900, 901, -1, math.MinInt), Q: rootQc()}
	odd := func() bool { return r.Intn(40) == 0 }
	if m.Kind == 2 || odd() {
		m.V = impl.Vote{Round: anyRound(r), Block: anyBlock(r), Who: anyVoter(r)}
	}
	if m.Kind > 2 && r.Intn(3) > 0 || odd() {
		m.Q = impl.Qc{Round: anyRound(r), Block: anyBlock(r), Who: anyWho(r)}
	}
	if m.Kind == 3 || odd() {
		m.G = impl.Gone{Round: pick(r, 3, 3, 4, 10000, 1, 2, 0, 10001, -1, math.MaxInt, math.MinInt), High: m.Q.Round, Who: anyVoter(r)}
		if odd() {
			m.G.High = anyHigh(r)
		}
	}
	if m.Kind == 4 && r.Intn(3) > 0 || odd() {
		m.T = impl.Tc{Round: anyRound(r), Who: anyWho(r)}
		for range len(m.T.Who) + pick(r, 1, 0, 1) {
			m.T.Highs = append(m.T.Highs, anyHigh(r))
		}
	}
	blocks := map[int]int{1: 1, 4: r.Intn(4)}[m.Kind]
	if odd() {
		blocks = r.Intn(4)
	}
	for range blocks {
		b := anyBlockOf(r)
		if r.Intn(4) > 0 {
			right := []impl.Block{firstBlock(), nextBlock(), leftBlock(), endBlock()}
			b = right[r.Intn(4)]
		}
		if !odd() {
			b.Epoch = m.Epoch
		}
		m.Bs = append(m.Bs, b)
	}
	return m
}

func TestWordsOfAnything(t *testing.T) {
	r := rand.New(rand.NewSource(42))
	right, wrong, signed, not := map[int]int{}, map[int]int{}, 0, 0
	for range 40000 {
		m := anyWord(r)
		if checkWord(t, m) {
			right[m.Kind]++
		} else {
			wrong[m.Kind]++
		}
		table, foul := []impl.Sig{}, anyWho(r)
		for _, s := range impl.SigsOf(m) {
			switch r.Intn(24) {
			case 0:
			case 1:
				table = append(table, apartSigs(s)[r.Intn(13)])
			default:
				table = append(table, s)
			}
		}
		r.Shuffle(len(table), func(i, j int) { table[i], table[j] = table[j], table[i] })
		if checkSigned(t, table, foul, m) {
			signed++
		} else {
			not++
		}
	}
	for kind := 1; kind <= 4; kind++ {
		if right[kind] < 1000 || wrong[kind] < 1000 {
			t.Errorf("too few of the kind %d are right, or wrong: %d, %d", kind, right[kind], wrong[kind])
		}
	}
	if signed < 5000 || not < 5000 {
		t.Error("too few are signed, or not:", signed, not)
	}
}

// A wordCall is all that chapter 13 can be asked of a word, a table and a list of foul ones.
type wordCall struct {
	m     impl.Msg
	table []impl.Sig
	foul  []string
}

func wordCalls() []wordCall {
	var l []wordCall
	odd := []impl.Msg{{}, {Kind: 2}, {Kind: 5, Bs: []impl.Block{endBlock()}}, shareWord(qcOf(0, -1, "a"), tcOf(3, "a b c", 2), nextBlock()), withWord(propWord(nextBlock()), func(m *impl.Msg) { m.V.Who = "a" }), shareWord(rootQc(), tcOf(3, "a", 2, 1))}
	for i, m := range append(append(oneOfEach(), odd...), propWord(fullBlock()), shareWord(rootQc(), impl.Tc{}), goneWord(6, "ann", rootQc()), shareWord(qcOf(5, 2, "a b c"), tcOf(5, "a c d", 1, 3, 0), nextBlock(), nextBlock(), leftBlock())) {
		sigs := impl.SigsOf(cloneWord(m))
		slices.Reverse(sigs)
		names := signersOf(sigs)
		l = append(l, wordCall{m, sigs, nil}, wordCall{m, sigs[:len(sigs)*(i%3)/3], names[:len(names)/2]}, wordCall{m, nil, names}, wordCall{m, nil, nil}, wordCall{m, append(sigs, someTable(sigs)...), []string{"", "A", "q"}})
	}
	return l
}

// ask asks everything, and tells it by one text.
func (c wordCall) ask() string {
	return fmt.Sprint(impl.MsgOk(c.m), impl.SigsOf(c.m), impl.Signed(c.table, c.foul, c.m))
}

func (c wordCall) wanted() string {
	return fmt.Sprint(wordWanted(c.m), sigsWanted(c.m), signedWanted(c.table, c.foul, c.m))
}

// roomy lays what would change an answer into the spare room behind each list.
func (c wordCall) roomy() wordCall {
	blocks := make([]impl.Block, 0, len(c.m.Bs)+2)
	for _, b := range c.m.Bs {
		blocks = append(blocks, cutBlock(roomyBlock(b), b))
	}
	sigs, names := sigsWanted(c.m), signersOf(sigsWanted(c.m))
	m := c.m
	m.Bs = append(blocks, endBlock(), impl.Block{})[:len(m.Bs)]
	m.Q.Who = append(slices.Clone(m.Q.Who), "zz", "zzz")[:len(m.Q.Who)]
	m.T.Who = append(slices.Clone(m.T.Who), "zz", "zzz")[:len(m.T.Who)]
	m.T.Highs = append(slices.Clone(m.T.Highs), 1, 9999)[:len(m.T.Highs)]
	table := append(append(slices.Clone(c.table), impl.Sig{Kind: 1, Who: "zz"}), sigs...)[:len(c.table)]
	return wordCall{m, table, append(append(slices.Clone(c.foul), "zz"), names...)[:len(c.foul)]}
}

// whole tells all memory of a call, to the end of each list's room.
func (c wordCall) whole() string {
	m := c.m
	s := fmt.Sprintf("%d %q %d %+v %+v %+v %q ", m.Kind, m.To, m.Epoch, m.V, m.G, c.table[:cap(c.table)], c.foul[:cap(c.foul)])
	certs := treeCall{l: m.Bs, b: impl.Block{Round: m.Q.Round, Id: m.Q.Block, Tc: m.T}, q: m.Q}
	return s + certs.whole()
}

func TestWordsLeaveTheirArguments(t *testing.T) {
	for i, c := range wordCalls() {
		leavesArgs(t, i, c, c.roomy())
	}
}

// What is answered shares no memory with an argument, nor with another answer; no call keeps anything for another.
func TestWordsKeepNothing(t *testing.T) {
	for i, c := range wordCalls() {
		room, want := c.roomy(), c.wanted()
		kept := room.whole()
		sigs := impl.SigsOf(room.m)
		first := slices.Clone(sigs)
		for _, other := range append(wordCalls(), room) {
			fill(impl.SigsOf(other.m), impl.Sig{Kind: -99, Who: "written"})
			other.ask()
		}
		if !slices.Equal(sigs, first) {
			t.Errorf("%d: two answers share memory: %v, not %v", i, sigs, first)
		}
		if room.whole() != kept || c.ask() != want || room.ask() != want {
			t.Errorf("%d: what is written into an answer is seen elsewhere: %s, not %s", i, room.whole(), kept)
		}
		scribbleTree(room.m.Bs)
		scribble(room.m.Q, room.m.T)
		fill(room.table, impl.Sig{Kind: -99})
		fill(room.foul, "written")
		if !slices.Equal(sigs, first) {
			t.Errorf("%d: an answer shares memory with an argument: %v, not %v", i, sigs, first)
		}
	}
}

// What was refused leaves nothing behind: what comes next is answered as if it came first, and what one table has no other has.
func TestWordsBehindOneAnother(t *testing.T) {
	for i, c := range wordCalls() {
		want := c.wanted()
		for _, other := range wordCalls() {
			for _, d := range []wordCall{other, {c.m, other.table, other.foul}, {other.m, c.table, c.foul}, {c.m, c.table, other.foul}, {c.m, other.table, c.foul}} {
				if got := d.ask(); got != d.wanted() {
					t.Errorf("%d: %s, not %s", i, got, d.wanted())
				}
			}
			if got := c.ask(); got != want {
				t.Errorf("%d: behind another %s, not %s", i, got, want)
			}
		}
	}
}

// As much as a word may have, held against a table of all of it, takes no long time, and neither does far more.
func TestWordsOfVeryMany(t *testing.T) {
	var full []impl.Block
	for i := range 400 {
		full = append(full, with(fullBlock(), func(b *impl.Block) { b.Qc.Block, b.Tc.Round, b.Tc.Highs = i, 9000+i, make([]int, 20) }))
	}
	m := inEpoch(shareWord(impl.Qc{Round: 10000, Block: 100000, Who: longNames(20)}, impl.Tc{Round: 10000, Who: longNames(20), Highs: make([]int, 20)}, full...), 900)
	sigs := impl.SigsOf(m)
	table := slices.Clone(sigs)
	slices.Reverse(table)
	if !impl.MsgOk(m) || len(sigs) != 40*401 || !impl.Signed(table, nil, m) || !impl.Signed(nil, longNames(20), m) || impl.Signed(nil, longNames(19), m) {
		t.Error("as much as there may be:", impl.MsgOk(m), len(sigs))
	}
	for _, at := range []int{0, 19, 20, 8000, 16039} {
		if lacks := slices.Delete(slices.Clone(sigs), at, at+1); impl.Signed(lacks, nil, m) || !impl.Signed(lacks, []string{sigs[at].Who}, m) {
			t.Errorf("without the %d-th", at)
		}
	}
	long := slices.Repeat(sigsTold(1, "v3/7/bob g3/7/ann v3/8/ann"), 1<<16)
	if vote := voteWord(3, 7, "ann"); impl.Signed(long, manyNames(9000), vote) || !impl.Signed(append(long, impl.SigsOf(vote)...), nil, vote) {
		t.Error("one vote and a long table")
	}
	wide := impl.Msg{Kind: 9, Bs: slices.Repeat([]impl.Block{nextBlock()}, 1<<15), Q: impl.Qc{Who: manyNames(9000)}}
	if got := impl.SigsOf(wide); impl.MsgOk(wide) || len(got) != 9000+3<<15 || impl.Signed(long, nil, wide) || !impl.Signed(got, nil, wide) {
		t.Error("very many blocks:", len(got))
	}
}
