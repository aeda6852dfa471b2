package tests

import (
	"fmt"
	"math"
	"math/rand"
	"reflect"
	"slices"
	"strings"
	"testing"

	"loop.example/g00194/impl"
)

func clientWanted(l impl.Ledger) impl.Client {
	if !ledgerWanted(l) {
		return impl.Client{}
	}
	return impl.Client{Epoch: l.Epoch, Set: setOfWanted(l)}
}

// acceptWanted goes by the chapter's sentence, part by part.
func acceptWanted(c impl.Client, p impl.Proof) (impl.Client, bool) {
	if !setWanted(c.Set) || p.Epoch != c.Epoch || len(p.Bs) < 2 {
		return c, false
	}
	for _, b := range p.Bs {
		if !blockWanted(b) || b.Epoch != c.Epoch {
			return c, false
		}
	}
	for i, b := range p.Bs[1:] {
		if ahead := p.Bs[i]; b.Qc.Block != ahead.Id || b.Qc.Round != ahead.Round || !qcWanted(c.Set, b.Qc) {
			return c, false
		}
	}
	last, before := p.Bs[len(p.Bs)-1], p.Bs[len(p.Bs)-2]
	if last.Round != before.Round+1 || !qcWanted(c.Set, p.Q) || p.Q.Round != last.Round || p.Q.Block != last.Id {
		return c, false
	}
	for _, b := range p.Bs[:len(p.Bs)-1] {
		if b.End {
			return impl.Client{Epoch: c.Epoch + 1, Set: b.Next}, true
		}
	}
	return c, false
}

func proofWanted(n impl.Node, epoch int) (impl.Proof, bool) {
	for at := len(n.Past); at > 0; at-- {
		if n.Past[at-1].Epoch != epoch {
			continue
		}
		if !slices.ContainsFunc(n.Past[:at-1], func(p impl.Proof) bool { return p.Epoch == epoch }) {
			return n.Past[at-1], true
		}
	}
	return impl.Proof{}, false
}

func followWanted(l impl.Ledger, n impl.Node) (impl.Client, int) {
	c, many := clientWanted(l), 0
	for {
		p, _ := proofWanted(n, c.Epoch)
		next, ok := acceptWanted(c, p)
		if !ok {
			return c, many
		}
		c, many = next, many+1
	}
}

// A clientCall is one of the chapter's questions.
type clientCall struct {
	Deed  string
	L     impl.Ledger
	C     impl.Client
	P     impl.Proof
	N     impl.Node
	Epoch int
}

func (c clientCall) ask() []any {
	switch c.Deed {
	case "new":
		return []any{impl.ClientNew(c.L)}
	case "accept":
		return listed2(impl.Accept(c.C, c.P))
	case "proof":
		return listed2(impl.ProofOf(c.N, c.Epoch))
	}
	return listed2(impl.FollowAll(c.L, c.N))
}

func (c clientCall) wanted() []any {
	switch c.Deed {
	case "new":
		return []any{clientWanted(c.L)}
	case "accept":
		return listed2(acceptWanted(c.C, c.P))
	case "proof":
		return listed2(proofWanted(c.N, c.Epoch))
	}
	return listed2(followWanted(c.L, c.N))
}

func (c clientCall) String() string {
	return fmt.Sprintf("%s %d of %.500s\n  %+v, %.3000s\n  %.2000s", c.Deed, c.Epoch, fmt.Sprintf("%+v", c.L), c.C, fmt.Sprintf("%+v", c.P), nodeTold(c.N))
}

func askClient(t *testing.T, l impl.Ledger) impl.Client {
	t.Helper()
	return callAsked(t, clientCall{Deed: "new", L: l})[0].(impl.Client)
}

func askAccept(t *testing.T, c impl.Client, p impl.Proof) (impl.Client, bool) {
	t.Helper()
	a := callAsked(t, clientCall{Deed: "accept", C: c, P: p})
	return a[0].(impl.Client), a[1].(bool)
}

func askProof(t *testing.T, n impl.Node, epoch int) (impl.Proof, bool) {
	t.Helper()
	a := callAsked(t, clientCall{Deed: "proof", N: n, Epoch: epoch})
	return a[0].(impl.Proof), a[1].(bool)
}

func askFollow(t *testing.T, l impl.Ledger, n impl.Node) (impl.Client, int) {
	t.Helper()
	a := callAsked(t, clientCall{Deed: "follow", L: l, N: n})
	return a[0].(impl.Client), a[1].(int)
}

// accepts: p brings c into the next epoch, in which these vote.
func accepts(t *testing.T, what string, c impl.Client, p impl.Proof, next []impl.Val) {
	t.Helper()
	if got, ok := askAccept(t, c, p); !ok || !sameValue(got, impl.Client{Epoch: c.Epoch + 1, Set: next}) {
		t.Errorf("%s: %v %v, not the next epoch with %v", what, got, ok, next)
	}
}

// stays: c accepts nothing of p.
func stays(t *testing.T, what string, c impl.Client, p impl.Proof) {
	t.Helper()
	if got, ok := askAccept(t, c, p); ok || !sameValue(got, c) {
		t.Errorf("%s: accepted: %v %v", what, got, ok)
	}
}

// crewClient: a, b, c and d vote, with 10 each: three of them are a quorum.
func crewClient(epoch int) impl.Client { return impl.Client{Epoch: epoch, Set: fourVals()} }

// nextTold is who votes behind an End of this round.
func nextTold(round int) []impl.Val { return letteredVals(round, 7, 10001) }

// proofTold: "1 2E 4" is a proof out of three blocks of these rounds, of which the second one is an End; who certifies each of them.
func proofTold(epoch int, who, s string) impl.Proof {
	p := impl.Proof{Epoch: epoch, Q: rootQc()}
	for i, word := range strings.Fields(s) {
		round, end := strings.CutSuffix(word, "E")
		b := impl.Block{Id: 10 + 3*i, Epoch: epoch, Round: numTold(round), By: "b", Qc: p.Q, End: end}
		if end {
			b.Next, b.Root = nextTold(b.Round), root32
		}
		p.Bs, p.Q = append(p.Bs, b), qcOf(b.Round, b.Id, who)
	}
	return p
}

// crewProof is one of three blocks of the epoch 7, of which the second one is the End.
func crewProof() impl.Proof { return proofTold(7, "a b c", "1 2E 3") }

// changedProof is p, changed, and in memory of its own.
func changedProof(p impl.Proof, change func(p *impl.Proof)) impl.Proof {
	p = apartFrom(p)
	change(&p)
	return p
}

// certified changes the certificate of the block at a place, wherever that stands.
func certified(p impl.Proof, at int, change func(q *impl.Qc)) impl.Proof {
	return changedProof(p, func(p *impl.Proof) {
		if at == len(p.Bs)-1 {
			change(&p.Q)
		} else {
			change(&p.Bs[at+1].Qc)
		}
	})
}

func TestClientNewOfLedgers(t *testing.T) {
	for told, want := range map[string]string{"": "", "a:10 b:10 c:10 d:10": "a:10 b:10 c:10 d:10", "a:4 b:3": "", "a:4 b:5 c:6": "b:5 c:6", "a:5": "a:5", "a:0 b:999900": "b:999900", "a:9 b:4 c:9 d:0": "a:9 c:9"} {
		for _, epoch := range []int{0, 1, 7, 899, 900} {
			l := ledgerOf(epoch)
			for _, v := range valsTold(told) {
				l.Accts = append(l.Accts, impl.Acct{Name: v.Name, Free: 7, Stake: v.Weight})
			}
			if c := askClient(t, l); !sameValue(c, impl.Client{Epoch: epoch, Set: valsTold(want)}) {
				t.Errorf("%q in the epoch %d: %v", told, epoch, c)
			}
			// Nobody votes: nothing is accepted there.
			if c, ok := askAccept(t, askClient(t, l), proofTold(epoch, "", "1 2E 3")); ok || c.Epoch != epoch {
				t.Errorf("%q in the epoch %d: a proof of nobody", told, epoch)
			}
		}
	}
	for _, l := range append(someBases(), crewLedger(), aloneLedger(), foulLedger(), ledgerOf(0, letteredAccts(12, 5)...)) {
		askClient(t, l)
	}
}

func TestClientNewRefuses(t *testing.T) {
	for _, l := range append(wrongLedgers(), ledgerOf(901, crewLedger().Accts...), ledgerOf(-1, crewLedger().Accts...), ledgerOf(7, slices.Repeat(crewLedger().Accts, 2)...)) {
		if c := askClient(t, l); !sameValue(c, impl.Client{}) {
			t.Errorf("%.300v: %v", fmt.Sprint(l), c)
		}
		if c, many := askFollow(t, l, changed(crewNode("a"), func(n *impl.Node) { n.Past = []impl.Proof{proofTold(0, "a b c", "1 2E 3"), crewProof()} })); many != 0 || !sameValue(c, impl.Client{}) {
			t.Errorf("%.300v: followed to %v", fmt.Sprint(l), c)
		}
	}
}

func TestAcceptKnown(t *testing.T) {
	for _, epoch := range []int{0, 1, 7, 899, 900} {
		c := crewClient(epoch)
		for told, round := range map[string]int{
			"1E 2": 1, "1 2E 3": 2, "1 2E 3 4": 2, "1E 2 3": 1, "1 2 3E 4": 3, "1 2 3 4 5E 6": 5, "1E 2 3 4 5 6": 1, "1E 2E": 1, "1 2E 3E": 2, "1E 2E 3": 1, "1 2E 3E 4E 5E": 2, "1 2 3E 4 5E 6": 3,
			// What was left out ahead of the last two is nothing to ask for.
			"5E 6": 5, "9998 9999E 10000": 9999, "9999E 10000": 9999, "1 3E 4": 3, "1E 3 4": 1, "2 5E 9 10": 5, "1E 4 9 16 25 26": 1, "1E 9999 10000": 1, "3 7 8E 9": 8,
		} {
			for _, who := range []string{"a b c", "a b d", "b c d", "a b c d"} {
				accepts(t, told+" by "+who, c, proofTold(epoch, who, told), nextTold(round))
			}
		}
		// A node's own proof, with its orders and its ledger's Next.
		row := endRow(epoch)
		accepts(t, "three of a row", c, impl.Proof{Epoch: epoch, Bs: row[:3], Q: certOf(row[2])}, valsTold("a:10 b:10 c:17"))
		accepts(t, "four of a row", c, impl.Proof{Epoch: epoch, Bs: row, Q: certOf(row[3])}, valsTold("a:10 b:10 c:17"))
		stays(t, "two of a row", c, impl.Proof{Epoch: epoch, Bs: row[:2], Q: certOf(row[1])})
	}
}

// The last two Rounds must be one behind the other, whatever stands ahead of them.
func TestAcceptOfTheLastTwoRounds(t *testing.T) {
	for _, told := range []string{"1E 3", "1 2E 4", "1 2E 5", "1E 2 4", "1 2E 3 5", "1E 2 3 4 6", "2E 10000", "9998E 10000", "1 2E 3E 5", "1 3E 5", "1E 10000"} {
		stays(t, told, crewClient(7), proofTold(7, "a b c", told))
	}
	for _, told := range []string{"1E 1", "1 2E 2", "2E 1", "3 5E 4", "1 2E 3 3", "1 2E 3 2", "1 2 3E 1", "4 3E 2", "2E 3 2", "1 1E 2", "3 1E 2", "1E 0", "0E 1", "-1 0E 1", "9999 10000E 10001", "10000E 10001"} {
		stays(t, told, crewClient(7), proofTold(7, "a b c", told))
	}
}

// An End must stand ahead of the last block, and the first one counts.
func TestAcceptOfEnds(t *testing.T) {
	for _, told := range []string{"1 2", "1 2 3", "1 2E", "1 2 3E", "1 2 3 4 5E", "3 4E"} {
		stays(t, told, crewClient(7), proofTold(7, "a b c", told))
	}
	first := nextTold(2)
	for what, p := range map[string]impl.Proof{
		"the second End is of others": proofTold(7, "a b c", "1 2E 3E 4"), "three": proofTold(7, "a b c", "1 2E 3E 4E"), "the last one, too": proofTold(7, "a b c", "1 2E 3E"), "far apart": proofTold(7, "a b c", "1 2E 3 4 5 6E 7"),
	} {
		accepts(t, what, crewClient(7), p, first)
		// Its Next is not asked against who votes: anybody may vote next.
		for _, next := range [][]impl.Val{valsTold("zz:1"), valsTold("a:1000000"), alikeVals(12, 1000000), fourVals()} {
			accepts(t, what+", another Next", crewClient(7), changedProof(p, func(p *impl.Proof) { p.Bs[1].Next = next }), next)
		}
		for _, next := range append(wrongSets(), nil) {
			stays(t, what+", no Next", crewClient(7), changedProof(p, func(p *impl.Proof) { p.Bs[1].Next = next }))
		}
		// Without the first one's flag it is no End, and its Next is none.
		stays(t, what+", no flag", crewClient(7), changedProof(p, func(p *impl.Proof) { p.Bs[1].End = false }))
	}
	accepts(t, "the first one is none", crewClient(7), proofTold(7, "a b c", "1 2 3E 4"), nextTold(3))
}

func TestAcceptOfFewBlocks(t *testing.T) {
	for _, told := range []string{"", "1", "1E", "5E"} {
		for _, q := range []impl.Qc{rootQc(), {}, qcOf(1, 10, "a b c"), qcOf(5, 10, "a b c d")} {
			stays(t, "few: "+told, crewClient(7), changedProof(proofTold(7, "a b c", told), func(p *impl.Proof) { p.Q = q }))
		}
	}
	stays(t, "the zero one", crewClient(0), impl.Proof{})
	stays(t, "both zero", impl.Client{}, impl.Proof{})
	// A node has no more than 400 blocks; of a proof no number is told.
	rounds := ""
	for round := 1; round <= 999; round++ {
		rounds += fmt.Sprint(round, " ")
	}
	accepts(t, "a thousand", crewClient(7), proofTold(7, "b c d", rounds+"1000E 1001"), nextTold(1000))
	stays(t, "a thousand, no End", crewClient(7), proofTold(7, "b c d", rounds+"1000 1001"))
}

func TestAcceptOfEpochs(t *testing.T) {
	p := crewProof()
	for _, epoch := range append(greatNumbers(), -1, 0, 1, 6, 8, 899, 900, 901) {
		stays(t, fmt.Sprint("a client of ", epoch), crewClient(epoch), p)
		stays(t, fmt.Sprint("a proof of ", epoch), crewClient(7), changedProof(p, func(p *impl.Proof) { p.Epoch = epoch }))
		for at := range p.Bs {
			stays(t, fmt.Sprint("a block of ", epoch), crewClient(7), changedProof(p, func(p *impl.Proof) { p.Bs[at].Epoch = epoch }))
		}
		whole := proofTold(epoch, "a b c", "1 2E 3")
		stays(t, fmt.Sprint("blocks of ", epoch), crewClient(7), changedProof(whole, func(p *impl.Proof) { p.Epoch = 7 }))
		if outside(epoch, 0, 900) {
			stays(t, fmt.Sprint("all of ", epoch), crewClient(epoch), whole)
		} else {
			accepts(t, fmt.Sprint("all of ", epoch), crewClient(epoch), whole, nextTold(2))
		}
	}
}

func TestAcceptOfSets(t *testing.T) {
	p := crewProof()
	stays(t, "nobody votes", impl.Client{Epoch: 7}, p)
	for _, set := range wrongSets() {
		stays(t, "no set", impl.Client{Epoch: 7, Set: set}, p)
		// Each certificate is of all of them, as far as it can be.
		var who []string
		for _, v := range set[:min(len(set), 20)] {
			who = append(who, v.Name)
		}
		slices.Sort(who)
		stays(t, "no set, all certify", impl.Client{Epoch: 7, Set: set}, proofTold(7, strings.Join(slices.Compact(who), " "), "1 2E 3"))
	}
	for told, want := range map[string]bool{
		"a:10 b:10 c:10 d:10": true, "a:10 b:10 c:10 d:14": true, "a:10 b:10 c:10 d:15": false, "a:10 b:10 c:10 d:16": false, "a:1 b:1 c:1": true, "a:1 b:1": false, "a:1 b:1 c:1 d:1": true, "a:1 b:1 c:1 d:2": false, "a:1000000 b:1000000 c:1000000 d:999999": true, "a:1000000 b:1 c:1 d:500000": true, "a:1000000 b:1 c:1 d:500001": false, "a:999998 b:1 c:1 d:500000": false,
		// Not SetOk, although a, b and c weigh enough.
		"b:10 a:10 c:10": false, "a:10 b:10 c:10 d:0": false, "a:10 b:10 c:10 d:-1": false, "a:1000001 b:10 c:10": false, "a:10 a:10 b:10 c:10": false, "a:10 b:10 c:10 d:10 A:1": false, "a:10 b:10 c:10 ninechars:1": false, "a:9 b:9 c:9 d:1 e:1 f:1 g:1 h:1 i:1 j:1 k:1 l:1": true, "a:9 b:9 c:9 d:1 e:1 f:1 g:1 h:1 i:1 j:1 k:1 l:1 m:1": false,
	} {
		c := impl.Client{Epoch: 7, Set: valsTold(told)}
		if want {
			accepts(t, told, c, p, nextTold(2))
		} else {
			stays(t, told, c, p)
		}
	}
	// Twelve of the greatest weight: nine of them are a quorum, eight are just two thirds.
	c := impl.Client{Epoch: 7, Set: letteredVals(slices.Repeat([]int{1000000}, 12)...)}
	accepts(t, "nine of twelve", c, proofTold(7, "d e f g h i j k l", "1 2E 3"), nextTold(2))
	stays(t, "eight of twelve", c, proofTold(7, "e f g h i j k l", "1 2E 3"))
	p = fullProof()
	accepts(t, "all that there may be", impl.Client{Epoch: 900, Set: alikeVals(12, 1000000)}, p, p.Bs[1].Next)
}

// fullProof has the greatest numbers that there may be, and as much of everything.
func fullProof() impl.Proof {
	who := namesOf(alikeVals(12, 1))
	b := fullBlock()
	first := with(b, func(b *impl.Block) {
		b.Id, b.Round, b.Qc, b.Tc = 99998, 9998, impl.Qc{Round: 9997, Block: 99997, Who: longNames(20)}, impl.Tc{}
		b.End, b.Next, b.Root = false, nil, ""
	})
	end := with(b, func(b *impl.Block) {
		b.Id, b.Round, b.Qc, b.Tc = 99999, 9999, impl.Qc{Round: 9998, Block: 99998, Who: who}, tcOf(9998, "a b", 9997, 0)
	})
	last := with(b, func(b *impl.Block) { b.Qc.Who = slices.Clone(who); b.Next = valsTold("zz:1") })
	return apartFrom(impl.Proof{Epoch: 900, Bs: []impl.Block{first, end, last}, Q: impl.Qc{Round: 10000, Block: 100000, Who: who}})
}

// A block that is none keeps the proof from being one, at each place.
func TestAcceptOfWrongBlocks(t *testing.T) {
	c, p := crewClient(7), proofTold(7, "a b c", "3 4E 5 6")
	for what, change := range map[string]func(b *impl.Block){
		"made by no one": func(b *impl.Block) { b.By = "" }, "made by no name": func(b *impl.Block) { b.By = "A" }, "five orders": func(b *impl.Block) { b.Txs = someTxs(5) }, "a wrong order": func(b *impl.Block) { b.Txs = []impl.Tx{pay("a", "b", 0, 0)} },
		"a Tc of its own round": func(b *impl.Block) { b.Tc = tcOf(b.Round, "a b c", 0, 0, 0) }, "a Tc without a High": func(b *impl.Block) { b.Tc = tcOf(2, "a b c", 0, 0) }, "a Tc of no round": func(b *impl.Block) { b.Tc = tcOf(0, "a", 0) }, "a Tc below 0": func(b *impl.Block) { b.Tc = tcOf(-1, "") },
		"a Tc not in order": func(b *impl.Block) { b.Tc = tcOf(2, "b a", 0, 0) }, "a Next alone": func(b *impl.Block) { b.End, b.Next, b.Root = false, fourVals(), "" }, "a Root alone": func(b *impl.Block) { b.End, b.Next, b.Root = false, nil, root32 }, "an End without a Next": func(b *impl.Block) { b.End, b.Next, b.Root = true, nil, root32 },
		"an End without a Root": func(b *impl.Block) { b.End, b.Next, b.Root = true, fourVals(), "" }, "a short Root": func(b *impl.Block) { b.End, b.Next, b.Root = true, fourVals(), root32[1:] }, "a long Root": func(b *impl.Block) { b.End, b.Next, b.Root = true, fourVals(), root32+"x" },
		"the zero one": func(b *impl.Block) { *b = impl.Block{} },
	} {
		for at := range p.Bs {
			stays(t, fmt.Sprint(what, " at ", at), c, changedProof(p, func(p *impl.Proof) { change(&p.Bs[at]) }))
		}
	}
	for _, b := range wrongBlocks() {
		b.Epoch = 7
		for at := range p.Bs {
			// Its neighbours are made to fit, so that it may be the only fault.
			fit := changedProof(p, func(p *impl.Proof) {
				if at > 0 {
					b.Qc = p.Bs[at].Qc
				}
				p.Bs[at] = b
			})
			fit = certified(fit, at, func(q *impl.Qc) { q.Block, q.Round = b.Id, b.Round })
			if blockWanted(b) {
				askAccept(t, c, fit)
			} else {
				stays(t, fmt.Sprintf("%v at %d", b, at), c, fit)
			}
		}
	}
}

// What a block has that no client can tell is left to those who voted for it.
func TestAcceptAsksNothingElse(t *testing.T) {
	c, p := crewClient(7), proofTold(7, "a b c", "3 4E 5 6")
	for what, change := range map[string]func(b *impl.Block){
		"made by another": func(b *impl.Block) { b.By = "zed" }, "orders": func(b *impl.Block) { b.Txs = someTxs(4) }, "a Tc of nobody": func(b *impl.Block) { b.Tc = tcOf(1, "") }, "a Tc of few": func(b *impl.Block) { b.Tc = tcOf(2, "zed", 1) }, "a Tc of the round ahead": func(b *impl.Block) { b.Tc = tcOf(b.Round-1, "a b c", 0, 0, b.Round-2) },
		"another Root": func(b *impl.Block) {
			if b.End {
				b.Root = strings.Repeat("x", 32)
			}
		},
	} {
		for at := range p.Bs {
			accepts(t, fmt.Sprint(what, " at ", at), c, changedProof(p, func(p *impl.Proof) { change(&p.Bs[at]) }), nextTold(4))
		}
	}
	// The first one comes behind anything that a block may come behind.
	for _, q := range []impl.Qc{rootQc(), qcOf(1, 0, ""), qcOf(2, 9, "zed"), qcOf(1, 3, "a"), qcOf(2, 9, "a b c d"), {Round: 2, Block: 5, Who: longNames(20)}} {
		accepts(t, fmt.Sprint("the first behind ", q), c, changedProof(p, func(p *impl.Proof) { p.Bs[0].Qc = q }), nextTold(4))
	}
	for _, q := range []impl.Qc{{}, qcOf(3, 9, "a b c"), qcOf(2, 10, "a b c"), qcOf(0, 0, "a b c"), qcOf(2, -1, ""), qcOf(0, -1, "a"), qcOf(2, 9, "b a"), qcOf(-1, 9, "a"), {Round: 2, Block: 5, Who: longNames(21)}} {
		stays(t, fmt.Sprint("the first behind ", q), c, changedProof(p, func(p *impl.Proof) { p.Bs[0].Qc = q }))
	}
	// It is not asked that a block Follows: the rounds between may be left out without a Tc.
	if p := proofTold(7, "a b c", "2 9E 10"); impl.Follows(p.Bs[1]) {
		t.Error("it follows")
	}
}

// Each certificate is of the block ahead of it, by its Block and by its Round, and of a quorum.
func TestAcceptOfCertificates(t *testing.T) {
	c := crewClient(7)
	for _, told := range []string{"3E 4", "3 4E 5", "3 4E 5 6", "4 8E 12 13", "3E 9 15 16"} {
		p := proofTold(7, "a b c", told)
		end := slices.IndexFunc(p.Bs, func(b impl.Block) bool { return b.End })
		for at := range p.Bs {
			for what, change := range map[string]func(q *impl.Qc){
				"a Block more": func(q *impl.Qc) { q.Block++ }, "a Block less": func(q *impl.Qc) { q.Block-- }, "the Block of another": func(q *impl.Qc) { q.Block = p.Bs[(at+1)%len(p.Bs)].Id }, "the Block 0": func(q *impl.Qc) { q.Block = 0 }, "no Block": func(q *impl.Qc) { q.Block = -1 }, "too great a Block": func(q *impl.Qc) { q.Block = 100001 },
				"a Round more": func(q *impl.Qc) { q.Round++ }, "a Round less": func(q *impl.Qc) { q.Round-- }, "the Round of another": func(q *impl.Qc) { q.Round = p.Bs[(at+1)%len(p.Bs)].Round }, "the Round 1": func(q *impl.Qc) { q.Round = 1 }, "no Round": func(q *impl.Qc) { q.Round = 0 }, "too great a Round": func(q *impl.Qc) { q.Round = 10001 },
				"the root's": func(q *impl.Qc) { *q = rootQc() }, "the zero one": func(q *impl.Qc) { *q = impl.Qc{} }, "of none": func(q *impl.Qc) { q.Who = nil }, "of one": func(q *impl.Qc) { q.Who = q.Who[:1] }, "of two": func(q *impl.Qc) { q.Who = q.Who[1:] }, "of one who does not vote, too": func(q *impl.Qc) { q.Who = append(q.Who, "zed") },
				"of one who does not vote, instead": func(q *impl.Qc) { q.Who[2] = "zed" }, "of all, and another": func(q *impl.Qc) { q.Who = []string{"a", "b", "c", "d", "e"} }, "in another order": func(q *impl.Qc) { q.Who = []string{"b", "a", "c"} }, "the last two in another order": func(q *impl.Qc) { q.Who = []string{"a", "c", "b"} }, "of one twice": func(q *impl.Qc) { q.Who = []string{"a", "a", "b"} }, "of one twice, too": func(q *impl.Qc) { q.Who = []string{"a", "b", "c", "c"} }, "of no name": func(q *impl.Qc) { q.Who = []string{"", "a", "b", "c"} },
			} {
				wrong := certified(p, at, change)
				if sameValue(wrong, p) {
					t.Fatalf("%s: nothing changed", what)
				}
				stays(t, fmt.Sprintf("%s: the certificate %d: %s", told, at, what), c, wrong)
			}
			// Of each who may have signed it: a quorum is enough, less is not.
			for mask := range 16 {
				some := certified(p, at, func(q *impl.Qc) { q.Who = namesOfMask(fourVals(), mask) })
				if quorumWanted(fourVals(), namesOfMask(fourVals(), mask)) {
					accepts(t, fmt.Sprint(told, " by ", mask), c, some, p.Bs[end].Next)
				} else {
					stays(t, fmt.Sprint(told, " by ", mask), c, some)
				}
			}
		}
	}
}

// Blocks that come behind another one than the one ahead of them.
func TestAcceptOfOtherOrders(t *testing.T) {
	c, p := crewClient(7), proofTold(7, "a b c", "1 2E 3 4 5")
	for what, l := range map[string][]int{
		"turned": {4, 3, 2, 1, 0}, "the first two": {1, 0, 2, 3, 4}, "the last two": {0, 1, 2, 4, 3}, "one twice": {0, 1, 1, 2, 3, 4}, "the first twice": {0, 0, 1, 2, 3, 4}, "the last twice": {0, 1, 2, 3, 4, 4}, "without the second": {0, 2, 3, 4}, "without the third": {0, 1, 3, 4}, "without the last but one": {0, 1, 2, 4}, "without the last": {0, 1, 2, 3}, "all twice": {0, 1, 2, 3, 4, 0, 1, 2, 3, 4},
	} {
		stays(t, what, c, changedProof(p, func(p *impl.Proof) {
			var bs []impl.Block
			for _, at := range l {
				bs = append(bs, p.Bs[at])
			}
			p.Bs = bs
		}))
	}
	// Without those ahead it is a proof still, as long as the End is there.
	accepts(t, "without the first", c, changedProof(p, func(p *impl.Proof) { p.Bs = p.Bs[1:] }), nextTold(2))
	stays(t, "without the End", c, changedProof(p, func(p *impl.Proof) { p.Bs = p.Bs[2:] }))
	// The proof of one epoch, and blocks of two chains.
	other := proofTold(7, "a b c", "1 2E 3 4 6")
	stays(t, "another chain's last one", c, changedProof(p, func(p *impl.Proof) { p.Bs[4] = other.Bs[4] }))
	stays(t, "another chain's certificate", c, changedProof(p, func(p *impl.Proof) { p.Q = other.Q }))
}

func TestProofOfPast(t *testing.T) {
	one, two, three := proofTold(0, "a b c", "1 2E 3"), proofTold(1, "b c d", "1E 2"), proofTold(5, "a b c d", "4 5E 6")
	for what, n := range map[string]impl.Node{
		"right": changed(crewNode("a"), func(n *impl.Node) { n.Past = []impl.Proof{one, two, three} }), "in another order": changed(crewNode("a"), func(n *impl.Node) { n.Past = []impl.Proof{three, one, two} }), "no node": {Past: []impl.Proof{two, three, one}}, "far from right": {Name: "A", Epoch: -5, Round: -1, Past: []impl.Proof{two, one, three}},
		"two of each": {Past: []impl.Proof{one, two, three, {Epoch: 5}, {Epoch: 1, Q: rootQc()}, {Epoch: 0}}}, "many": {Past: append(slices.Repeat([]impl.Proof{two}, 300), one, three, impl.Proof{Epoch: 5})},
	} {
		for epoch, want := range map[int]impl.Proof{0: one, 1: two, 5: three} {
			if p, ok := askProof(t, n, epoch); !ok || !sameValue(p, want) {
				t.Errorf("%s, the epoch %d: %v %v", what, epoch, p, ok)
			}
		}
		for _, epoch := range append(greatNumbers(), -1, -5, 2, 3, 4, 6, 899, 900, 901) {
			if p, ok := askProof(t, n, epoch); ok || !sameValue(p, impl.Proof{}) {
				t.Errorf("%s, the epoch %d: %v %v", what, epoch, p, ok)
			}
		}
	}
	// The first one counts, also where it is none that is accepted, or of the zero value.
	zero := impl.Node{Epoch: 3, Past: []impl.Proof{{}, one, {Epoch: -1, Q: qcOf(1, 1, "a")}, {Epoch: -1}, {Epoch: math.MaxInt, Bs: []impl.Block{{}}}}}
	for epoch, want := range map[int]impl.Proof{0: {}, -1: {Epoch: -1, Q: qcOf(1, 1, "a")}, math.MaxInt: {Epoch: math.MaxInt, Bs: []impl.Block{{}}}} {
		if p, ok := askProof(t, zero, epoch); !ok || !sameValue(p, want) {
			t.Errorf("the epoch %d: %v %v", epoch, p, ok)
		}
	}
	for _, n := range []impl.Node{{}, {Epoch: 9}, crewNode("a"), busyNode()} {
		for epoch := -2; epoch < 10; epoch++ {
			askProof(t, n, epoch)
		}
	}
	for _, n := range wrongNodes() {
		n.Past = append(n.Past, one)
		if _, ok := askProof(t, n, 0); !ok {
			t.Errorf("a node that is not right has no Past: %s", nodeTold(n))
		}
	}
}

// pastUpTo: proofs of the epochs from one to another, each of those whom the one ahead of it names.
func pastUpTo(from, to int) []impl.Proof {
	var l []impl.Proof
	for epoch := from; epoch <= to; epoch++ {
		who := "a b c"
		if epoch > from {
			// Behind an End of the round 2 c has nearly all.
			who = "c"
		}
		l = append(l, proofTold(epoch, who, "1 2E 3"))
	}
	return l
}

// follows: of l and n it comes to this epoch, in so many steps.
func follows(t *testing.T, what string, l impl.Ledger, n impl.Node, epoch, many int) impl.Client {
	t.Helper()
	c, got := askFollow(t, l, n)
	if c.Epoch != epoch || got != many {
		t.Errorf("%s: %d steps to %v, not %d to %d", what, got, c, many, epoch)
	}
	return c
}

func TestFollowKnown(t *testing.T) {
	l := crewLedger()
	from := func(epoch int) impl.Ledger { return ledgerOf(epoch, l.Accts...) }
	with := func(past ...impl.Proof) impl.Node {
		return changed(crewNode("a"), func(n *impl.Node) { n.Past = past })
	}
	past := pastUpTo(0, 5)
	for many := range 7 {
		c := follows(t, "some", l, with(past[:many]...), many, many)
		if want := map[bool][]impl.Val{true: nextTold(2), false: fourVals()}[many > 0]; !sameValue(c.Set, want) {
			t.Errorf("%d proofs: %v", many, c)
		}
	}
	// Their order is nothing to go by: each one is looked for.
	follows(t, "turned", l, with(past[5], past[4], past[3], past[2], past[1], past[0]), 6, 6)
	follows(t, "in any order", l, with(past[3], past[0], past[5], past[2], past[1], past[4]), 6, 6)
	// A gap, or one that is not accepted, is where it ends, whatever comes behind.
	for gap := range 6 {
		follows(t, "a gap", l, with(slices.Delete(slices.Clone(past), gap, gap+1)...), gap, gap)
		wrong := slices.Clone(past)
		wrong[gap] = proofTold(gap, "a b", "1 2E 3")
		follows(t, "too few", l, with(wrong...), gap, gap)
		// The first one of an epoch counts, although a right one stands behind it.
		follows(t, "a wrong one ahead", l, with(append([]impl.Proof{wrong[gap]}, past...)...), gap, gap)
		follows(t, "a wrong one behind", l, with(append(slices.Clone(past), wrong[gap])...), 6, 6)
		follows(t, "an empty one ahead", l, with(append([]impl.Proof{{Epoch: gap}}, past...)...), gap, gap)
		wrong[gap] = proofTold(gap, "a b c", "1 2E 4")
		follows(t, "a round left out", l, with(wrong...), gap, gap)
	}
	// A ledger of a later epoch: it goes on from there, by what votes in it.
	for epoch := 1; epoch < 6; epoch++ {
		later := pastUpTo(epoch, 5)
		follows(t, "from later on", from(epoch), with(append(slices.Clone(past[:epoch]), later...)...), 6, 6-epoch)
		follows(t, "from later on, by those who do not vote there", from(epoch), with(past...), epoch, 0)
		follows(t, "from earlier on", l, with(later...), 0, 0)
	}
	for _, epoch := range []int{6, 7, 900} {
		follows(t, "behind all", from(epoch), with(past...), epoch, 0)
	}
	follows(t, "nothing to follow", l, impl.Node{}, 0, 0)
	follows(t, "no node", l, impl.Node{Name: "A", Round: -7, Past: past}, 6, 6)
	follows(t, "nobody votes", ledgerOf(0, impl.Acct{Name: "a", Free: 9, Stake: 4}), with(past...), 0, 0)
}

// It comes to an end, whatever a node has to show: behind the epoch 900 there is none.
func TestFollowToTheLastEpoch(t *testing.T) {
	last := ledgerOf(900, crewLedger().Accts...)
	same := changedProof(proofTold(900, "a b c", "1 2E 3"), func(p *impl.Proof) { p.Bs[1].Next = fourVals() })
	for _, past := range [][]impl.Proof{{same}, {same, same, same}, {same, proofTold(901, "a b c", "1 2E 3")}} {
		follows(t, "the last one", last, impl.Node{Past: past}, 901, 1)
	}
	follows(t, "none of it", last, impl.Node{Past: pastUpTo(897, 899)}, 900, 0)
	all := pastUpTo(0, 901)
	if c, many := impl.FollowAll(crewLedger(), impl.Node{Past: all}); c.Epoch != 901 || many != 901 {
		t.Errorf("all that there may be: %d steps to %v", many, c)
	}
	if c, many := impl.FollowAll(crewLedger(), impl.Node{Past: all[:900]}); c.Epoch != 900 || many != 900 {
		t.Errorf("all but the last: %d steps to %v", many, c)
	}
}

// comesAlong is promise 17: one who only follows comes to the epoch of the node, by each proof of its Past, one behind the other.
func comesAlong(t *testing.T, what string, l impl.Ledger, n impl.Node) {
	t.Helper()
	c, many := askFollow(t, l, n)
	if c.Epoch != n.Epoch || !sameValue(c.Set, n.Set) || many != len(n.Past) || many != n.Epoch-l.Epoch {
		t.Errorf("%s: %d steps to %v, not %s", what, many, c, nodeTold(n))
	}
	step := askClient(t, l)
	for i := range n.Past {
		p, ok := askProof(t, n, step.Epoch)
		next, is := askAccept(t, step, p)
		if !ok || !is || next.Epoch != step.Epoch+1 || !sameValue(p, n.Past[i]) {
			t.Errorf("%s: the proof of the epoch %d: %v %v, %v", what, step.Epoch, ok, is, next)
		}
		// What is over is accepted no more.
		stays(t, what+": once more", next, p)
		step = next
	}
	if !sameValue(step, c) {
		t.Errorf("%s: step by step to %v, at once to %v", what, step, c)
	}
	if _, ok := askProof(t, n, n.Epoch); ok {
		t.Errorf("%s: its own epoch is over", what)
	}
}

func allComeAlong(t *testing.T, what string, w impl.World) {
	t.Helper()
	for _, n := range w.Nodes {
		comesAlong(t, what+": "+n.Name, w.Base, n)
	}
}

func TestFollowSettledWorlds(t *testing.T) {
	far := 0
	for what, w := range safeLedgers() {
		allComeAlong(t, what+", new", w)
		for range 4 {
			w = impl.Settle(w, 3)
			allComeAlong(t, what, w)
		}
		if w.Nodes[0].Epoch >= 2 {
			far++
		}
	}
	// Where each second one is foul, no two rounds one behind the other come together: nothing is over there.
	if far != 8 {
		t.Errorf("%d worlds went on", far)
	}
	allComeAlong(t, "no nodes", impl.World{})
	w := farWorld()
	allComeAlong(t, "far apart", w)
	allComeAlong(t, "told of it", impl.Exchange(w))
}

// Who votes changes from epoch to epoch: some put in, and some take out.
func TestFollowOverSets(t *testing.T) {
	orders := [][]impl.Tx{
		{stakes(2, "a", 7, 0), pay("b", "e", 30, 0)}, {stakes(2, "e", 30, 0), stakes(3, "c", 10, 0)}, {stakes(3, "b", 6, 1), stakes(2, "a", 40, 1)}, {stakes(2, "c", 9, 1), stakes(3, "a", 50, 2)}, {stakes(3, "e", 28, 1), stakes(2, "b", 33, 2)},
	}
	// e has a node from the beginning on, and votes later.
	first := ledgerOf(0, append(crewLedger().Accts, impl.Acct{Name: "e", Free: 70})...)
	w, sets, bases := worldNewWanted(first, []string{"d"}), [][]impl.Val{fourVals()}, []impl.Ledger{first}
	for _, txs := range orders {
		for at := range w.Nodes {
			for _, x := range txs {
				w.Nodes[at], _ = submitWanted(w.Nodes[at], x)
			}
		}
		for before, many := w.Nodes[0].Epoch, 0; w.Nodes[0].Epoch == before && many < 20; many++ {
			w = impl.Settle(w, 1)
			allComeAlong(t, "as it goes", w)
		}
		sets, bases = append(sets, w.Nodes[0].Set), append(bases, w.Nodes[0].Base)
	}
	if len(sets) != 6 || !slices.Contains(namesOf(sets[2]), "e") || slices.Contains(namesOf(sets[2]), "c") || slices.Contains(namesOf(sets[5]), "e") {
		t.Fatalf("who votes: %v", sets)
	}
	for _, n := range w.Nodes {
		for many := range n.Past {
			short := changed(n, func(n *impl.Node) { n.Past = n.Past[:many] })
			if c := follows(t, "up to there", w.Base, short, many, many); !sameValue(c.Set, sets[many]) {
				t.Errorf("the epoch %d: %v, not %v", many, c, sets[many])
			}
			// From the ledger of an epoch it goes on as from the first one.
			if c := follows(t, "from there", bases[many], n, n.Epoch, n.Epoch-many); !sameValue(c.Set, n.Set) {
				t.Errorf("from the epoch %d: %v, not %v", many, c, n.Set)
			}
			// In an epoch in which others vote the same proof is none.
			p := n.Past[many]
			stays(t, "others vote", impl.Client{Epoch: p.Epoch, Set: valsTold("x:10 y:10 z:10")}, p)
		}
	}
}

// Promise 17, whatever is lost, late, forgotten or forged.
func TestFollowWhateverHappens(t *testing.T) {
	epochs, foul := 0, 0
	for what, begin := range safeLedgers() {
		for seed := range 12 {
			x := turmoilOf(1700+seed, begin)
			for turn := range 4 {
				x.goesOn(25)
				if turn%2 == 1 {
					x.w = impl.Settle(x.w, x.r.Intn(4))
				}
				if impl.Premise(x.w) && withinBounds(x.w) {
					allComeAlong(t, fmt.Sprintf("%s, the seed %d, the turn %d", what, seed, turn), x.w)
				}
			}
			for _, n := range x.w.Nodes {
				epochs += n.Epoch
				for _, p := range n.Past {
					if slices.ContainsFunc(p.Bs, func(b impl.Block) bool { return slices.Contains(x.w.Foul, b.By) }) {
						foul++
					}
				}
			}
		}
	}
	if epochs < 80 || foul < 10 {
		t.Errorf("too little happened: %d epochs, %d proofs with a foul one's block", epochs, foul)
	}
}

// In the epochs up to the last one it comes along; the last one ends into another one of the same number, and one who follows is behind all epochs then.
func TestFollowUpToTheLastEpoch(t *testing.T) {
	w := worldNewWanted(ledgerOf(898, crewLedger().Accts...), []string{"d"})
	for many := 0; w.Nodes[0].Epoch < 900 && many < 30; many++ {
		w = impl.Settle(w, 1)
		allComeAlong(t, "up to the last", w)
	}
	for many := 0; len(w.Nodes[0].Past) < 4 && many < 30; many++ {
		w = impl.Settle(w, 1)
	}
	follows(t, "behind the last", w.Base, w.Nodes[0], 901, 3)
}

// Proofs in which one thing or more is another one.
func TestAcceptOfProofsSpoilt(t *testing.T) {
	r := rand.New(rand.NewSource(17))
	begin := []clientCall{{C: crewClient(7), P: crewProof()}, {C: crewClient(900), P: proofTold(900, "a b d", "2E 4 7 8E 9")}, {C: impl.Client{Epoch: 900, Set: alikeVals(12, 1000000)}, P: fullProof()}, {C: crewClient(0), P: proofTold(0, "a b c d", "1E 2")}}
	did, not := 0, 0
	for i := range 20000 {
		c := apartFrom(begin[i%len(begin)])
		for range 1 + r.Intn(2) {
			x := reflect.ValueOf(&c.P).Elem()
			if r.Intn(5) == 0 {
				x = reflect.ValueOf(&c.C).Elem()
			}
			spoil(r, x)
		}
		if _, ok := askAccept(t, c.C, c.P); ok {
			did++
		} else {
			not++
		}
	}
	if did < 600 || not < 5000 {
		t.Errorf("too few: %d accepted, %d not", did, not)
	}
}

// Nodes and ledgers in which one thing or more is another one.
func TestFollowOfNodesSpoilt(t *testing.T) {
	r := rand.New(rand.NewSource(71))
	world := impl.Settle(crewWorld("d"), 12)
	begin := []clientCall{{L: world.Base, N: world.Nodes[1]}, {L: crewLedger(), N: impl.Node{Past: pastUpTo(0, 4)}}, {L: ledgerOf(898, crewLedger().Accts...), N: impl.Node{Past: pastUpTo(898, 900)}}}
	seen := map[int]int{}
	for i := range 5000 {
		c := apartFrom(begin[i%len(begin)])
		for range 1 + r.Intn(2) {
			x := reflect.ValueOf(&c.N.Past).Elem()
			if r.Intn(6) == 0 {
				x = reflect.ValueOf(&c.L).Elem()
			}
			spoil(r, x)
		}
		_, many := askFollow(t, c.L, c.N)
		seen[many]++
		askProof(t, c.N, c.L.Epoch+r.Intn(5))
		askClient(t, c.L)
	}
	for many := range 5 {
		if seen[many] < 100 {
			t.Errorf("too few: %v", seen)
		}
	}
}

// What is written into an answer is seen nowhere else, and no call keeps anything for another.
func TestClientsKeepNothing(t *testing.T) {
	var calls []keptCall
	full := impl.Client{Epoch: 900, Set: alikeVals(12, 1000000)}
	for _, l := range []impl.Ledger{crewLedger(), stakedBase(), {}, ledgerOf(901, crewLedger().Accts...)} {
		calls = append(calls, clientCall{Deed: "new", L: l})
		for _, n := range []impl.Node{{}, {Past: pastUpTo(0, 3)}, impl.Settle(crewWorld("d"), 9).Nodes[2]} {
			calls = append(calls, clientCall{Deed: "follow", L: l, N: n})
			for _, epoch := range []int{-1, 0, 1, 2} {
				calls = append(calls, clientCall{Deed: "proof", N: n, Epoch: epoch})
			}
		}
	}
	for _, c := range []impl.Client{{}, crewClient(7), full} {
		for _, p := range []impl.Proof{{}, crewProof(), fullProof(), proofTold(7, "a b", "1 2E 3")} {
			calls = append(calls, clientCall{Deed: "accept", C: c, P: p})
		}
	}
	keepNothing(t, calls)
}

// What lies behind the length of a list is no part of a proof, of a set, or of a Past.
func TestClientsReadNothingBehindLists(t *testing.T) {
	c, p := crewClient(7), proofTold(7, "a b c", "1 2E 3 4")
	short := p
	short.Bs, short.Q = p.Bs[:3], p.Bs[3].Qc
	accepts(t, "three of four", c, short, nextTold(2))
	short.Bs, short.Q = p.Bs[:2], p.Bs[2].Qc
	if _, ok := impl.Accept(c, short); ok {
		t.Error("the End is the last one, with others behind it")
	}
	few := p
	few.Q.Who = p.Q.Who[:2]
	if _, ok := impl.Accept(c, few); ok {
		t.Error("two of three certify")
	}
	set := impl.Client{Epoch: 7, Set: valsTold("a:10 b:10 c:10 d:20")[:3]}
	if _, ok := impl.Accept(set, p); !ok {
		t.Error("d votes not, and weighs nothing")
	}
	n := impl.Node{Past: pastUpTo(0, 5)[:3]}
	if c, many := impl.FollowAll(crewLedger(), n); c.Epoch != 3 || many != 3 {
		t.Errorf("behind the Past: %v %d", c, many)
	}
	if _, ok := impl.ProofOf(n, 3); ok {
		t.Error("a proof behind the Past")
	}
}

// Very many proofs and blocks are told in no long time.
func TestFollowOfVeryMany(t *testing.T) {
	n := impl.Node{Past: append(slices.Repeat([]impl.Proof{{Epoch: -1}}, 1<<16), pastUpTo(0, 900)...)}
	if c, many := impl.FollowAll(crewLedger(), n); c.Epoch != 901 || many != 901 {
		t.Errorf("very many proofs: %v %d", c, many)
	}
	p := crewProof()
	p.Bs = append(p.Bs, make([]impl.Block, 1<<16)...)
	if _, ok := impl.Accept(crewClient(7), p); ok {
		t.Error("very many blocks")
	}
	p = crewProof()
	p.Q.Who = slices.Repeat([]string{"a", "b", "c"}, 1<<16)
	if _, ok := impl.Accept(crewClient(7), p); ok {
		t.Error("very many names")
	}
	if c, ok := impl.Accept(impl.Client{Epoch: 7, Set: alikeVals(1<<12, 1)}, p); ok || len(c.Set) != 1<<12 {
		t.Error("very many who vote")
	}
}
