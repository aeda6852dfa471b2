package tests

import (
	"fmt"
	"math"
	"math/rand"
	"reflect"
	"slices"
	"strings"
	"testing"

	"loop.example/g00194/impl"
)

func nodeWanted(n impl.Node) bool {
	if !nameWanted(n.Name) || !ledgerWanted(n.Base) || n.Base.Epoch != n.Epoch || !poolWanted(n.Pool) || len(n.Set) > 0 && !setWanted(n.Set) || !treeWanted(n.Tree) {
		return false
	}
	if slices.ContainsFunc(n.Tree, func(b impl.Block) bool { return b.Epoch != n.Base.Epoch }) || outside(n.Round, 1, 10000) || outside(n.Voted, 0, 10000) || outside(n.Led, 0, 10000) {
		return false
	}
	if !qcWanted(n.Set, n.High) || !tcWanted(n.Set, n.Tc) || n.High.Round >= n.Round || n.Tc.Round >= n.Round {
		return false
	}
	return len(n.Votes) <= 1000 && len(n.Gones) <= 1000 && len(n.Done) <= 200 && len(n.Past) <= 200
}

func newWanted(name string, l impl.Ledger) impl.Node {
	if !nameWanted(name) || !ledgerWanted(l) {
		return impl.Node{}
	}
	return impl.Node{Name: name, Epoch: l.Epoch, Base: l, Set: setOfWanted(l), Round: 1, High: rootQc()}
}

// qcLearnt is n behind q, and whether that ended its epoch. It goes from block to block, and sees the End as it comes to it.
func qcLearnt(n impl.Node, q impl.Qc) (impl.Node, bool) {
	if !qcWanted(n.Set, q) {
		return n, false
	}
	if n.High.Round < q.Round {
		n.High = q
	}
	if n.Round <= q.Round {
		n.Round = q.Round + 1
	}
	sure := commitIdWanted(n.Tree, q)
	n.Done = slices.Clone(n.Done)
	for _, id := range chainWanted(n.Tree, sure) {
		b, _ := blockAtIdWanted(n.Tree, id)
		if !slices.Contains(n.Done, id) {
			n.Done = append(n.Done, id)
		}
		there, _ := ledgerAtWanted(n.Base, n.Tree, id)
		if id == sure || b.End {
			n.Pool = dropWanted(n.Pool, there)
		}
		if !b.End {
			continue
		}
		p := impl.Proof{Epoch: n.Epoch, Q: q}
		for _, x := range chainWanted(n.Tree, q.Block) {
			y, _ := blockAtIdWanted(n.Tree, x)
			p.Bs = append(p.Bs, y)
		}
		next := newWanted(n.Name, nextWanted(there))
		next.Set, next.Done, next.Pool, next.Past = b.Next, n.Done, n.Pool, append(slices.Clone(n.Past), p)
		return next, true
	}
	return n, false
}

func tcLearnt(n impl.Node, x impl.Tc) impl.Node {
	if tcWanted(n.Set, x) && n.Tc.Round < x.Round {
		n.Tc = x
	}
	if tcWanted(n.Set, x) && n.Round <= x.Round {
		n.Round = x.Round + 1
	}
	return n
}

// blockTaken is n behind b, whether it was taken, and whether that ended the epoch.
func blockTaken(n impl.Node, b impl.Block) (impl.Node, bool, bool) {
	right := blockWanted(b) && b.Epoch == n.Epoch && b.By == leaderWanted(n.Set, b.Round) && qcWanted(n.Set, b.Qc) && tcWanted(n.Set, b.Tc) && followsWanted(b)
	tree, added := addWanted(n.Tree, b)
	if !right || !added || !bodyWanted(n.Base, n.Tree, b) {
		return n, false, false
	}
	n.Tree = tree
	n, over := qcLearnt(n, b.Qc)
	if over {
		return n, true, true
	}
	n = tcLearnt(n, b.Tc)
	if n.High.Round == b.Round && n.High.Block == b.Id {
		n, over = qcLearnt(n, n.High)
	}
	return n, true, over
}

// toOthers: the word, to each other one who votes.
func toOthers(n impl.Node, m impl.Msg) []impl.Msg {
	var l []impl.Msg
	for _, name := range namesOf(n.Set) {
		if name != n.Name {
			m.To = name
			l = append(l, m)
		}
	}
	return l
}

func hearWanted(n impl.Node, m impl.Msg) (impl.Node, []impl.Msg, []impl.Sig) {
	if !nodeWanted(n) || !wordWanted(m) || m.To != n.Name || m.Epoch != n.Epoch {
		return n, nil, nil
	}
	switch m.Kind {
	case 1:
		return propHeard(n, m.Bs[0])
	case 2:
		return voteHeard(n, m.V), nil, nil
	case 3:
		return goneHeard(n, m.G, m.Q), nil, nil
	}
	over := false
	for _, b := range m.Bs {
		if n, _, over = blockTaken(n, b); over {
			return n, nil, nil
		}
	}
	if n, over = qcLearnt(n, m.Q); over {
		return n, nil, nil
	}
	return tcLearnt(n, m.T), nil, nil
}

func propHeard(n impl.Node, b impl.Block) (impl.Node, []impl.Msg, []impl.Sig) {
	n, taken, over := blockTaken(n, b)
	if !taken || over || n.Round != b.Round || n.Voted >= b.Round || !slices.Contains(namesOf(n.Set), n.Name) {
		return n, nil, nil
	}
	n.Voted = b.Round
	m := impl.Msg{Kind: 2, To: n.Name, Epoch: n.Epoch, V: impl.Vote{Round: b.Round, Block: b.Id, Who: n.Name}, Q: rootQc()}
	after, _, _ := hearWanted(n, m)
	return after, toOthers(n, m), sigsWanted(m)
}

func voteHeard(n impl.Node, v impl.Vote) impl.Node {
	if !slices.Contains(namesOf(n.Set), v.Who) {
		return n
	}
	if len(n.Votes) < 1000 && !slices.Contains(n.Votes, v) {
		n.Votes = append(slices.Clone(n.Votes), v)
	}
	if q, ok := gatherQcWanted(n.Set, n.Votes, v.Round, v.Block); ok {
		n, _ = qcLearnt(n, q)
	}
	return n
}

func goneHeard(n impl.Node, g impl.Gone, q impl.Qc) impl.Node {
	if !slices.Contains(namesOf(n.Set), g.Who) || !qcWanted(n.Set, q) {
		return n
	}
	n, over := qcLearnt(n, q)
	if over {
		return n
	}
	if len(n.Gones) < 1000 && !slices.Contains(n.Gones, g) {
		n.Gones = append(slices.Clone(n.Gones), g)
	}
	if x, ok := gatherTcWanted(n.Set, n.Gones, g.Round); ok {
		n = tcLearnt(n, x)
	}
	return n
}

func leaveWanted(n impl.Node) (impl.Node, []impl.Msg, []impl.Sig) {
	if !nodeWanted(n) || !slices.Contains(namesOf(n.Set), n.Name) || n.Round < n.Voted {
		return n, nil, nil
	}
	n.Voted = n.Round
	g := impl.Gone{Round: n.Round, High: n.High.Round, Who: n.Name}
	m := impl.Msg{Kind: 3, To: n.Name, Epoch: n.Epoch, G: g, Q: n.High}
	after, _, _ := hearWanted(n, m)
	return after, toOthers(n, m), []impl.Sig{{Kind: 2, Epoch: n.Epoch, Round: g.Round, What: g.High, Who: g.Who}}
}

func leadWanted(n impl.Node, id int) (impl.Node, []impl.Block, []impl.Msg, []impl.Sig) {
	_, there := blockAtIdWanted(n.Tree, n.High.Block)
	if !nodeWanted(n) || leaderWanted(n.Set, n.Round) != n.Name || n.Led >= n.Round || n.High.Round > 0 && !there {
		return n, nil, nil, nil
	}
	b := impl.Block{Id: id, Epoch: n.Epoch, Round: n.Round, By: n.Name, Qc: n.High, Tc: n.Tc}
	if n.High.Round+1 == n.Round {
		b.Tc = impl.Tc{}
	}
	b = makeWanted(n.Base, n.Tree, n.High.Block, n.Pool).in(b)
	if !blockWanted(b) || !followsWanted(b) {
		return n, nil, nil, nil
	}
	n.Led = n.Round
	m := impl.Msg{Kind: 1, To: n.Name, Epoch: n.Epoch, Bs: []impl.Block{b}, Q: rootQc()}
	after, said, sigs := hearWanted(n, m)
	return after, []impl.Block{b}, append(toOthers(n, m), said...), sigs
}

func submitWanted(n impl.Node, x impl.Tx) (impl.Node, bool) {
	if !nodeWanted(n) {
		return n, false
	}
	pool, ok := poolAddWanted(n.Pool, x)
	n.Pool = pool
	return n, ok
}

func rebootWanted(n impl.Node) impl.Node {
	if nodeWanted(n) {
		n.Votes, n.Gones, n.Pool = nil, nil, nil
	}
	return n
}

func shareOfWanted(n impl.Node, epoch int, to string) (impl.Msg, bool) {
	m := impl.Msg{Kind: 4, To: to, Epoch: epoch, Bs: n.Tree, Q: n.High, T: n.Tc}
	if !nodeWanted(n) || epoch > n.Epoch {
		return impl.Msg{}, false
	}
	if epoch == n.Epoch {
		return m, true
	}
	for _, p := range n.Past {
		if p.Epoch == epoch {
			m.Bs, m.Q, m.T = p.Bs, p.Q, impl.Tc{}
			return m, true
		}
	}
	return impl.Msg{}, false
}

// A nodeCall is one thing that a node is asked to do.
type nodeCall struct {
	Deed string
	N    impl.Node
	M    impl.Msg
	X    impl.Tx
	// The Id that is led with, or the epoch that is shared.
	Num int
	To  string
}

func (c nodeCall) ask() []any {
	switch c.Deed {
	case "ok":
		return []any{impl.NodeOk(c.N)}
	case "new":
		return []any{impl.NodeNew(c.To, c.N.Base)}
	case "hear":
		return listed3(impl.Hear(c.N, c.M))
	case "leave":
		return listed3(impl.LeaveRound(c.N))
	case "lead":
		n, made, said, sigs := impl.Lead(c.N, c.Num)
		return []any{n, made, said, sigs}
	case "submit":
		return listed2(impl.Submit(c.N, c.X))
	case "reboot":
		return []any{impl.Reboot(c.N)}
	}
	return listed2(impl.ShareOf(c.N, c.Num, c.To))
}

func (c nodeCall) wanted() []any {
	switch c.Deed {
	case "ok":
		return []any{nodeWanted(c.N)}
	case "new":
		return []any{newWanted(c.To, c.N.Base)}
	case "hear":
		return listed3(hearWanted(c.N, c.M))
	case "leave":
		return listed3(leaveWanted(c.N))
	case "lead":
		n, made, said, sigs := leadWanted(c.N, c.Num)
		return []any{n, made, said, sigs}
	case "submit":
		return listed2(submitWanted(c.N, c.X))
	case "reboot":
		return []any{rebootWanted(c.N)}
	}
	return listed2(shareOfWanted(c.N, c.Num, c.To))
}

func listed2[A, B any](a A, b B) []any { return []any{a, b} }

func listed3[A, B, C any](a A, b B, c C) []any { return []any{a, b, c} }

func (c nodeCall) String() string {
	return fmt.Sprintf("%s %d %q %v of %s\n  %s", c.Deed, c.Num, c.To, c.X, nodeTold(c.N), wordTold(c.M))
}

// nodeTold leaves out the parts that are zero.
func nodeTold(n impl.Node) string {
	v, s := reflect.ValueOf(n), ""
	for i := range v.NumField() {
		if f := v.Field(i); !f.IsZero() && (f.Kind() != reflect.Slice || f.Len() > 0) {
			s += fmt.Sprintf(" %s:%.300s", v.Type().Field(i).Name, fmt.Sprintf("%+v", f.Interface()))
		}
	}
	return s
}

// nodeDiffers tells the parts in which two nodes are not the same.
func nodeDiffers(a, b impl.Node) string {
	x, y, s := reflect.ValueOf(a), reflect.ValueOf(b), ""
	for i := range x.NumField() {
		if !sameParts(x.Field(i), y.Field(i)) {
			s += fmt.Sprintf("\n  %s: %.700s, not %.700s", x.Type().Field(i).Name, fmt.Sprintf("%+v", x.Field(i).Interface()), fmt.Sprintf("%+v", y.Field(i).Interface()))
		}
	}
	return s
}

// nodeAsked asks, and holds the answers against what is wanted, against the conventions and against the promise.
func nodeAsked(t *testing.T, c nodeCall) []any {
	t.Helper()
	args := withRoom(c)
	whole := memoryPrint(args)
	got, want := args.ask(), c.wanted()
	for i := range want {
		if !sameValue(got[i], want[i]) {
			t.Errorf("%v\n  answer %d: %.1500s, not %.1500s", c, i, fmt.Sprintf("%+v", got[i]), fmt.Sprintf("%+v", want[i]))
		}
	}
	if a, ok := got[0].(impl.Node); ok {
		if differs := nodeDiffers(a, want[0].(impl.Node)); differs != "" {
			t.Errorf("%v: the node%s", c, differs)
		}
		if c.Deed != "new" && nodeWanted(c.N) {
			checkStaysRight(t, c, a, got)
		}
	}
	if memoryPrint(args) != whole {
		t.Errorf("%v: wrote into an argument, or behind it", c)
	}
	if shared := sharesMemory(got, []any{args.N, args.M}); shared != "" {
		t.Errorf("%v: memory is shared: %s", c, shared)
	}
	return got
}

// checkStaysRight is promise 14: a right node stays right, what is certain stays so, and it votes once a round.
func checkStaysRight(t *testing.T, c nodeCall, after impl.Node, got []any) {
	t.Helper()
	if after.Round < 10000 && len(after.Done) < 200 && len(after.Past) < 200 && !impl.NodeOk(after) {
		t.Errorf("%v: not right any more: %s", c, nodeTold(after))
	}
	if len(after.Done) < len(c.N.Done) || !slices.Equal(after.Done[:len(c.N.Done)], c.N.Done) || len(after.Past) < len(c.N.Past) || !sameValue(after.Past[:len(c.N.Past)], c.N.Past) {
		t.Errorf("%v: what was certain is not: %v, %d proofs", c, after.Done, len(after.Past))
	}
	sameEpoch := len(after.Past) == len(c.N.Past)
	if sameEpoch && (after.Round < c.N.Round || after.High.Round < c.N.High.Round || after.Tc.Round < c.N.Tc.Round || after.Epoch != c.N.Epoch || !sameLedger(after.Base, c.N.Base)) {
		t.Errorf("%v: went back: %s", c, nodeTold(after))
	}
	if sameEpoch && after.Voted < c.N.Voted {
		t.Errorf("%v: forgot that it voted: %s", c, nodeTold(after))
	}
	sigs, ok := got[len(got)-1].([]impl.Sig)
	if !ok {
		return
	}
	if len(sigs) > 1 {
		t.Errorf("%v: signed %v", c, sigs)
	}
	for _, s := range sigs {
		if s.Who != c.N.Name || s.Epoch != c.N.Epoch || s.Kind == 1 && s.Round <= c.N.Voted || sameEpoch && after.Voted != s.Round {
			t.Errorf("%v: signed %v, Voted %d", c, s, after.Voted)
		}
	}
}

func askHear(t *testing.T, n impl.Node, m impl.Msg) (impl.Node, []impl.Msg, []impl.Sig) {
	t.Helper()
	a := nodeAsked(t, nodeCall{Deed: "hear", N: n, M: m})
	return a[0].(impl.Node), a[1].([]impl.Msg), a[2].([]impl.Sig)
}

func askLeave(t *testing.T, n impl.Node) (impl.Node, []impl.Msg, []impl.Sig) {
	t.Helper()
	a := nodeAsked(t, nodeCall{Deed: "leave", N: n})
	return a[0].(impl.Node), a[1].([]impl.Msg), a[2].([]impl.Sig)
}

func askLead(t *testing.T, n impl.Node, id int) (impl.Node, []impl.Block, []impl.Msg, []impl.Sig) {
	t.Helper()
	a := nodeAsked(t, nodeCall{Deed: "lead", N: n, Num: id})
	return a[0].(impl.Node), a[1].([]impl.Block), a[2].([]impl.Msg), a[3].([]impl.Sig)
}

func askSubmit(t *testing.T, n impl.Node, x impl.Tx) (impl.Node, bool) {
	t.Helper()
	a := nodeAsked(t, nodeCall{Deed: "submit", N: n, X: x})
	return a[0].(impl.Node), a[1].(bool)
}

func askReboot(t *testing.T, n impl.Node) impl.Node {
	t.Helper()
	return nodeAsked(t, nodeCall{Deed: "reboot", N: n})[0].(impl.Node)
}

func askShare(t *testing.T, n impl.Node, epoch int, to string) (impl.Msg, bool) {
	t.Helper()
	a := nodeAsked(t, nodeCall{Deed: "share", N: n, Num: epoch, To: to})
	return a[0].(impl.Msg), a[1].(bool)
}

func askNew(t *testing.T, name string, l impl.Ledger) impl.Node {
	t.Helper()
	return nodeAsked(t, nodeCall{Deed: "new", N: impl.Node{Base: l}, To: name})[0].(impl.Node)
}

func askOk(t *testing.T, n impl.Node) bool {
	t.Helper()
	return nodeAsked(t, nodeCall{Deed: "ok", N: n})[0].(bool)
}

// isNode: the node is this one, in every part.
func isNode(t *testing.T, what string, got, want impl.Node) {
	t.Helper()
	if differs := nodeDiffers(got, want); differs != "" {
		t.Errorf("%s:%s", what, differs)
	}
}

// hears: this word makes the node that one, and it says and signs nothing.
func hears(t *testing.T, what string, n impl.Node, m impl.Msg, want impl.Node) {
	t.Helper()
	after, said, sigs := askHear(t, n, m)
	isNode(t, what, after, want)
	if len(said) != 0 || len(sigs) != 0 {
		t.Errorf("%s: said %v, signed %v", what, said, sigs)
	}
}

// unheard: this word changes nothing.
func unheard(t *testing.T, what string, n impl.Node, m impl.Msg) {
	t.Helper()
	hears(t, "unheard: "+what, n, m, n)
}

// changed is n, changed, and in memory of its own.
func changed(n impl.Node, change func(n *impl.Node)) impl.Node {
	n = apartFrom(n)
	change(&n)
	return n
}

// crewLedger: a, b, c and d have 100 free and 10 at stake each: three of them are a quorum, and b leads the rounds 1 and 5, c 2 and 6, d 3 and 7, a 4 and 8.
func crewLedger() impl.Ledger {
	l := ledgerOf(0)
	for _, name := range []string{"a", "b", "c", "d"} {
		l.Accts = append(l.Accts, impl.Acct{Name: name, Free: 100, Stake: 10})
	}
	return l
}

func crewNode(name string) impl.Node { return newWanted(name, crewLedger()) }

// aloneLedger: a alone votes; b has less than MinStake at stake.
func aloneLedger() impl.Ledger {
	return ledgerOf(3, impl.Acct{Name: "a", Free: 50, Stake: 8}, impl.Acct{Name: "b", Free: 50, Stake: 4})
}

// certOf: that a, b and c voted for this block.
func certOf(b impl.Block) impl.Qc { return qcOf(b.Round, b.Id, "a b c") }

// blockFor is a right block of the node's epoch, behind a block of its tree, out of these orders.
func blockFor(n impl.Node, id, round int, q impl.Qc, x impl.Tc, txs ...impl.Tx) impl.Block {
	b := impl.Block{Id: id, Epoch: n.Epoch, Round: round, By: leaderWanted(n.Set, round), Qc: q, Tc: x}
	return makeWanted(n.Base, n.Tree, q.Block, txs).in(b)
}

// rowFor: n right blocks behind the root, one behind the other, of the rounds 1 to n; the second one is the End. txs: what each does.
func rowFor(of impl.Node, first, n int, txs ...[]impl.Tx) []impl.Block {
	q := rootQc()
	for i := range n {
		var do []impl.Tx
		if i < len(txs) {
			do = txs[i]
		}
		b := blockFor(of, first+i, i+1, q, impl.Tc{}, do...)
		of.Tree, q = append(slices.Clone(of.Tree), b), certOf(b)
	}
	return of.Tree
}

// knowing: the node in the round behind q, with these blocks.
func knowing(name string, q impl.Qc, l ...impl.Block) impl.Node {
	n := crewNode(name)
	n.Tree, n.High, n.Round = l, q, q.Round+1
	return n
}

// toNode is m, to this node, in its epoch.
func toNode(n impl.Node, m impl.Msg) impl.Msg {
	m = inEpoch(m, n.Epoch)
	m.To = n.Name
	return m
}

func TestNodeNewOfSeveral(t *testing.T) {
	n := askNew(t, "b", crewLedger())
	isNode(t, "of several", n, impl.Node{Name: "b", Base: crewLedger(), Set: valsTold("a:10 b:10 c:10 d:10"), Round: 1, High: impl.Qc{Block: -1}})
	isNode(t, "one alone", askNew(t, "a", aloneLedger()), impl.Node{Name: "a", Epoch: 3, Base: aloneLedger(), Set: valsTold("a:8"), Round: 1, High: impl.Qc{Block: -1}})
	nobody := ledgerOf(900, impl.Acct{Name: "a", Free: 7, Stake: 4, Leaves: leavesAt(3, 901)})
	isNode(t, "nobody", askNew(t, "a", nobody), impl.Node{Name: "a", Epoch: 900, Base: nobody, Round: 1, High: impl.Qc{Block: -1}})
	isNode(t, "no accounts", askNew(t, "zz", ledgerOf(0)), impl.Node{Name: "zz", Round: 1, High: impl.Qc{Block: -1}})
	for _, name := range []string{"e", "zzzzzzzz", "0", "a1"} {
		if n := askNew(t, name, crewLedger()); n.Name != name || len(n.Set) != 4 || !askOk(t, n) {
			t.Errorf("one who has no account: %s", nodeTold(n))
		}
	}
	for _, l := range append(someBases(), ledgerOf(0, letteredAccts(12, 3)...), ledgerOf(7, threeAccts()...)) {
		if n := askNew(t, "ann", l); askOk(t, n) != ledgerWanted(l) {
			t.Errorf("of %v: %s", l, nodeTold(n))
		}
	}
}

func TestNodeNewRefuses(t *testing.T) {
	for _, name := range noNames() {
		isNode(t, fmt.Sprintf("the name %.20q", name), askNew(t, name, crewLedger()), impl.Node{})
	}
	for i, l := range wrongLedgers() {
		isNode(t, fmt.Sprintf("the ledger %d", i), askNew(t, "a", l), impl.Node{})
	}
	if askOk(t, impl.Node{}) {
		t.Error("the zero node is right")
	}
}

// busyNode has something in each of its parts: c of the crew, in the round 6 of the epoch 4, which it leads, and has voted, led and heard.
func busyNode() impl.Node {
	n := newWanted("c", ledgerOf(4, crewLedger().Accts...))
	row := rowFor(n, 3, 2, []impl.Tx{pay("a", "b", 5, 0)}, []impl.Tx{stakes(2, "c", 7, 0)})
	n.Tree = append(row, with(row[0], func(b *impl.Block) { b.Id, b.Round, b.By, b.Txs, b.Tc = 9, 4, "a", nil, tcOf(3, "b c d", 0, 0, 0) }))
	n.Round, n.Voted, n.Led, n.High, n.Tc = 6, 4, 2, certOf(row[1]), tcOf(5, "a b d", 2, 0, 1)
	n.Votes, n.Gones = votesTold("1/3/a 1/3/b 1/3/c 2/4/a 2/4/b 2/4/c 4/9/c"), gonesTold("5/2/a 5/0/b 5/1/d 3/0/c")
	n.Done, n.Pool = []int{0, 1, 3}, poolOf(pay("a", "d", 3, 1), stakes(2, "b", 2, 0), stakes(3, "c", 1, 1))
	old := rowFor(crewNode("a"), 0, 3)
	n.Past = []impl.Proof{{Epoch: 3, Bs: old, Q: certOf(old[2])}}
	return n
}

// fullOf has as many in each list as there may be.
func fullOf(n impl.Node) impl.Node {
	for i := range 1000 {
		n.Votes, n.Gones = append(n.Votes, impl.Vote{Round: 101 + i, Block: i, Who: "a"}), append(n.Gones, impl.Gone{Round: 101 + i, High: i, Who: "d"})
	}
	n.Votes, n.Gones = n.Votes[len(n.Votes)-1000:], n.Gones[len(n.Gones)-1000:]
	n.Done, n.Past = nil, nil
	for i := range 200 {
		n.Done, n.Past = append(n.Done, 1000+i), append(n.Past, impl.Proof{Epoch: i, Q: rootQc()})
	}
	n.Pool = poolOf(manyOrders(20)...)
	return n
}

func rightNodes() map[string]impl.Node {
	busy := busyNode()
	out := map[string]impl.Node{
		"new": crewNode("a"), "alone": newWanted("a", aloneLedger()), "nobody votes": newWanted("a", ledgerOf(3)), "busy": busy, "full": fullOf(busy), "of the last epoch": newWanted("c", ledgerOf(900, crewLedger().Accts...)), "not in Set": crewNode("zed"),
	}
	for what, change := range map[string]func(n *impl.Node){
		"the last round": func(n *impl.Node) { n.Round = 10000 }, "the first round": func(n *impl.Node) { n.Round, n.High, n.Tc = 1, rootQc(), impl.Tc{} }, "Voted and Led of nothing": func(n *impl.Node) { n.Voted, n.Led = 0, 0 }, "the last Voted": func(n *impl.Node) { n.Voted = 10000 }, "the last Led": func(n *impl.Node) { n.Led = 10000 },
		"High one below": func(n *impl.Node) { n.High = qcOf(5, 77, "b c d") }, "High far below": func(n *impl.Node) { n.High = qcOf(1, 3, "a b c d") }, "High of the last but one": func(n *impl.Node) { n.Round, n.High = 10000, qcOf(9999, 100000, "a b c") }, "Tc of the last but one": func(n *impl.Node) { n.Round, n.Tc = 10000, tcOf(9999, "a b c", 0, 9998, 2) },
		"Tc one below": func(n *impl.Node) { n.Tc = tcOf(5, "a b c d", 4, 4, 4, 4) }, "no Tc": func(n *impl.Node) { n.Tc = impl.Tc{} }, "a Set of another ledger": func(n *impl.Node) { n.Set = valsTold("a:9 b:9 c:9 d:9 z:1") }, "no Tree": func(n *impl.Node) { n.Tree = nil }, "999 votes": func(n *impl.Node) { *n = fullOf(*n); n.Votes = n.Votes[1:] },
		"votes and leavings of anything": func(n *impl.Node) {
			n.Votes, n.Gones = []impl.Vote{{}, {}, {Round: -1, Block: math.MaxInt, Who: "A"}}, []impl.Gone{{}, {}, {Round: math.MinInt, High: 9, Who: ""}}
		},
		"anything done and past": func(n *impl.Node) {
			n.Done, n.Past = []int{5, 5, -1, math.MaxInt}, []impl.Proof{{}, {Epoch: -7, Bs: []impl.Block{{}}, Q: qcOf(9, -9, "q")}, {Epoch: 4}, {Epoch: 5}, {Epoch: 900}}
		},
		"nothing heard": func(n *impl.Node) { n.Votes, n.Gones, n.Done, n.Pool, n.Past = nil, nil, nil, nil, nil },
	} {
		out[what] = changed(busy, change)
	}
	return out
}

// wrongNodes: the busy node with one part that is not right, each with what it is.
func wrongNodes() map[string]impl.Node {
	out := map[string]impl.Node{"zero": {}}
	put := func(what string, change func(n *impl.Node)) { out[what] = changed(busyNode(), change) }
	for what, change := range map[string]func(n *impl.Node){
		"Epoch one more": func(n *impl.Node) { n.Epoch++ }, "Epoch one less": func(n *impl.Node) { n.Epoch-- }, "Base of another epoch": func(n *impl.Node) { n.Base.Epoch = 5 }, "both of another epoch than Tree": func(n *impl.Node) { n.Base.Epoch, n.Epoch = 5, 5 }, "both of no epoch": func(n *impl.Node) { n.Base.Epoch, n.Epoch, n.Tree = 901, 901, nil }, "both below 0": func(n *impl.Node) { n.Base.Epoch, n.Epoch, n.Tree = -1, -1, nil },
		"Base not in order": func(n *impl.Node) { slices.Reverse(n.Base.Accts) }, "Base below 0": func(n *impl.Node) { n.Base.Accts[3].Free = -1 },
		"Set not in order": func(n *impl.Node) { slices.Reverse(n.Set) }, "Set of no weight": func(n *impl.Node) { n.Set[3].Weight = 0 }, "Set of 13": func(n *impl.Node) { n.Set, n.High, n.Tc = letteredVals(make([]int, 13)...), rootQc(), impl.Tc{} }, "no Set": func(n *impl.Node) { n.Set = nil }, "Set without one of High": func(n *impl.Node) { n.Set = valsTold("a:9 b:9 d:9"); n.Tc = impl.Tc{} }, "Set without one of Tc": func(n *impl.Node) { n.Set = valsTold("a:9 b:9 c:9"); n.Tc = tcOf(5, "a b d", 0, 0, 0) },
		"Tree not in order": func(n *impl.Node) { slices.Reverse(n.Tree) }, "Tree without its first": func(n *impl.Node) { n.Tree = n.Tree[1:] }, "one block of another epoch": func(n *impl.Node) { n.Tree[2].Epoch = 3 }, "Tree of another epoch": func(n *impl.Node) { n.Tree = rowFor(crewNode("a"), 0, 3) }, "Tree of 401": func(n *impl.Node) {
			n.Tree = bushTold(401)
			for i := range n.Tree {
				n.Tree[i].Epoch = 4
			}
		},
		"Round 0": func(n *impl.Node) { n.Round, n.High, n.Tc = 0, rootQc(), impl.Tc{} }, "Round 10001": func(n *impl.Node) { n.Round = 10001 }, "Voted -1": func(n *impl.Node) { n.Voted = -1 }, "Voted 10001": func(n *impl.Node) { n.Voted = 10001 }, "Led -1": func(n *impl.Node) { n.Led = -1 }, "Led 10001": func(n *impl.Node) { n.Led = 10001 },
		"High of Round": func(n *impl.Node) { n.High = qcOf(6, 4, "a b c") }, "High above Round": func(n *impl.Node) { n.High = qcOf(7, 4, "a b c") }, "High of too few": func(n *impl.Node) { n.High.Who = []string{"a", "b"} }, "High of a stranger": func(n *impl.Node) { n.High.Who = []string{"a", "b", "c", "z"} }, "High not in order": func(n *impl.Node) { n.High.Who = []string{"c", "b", "a"} }, "High zero": func(n *impl.Node) { n.High = impl.Qc{} }, "High below the root": func(n *impl.Node) { n.High = impl.Qc{Block: -2} }, "High of the root with names": func(n *impl.Node) { n.High = qcOf(0, -1, "a b c") }, "High of a great Block": func(n *impl.Node) { n.High.Block = 100001 },
		"Tc of Round": func(n *impl.Node) { n.Tc = tcOf(6, "a b d", 2, 0, 1) }, "Tc above Round": func(n *impl.Node) { n.Tc = tcOf(7, "a b d", 2, 0, 1) }, "Tc of too few": func(n *impl.Node) { n.Tc = tcOf(5, "a b", 2, 0) }, "Tc of a stranger": func(n *impl.Node) { n.Tc = tcOf(5, "a b c z", 2, 0, 1, 1) }, "Tc with a High too few": func(n *impl.Node) { n.Tc.Highs = n.Tc.Highs[:2] }, "Tc with a High of its Round": func(n *impl.Node) { n.Tc.Highs[1] = 5 }, "Tc with a High below 0": func(n *impl.Node) { n.Tc.Highs[1] = -1 }, "Tc none with a name": func(n *impl.Node) { n.Tc = tcOf(0, "a") }, "the first round with a High": func(n *impl.Node) { n.Round, n.Tc = 1, impl.Tc{} },
		"1001 Votes": func(n *impl.Node) { n.Votes = slices.Repeat(votesTold("1/3/a"), 1001) }, "1001 Gones": func(n *impl.Node) { n.Gones = slices.Repeat(gonesTold("1/0/a"), 1001) }, "201 Done": func(n *impl.Node) { n.Done = make([]int, 201) }, "201 Past": func(n *impl.Node) { n.Past = make([]impl.Proof, 201) },
		"Pool not in order": func(n *impl.Node) { slices.Reverse(n.Pool) }, "Pool with a zero order": func(n *impl.Node) { n.Pool = append(n.Pool, impl.Tx{}) }, "Pool of 21": func(n *impl.Node) { n.Pool = poolOf(manyOrders(21)...) },
	} {
		put(what, change)
	}
	for i, name := range noNames() {
		put(fmt.Sprintf("Name %d", i), func(n *impl.Node) { n.Name = name })
	}
	for _, number := range greatNumbers() {
		for _, field := range []string{"Epoch", "Round", "Voted", "Led"} {
			put(fmt.Sprintf("%s %d", field, number), func(n *impl.Node) { reflect.ValueOf(n).Elem().FieldByName(field).SetInt(int64(number)) })
		}
		put(fmt.Sprintf("High of the round %d", number), func(n *impl.Node) { n.High.Round = number })
		put(fmt.Sprintf("Tc of the round %d", number), func(n *impl.Node) { n.Tc.Round = number })
		put(fmt.Sprintf("Epoch and Base's %d", number), func(n *impl.Node) { n.Epoch, n.Base.Epoch, n.Tree = number, number, nil })
	}
	return out
}

func TestNodeOkEdges(t *testing.T) {
	for what, n := range rightNodes() {
		if !askOk(t, n) {
			t.Errorf("%s: not right: %s", what, nodeTold(n))
		}
	}
	for what, n := range wrongNodes() {
		if askOk(t, n) {
			t.Errorf("%s: right: %s", what, nodeTold(n))
		}
	}
	n := busyNode()
	for round, want := range map[int]bool{-1: false, 0: false, 1: false, 5: false, 6: true, 7: true, 9999: true, 10000: true, 10001: false} {
		if n.Round = round; askOk(t, n) != want {
			t.Errorf("Round %d, with a Tc of 5", round)
		}
	}
}

// deedsOf: everything that n can be asked to do, each such that a node like it that is right might do it.
func deedsOf(n impl.Node) []nodeCall {
	l := []nodeCall{{Deed: "ok", N: n}, {Deed: "leave", N: n}, {Deed: "reboot", N: n}, {Deed: "submit", N: n, X: pay("d", "a", 1, 0)}, {Deed: "submit", N: n, X: pay("a", "d", 3, 1)}, {Deed: "submit", N: n}}
	for _, id := range []int{-1, 0, 3, 4, 5, 9, 10, 100000, 100001, math.MaxInt, math.MinInt} {
		l = append(l, nodeCall{Deed: "lead", N: n, Num: id})
	}
	for _, epoch := range []int{-1, 0, 1, 3, 4, 5, 900, n.Epoch, math.MaxInt, math.MinInt} {
		l = append(l, nodeCall{Deed: "share", N: n, Num: epoch, To: "b"})
	}
	words := []impl.Msg{voteWord(2, 4, "c"), voteWord(4, 9, "b"), goneWord(6, "b", rootQc()), goneWord(6, "c", qcOf(2, 4, "a b c")), shareWord(qcOf(4, 9, "a b c"), tcOf(7, "a b c", 0, 0, 0), n.Tree...), shareWord(rootQc(), impl.Tc{})}
	for _, b := range busyNode().Tree {
		words = append(words, propWord(b))
	}
	words = append(words, propWord(blockFor(busyNode(), 10, 6, qcOf(2, 4, "a b c"), tcOf(5, "a b d", 2, 0, 1))))
	for _, m := range words {
		l = append(l, nodeCall{Deed: "hear", N: n, M: toNode(n, m)})
	}
	return l
}

// A node that is not right is answered as it is, and does nothing.
func TestNodesNotRightDoNothing(t *testing.T) {
	for what, n := range wrongNodes() {
		for _, c := range deedsOf(n) {
			if c.Deed == "ok" {
				continue
			}
			got := nodeAsked(t, c)
			if after, ok := got[0].(impl.Node); ok {
				isNode(t, what, after, n)
			}
			for _, a := range got[1:] {
				if v := reflect.ValueOf(a); v.Kind() == reflect.Slice && v.Len() > 0 || v.Kind() == reflect.Bool && v.Bool() {
					t.Errorf("%s: %v answers %v", what, c, a)
				}
			}
			if m, ok := got[0].(impl.Msg); ok && !sameValue(m, impl.Msg{}) {
				t.Errorf("%s: %v shares %v", what, c, m)
			}
		}
	}
}

func TestNodesRightDo(t *testing.T) {
	did := map[string]int{}
	for _, n := range rightNodes() {
		for _, c := range deedsOf(n) {
			got := nodeAsked(t, c)
			if after, ok := got[0].(impl.Node); ok && !sameValue(after, n) || !ok {
				did[c.Deed]++
			}
		}
	}
	for _, deed := range []string{"ok", "leave", "reboot", "submit", "lead", "share", "hear"} {
		if did[deed] < 10 {
			t.Errorf("%s: too few: %d", deed, did[deed])
		}
	}
}

// Votes are heard one behind the other, each once, up to a quorum and past it.
func TestNodeHearsVotes(t *testing.T) {
	row := rowFor(crewNode("d"), 0, 3)
	n := knowing("d", rootQc(), row[0])
	said := ""
	vote := func(word string, change func(n *impl.Node)) {
		said += " " + word
		v := votesTold(word)[0]
		after, _, _ := askHear(t, n, toNode(n, voteWord(v.Round, v.Block, v.Who)))
		isNode(t, "behind"+said, after, changed(n, change))
		n = after
	}
	vote("1/0/b", func(n *impl.Node) { n.Votes = votesTold("1/0/b") })
	vote("1/0/b", func(n *impl.Node) {})
	vote("1/0/a", func(n *impl.Node) { n.Votes = votesTold("1/0/b 1/0/a") })
	vote("1/7/c", func(n *impl.Node) { n.Votes = votesTold("1/0/b 1/0/a 1/7/c") })
	vote("2/0/c", func(n *impl.Node) { n.Votes = votesTold("1/0/b 1/0/a 1/7/c 2/0/c") })
	vote("1/0/z", func(n *impl.Node) {})
	vote("1/0/d", func(n *impl.Node) {
		n.Votes, n.High, n.Round = votesTold("1/0/b 1/0/a 1/7/c 2/0/c 1/0/d"), qcOf(1, 0, "a b d"), 2
	})
	vote("1/0/c", func(n *impl.Node) { n.Votes = votesTold("1/0/b 1/0/a 1/7/c 2/0/c 1/0/d 1/0/c") })
	vote("1/0/c", func(n *impl.Node) {})
	// A certificate may be of a block that has not come yet, and of a far round.
	vote("9/5/a", func(n *impl.Node) { n.Votes = append(n.Votes, votesTold("9/5/a")...) })
	vote("9/5/c", func(n *impl.Node) { n.Votes = append(n.Votes, votesTold("9/5/c")...) })
	vote("9/5/b", func(n *impl.Node) {
		n.Votes, n.High, n.Round = append(n.Votes, votesTold("9/5/b")...), qcOf(9, 5, "a b c"), 10
	})
	// One of a lower round than High's changes neither High nor Round.
	for _, word := range strings.Fields("3/6/a 3/6/b 3/6/c 3/6/d") {
		vote(word, func(n *impl.Node) { n.Votes = append(n.Votes, votesTold(word)...) })
	}
	vote("10/6/a", func(n *impl.Node) { n.Votes = append(n.Votes, votesTold("10/6/a")...) })
	if !impl.NodeOk(n) || len(n.Done) != 0 {
		t.Error("behind all votes:", nodeTold(n))
	}
}

// A quorum is of the weight, not of how many voted.
func TestNodeHearsVotesThatWeigh(t *testing.T) {
	l := ledgerOf(0, impl.Acct{Name: "a", Stake: 50}, impl.Acct{Name: "b", Stake: 10}, impl.Acct{Name: "c", Stake: 10}, impl.Acct{Name: "d", Stake: 5})
	n := newWanted("b", l)
	for i, x := range []struct {
		who   string
		round int
	}{{"b", 1}, {"c", 1}, {"d", 1}, {"a", 2}} {
		if n, _, _ = askHear(t, n, toNode(n, voteWord(1, 3, x.who))); n.Round != x.round || len(n.Votes) != i+1 {
			t.Errorf("behind %s: %s", x.who, nodeTold(n))
		}
	}
	two, _, _ := askHear(t, newWanted("b", l), toNode(n, voteWord(1, 3, "a")))
	if two, _, _ = askHear(t, two, toNode(n, voteWord(1, 3, "d"))); !sameQc(two.High, qcOf(1, 3, "a d")) {
		t.Errorf("a and d: %s", nodeTold(two))
	}
	alone := newWanted("b", aloneLedger())
	if alone, _, _ = askHear(t, alone, toNode(alone, voteWord(7, 3, "a"))); !sameQc(alone.High, qcOf(7, 3, "a")) || alone.Round != 8 {
		t.Errorf("one alone: %s", nodeTold(alone))
	}
	unheard(t, "one who has too little at stake", newWanted("b", aloneLedger()), toNode(alone, voteWord(7, 3, "b")))
	nobody := newWanted("a", ledgerOf(3))
	unheard(t, "nobody votes", nobody, toNode(nobody, voteWord(1, 0, "a")))
	unheard(t, "nobody votes", nobody, toNode(nobody, goneWord(1, "a", rootQc())))
	unheard(t, "nobody votes", nobody, toNode(nobody, shareWord(qcOf(1, 0, ""), tcOf(1, ""))))
}

// At 1000 votes and leavings no more is kept; what is there is gathered all the same.
func TestNodeHearsNoMoreThanItKeeps(t *testing.T) {
	full := fullOf(crewNode("b"))
	full.Done, full.Past, full.Pool = nil, nil, nil
	full.Votes[7], full.Votes[99], full.Gones[7], full.Gones[99] = votesTold("5/5/c")[0], votesTold("5/5/d")[0], gonesTold("5/0/c")[0], gonesTold("5/0/d")[0]
	vote, gone := toNode(full, voteWord(5, 5, "a")), toNode(full, goneWord(5, "a", rootQc()))
	unheard(t, "the 1001-st vote", full, vote)
	unheard(t, "the 1001-st leaving", full, gone)
	less := changed(full, func(n *impl.Node) { n.Votes, n.Gones = n.Votes[:999], n.Gones[:999] })
	hears(t, "the 1000-th vote", less, vote, changed(less, func(n *impl.Node) {
		n.Votes, n.High, n.Round = append(n.Votes, vote.V), qcOf(5, 5, "a c d"), 6
	}))
	hears(t, "the 1000-th leaving", less, gone, changed(less, func(n *impl.Node) {
		n.Gones, n.Tc, n.Round = append(n.Gones, gone.G), tcOf(5, "a c d", 0, 0, 0), 6
	}))
	full.Votes[0], full.Gones[0] = vote.V, gone.G
	hears(t, "a vote that is there", full, vote, changed(full, func(n *impl.Node) { n.High, n.Round = qcOf(5, 5, "a c d"), 6 }))
	hears(t, "a leaving that is there", full, gone, changed(full, func(n *impl.Node) { n.Tc, n.Round = tcOf(5, "a c d", 0, 0, 0), 6 }))
	// Another one of them has it gathered, too.
	hears(t, "a vote of another", full, toNode(full, voteWord(5, 5, "b")), changed(full, func(n *impl.Node) { n.High, n.Round = qcOf(5, 5, "a c d"), 6 }))
	unheard(t, "a vote for another block", full, toNode(full, voteWord(5, 6, "b")))
}

func TestNodeHearsLeavings(t *testing.T) {
	row := rowFor(crewNode("d"), 0, 2)
	n := knowing("d", rootQc(), row[0])
	said := ""
	gone := func(word string, q impl.Qc, change func(n *impl.Node)) {
		said += " " + word
		g := gonesTold(word)[0]
		after, out, sigs := askHear(t, n, toNode(n, goneWord(g.Round, g.Who, q)))
		isNode(t, "behind"+said, after, changed(n, change))
		if len(out) != 0 || len(sigs) != 0 {
			t.Errorf("behind%s: said %v", said, out)
		}
		n = after
	}
	cert := certOf(row[0])
	gone("2/0/a", rootQc(), func(n *impl.Node) { n.Gones = gonesTold("2/0/a") })
	gone("2/0/a", rootQc(), func(n *impl.Node) {})
	gone("2/0/z", rootQc(), func(n *impl.Node) {})
	gone("2/1/b", qcOf(1, 0, "a b"), func(n *impl.Node) {})
	gone("2/1/b", qcOf(1, 0, "a b c z"), func(n *impl.Node) {})
	// What the one who leaves knows is learnt.
	gone("2/1/a", cert, func(n *impl.Node) { n.Gones, n.High, n.Round = gonesTold("2/0/a 2/1/a"), cert, 2 })
	gone("3/0/c", rootQc(), func(n *impl.Node) { n.Gones = gonesTold("2/0/a 2/1/a 3/0/c") })
	gone("2/0/d", rootQc(), func(n *impl.Node) { n.Gones = gonesTold("2/0/a 2/1/a 3/0/c 2/0/d") })
	gone("2/0/b", rootQc(), func(n *impl.Node) {
		n.Gones, n.Tc, n.Round = gonesTold("2/0/a 2/1/a 3/0/c 2/0/d 2/0/b"), tcOf(2, "a b d", 1, 0, 0), 3
	})
	// Past the quorum the Tc stays, for its round is no more.
	gone("2/0/c", rootQc(), func(n *impl.Node) { n.Gones = append(n.Gones, gonesTold("2/0/c")...) })
	for _, word := range strings.Fields("1/0/a 1/0/b 1/0/c") {
		gone(word, rootQc(), func(n *impl.Node) { n.Gones = append(n.Gones, gonesTold(word)...) })
	}
	gone("3/1/a", qcOf(1, 0, "b c d"), func(n *impl.Node) { n.Gones = append(n.Gones, gonesTold("3/1/a")...) })
	gone("9/8/b", qcOf(8, 77, "b c d"), func(n *impl.Node) {
		n.Gones, n.High, n.Round = append(n.Gones, gonesTold("9/8/b")...), qcOf(8, 77, "b c d"), 9
	})
	// A Tc of a lower round than the node's is the last one, if it is later than that was.
	gone("3/0/d", rootQc(), func(n *impl.Node) {
		n.Gones, n.Tc = append(n.Gones, gonesTold("3/0/d")...), tcOf(3, "a c d", 1, 0, 0)
	})
}

// rightProp: a in the round 2 behind the block 0, and the right block 1 of the round 2, an End, which c made.
func rightProp() (impl.Node, impl.Block) {
	row := rowFor(crewNode("a"), 0, 2)
	return knowing("a", certOf(row[0]), row[0]), row[1]
}

func TestNodeTakesAndVotes(t *testing.T) {
	n, b := rightProp()
	after, said, sigs := askHear(t, n, toNode(n, propWord(b)))
	vote := impl.Vote{Round: 2, Block: 1, Who: "a"}
	isNode(t, "voted", after, changed(n, func(n *impl.Node) { n.Tree, n.Voted, n.Votes = append(n.Tree, b), 2, []impl.Vote{vote} }))
	want := []impl.Msg{{Kind: 2, To: "b", V: vote, Q: rootQc()}, {Kind: 2, To: "c", V: vote, Q: rootQc()}, {Kind: 2, To: "d", V: vote, Q: rootQc()}}
	if !sameValue(said, want) || !slices.Equal(sigs, []impl.Sig{{Kind: 1, Round: 2, What: 1, Who: "a"}}) {
		t.Errorf("said %v, signed %v", said, sigs)
	}
	unheard(t, "a block twice", after, toNode(n, propWord(b)))
	// The vote of itself may make the quorum.
	two := changed(n, func(n *impl.Node) { n.Votes = votesTold("2/1/c 2/1/d") })
	after, _, _ = askHear(t, two, toNode(n, propWord(b)))
	isNode(t, "the third vote", after, changed(two, func(n *impl.Node) {
		n.Tree, n.Voted, n.Votes, n.High, n.Round, n.Done = append(n.Tree, b), 2, votesTold("2/1/c 2/1/d 2/1/a"), qcOf(2, 1, "a c d"), 3, []int{0}
	}))
	// One that voted in this round, or left it, takes the block alone.
	for _, voted := range []int{2, 3, 10000} {
		late := changed(n, func(n *impl.Node) { n.Voted = voted })
		hears(t, "voted already", late, toNode(n, propWord(b)), changed(late, func(n *impl.Node) { n.Tree = append(n.Tree, b) }))
	}
	for _, voted := range []int{0, 1} {
		if _, said, _ := askHear(t, changed(n, func(n *impl.Node) { n.Voted = voted }), toNode(n, propWord(b))); len(said) != 3 {
			t.Errorf("voted in the round %d: %v", voted, said)
		}
	}
	// So does one that is in a later round already, and one who is not in Set.
	for what, change := range map[string]func(n *impl.Node){"a later round": func(n *impl.Node) { n.Round = 3 }, "not in Set": func(n *impl.Node) { n.Name = "zed" }, "a far round": func(n *impl.Node) { n.Round = 10000 }} {
		late := changed(n, change)
		hears(t, what, late, toNode(late, propWord(b)), changed(late, func(n *impl.Node) { n.Tree = append(n.Tree, b) }))
	}
	// One that is behind comes to the round by the block's Qc, and votes.
	fresh := changed(n, func(n *impl.Node) { n.Round, n.High = 1, rootQc() })
	after, said, _ = askHear(t, fresh, toNode(n, propWord(b)))
	if isNode(t, "behind", after, changed(n, func(n *impl.Node) { n.Tree, n.Voted, n.Votes = append(n.Tree, b), 2, []impl.Vote{vote} })); len(said) != 3 {
		t.Errorf("one that is behind says %v", said)
	}
}

// By its Tc a block is of a later round, in which one votes that learns of it by the block.
func TestNodeTakesBehindRoundsLeft(t *testing.T) {
	n, _ := rightProp()
	left := tcOf(4, "a b d", 1, 0, 1)
	b := blockFor(n, 6, 5, certOf(n.Tree[0]), left)
	after, said, _ := askHear(t, n, toNode(n, propWord(b)))
	isNode(t, "a Tc", after, changed(n, func(n *impl.Node) {
		n.Tree, n.Tc, n.Round, n.Voted, n.Votes = append(n.Tree, b), left, 5, 5, votesTold("5/6/a")
	}))
	if len(said) != 3 || said[0].V != (impl.Vote{Round: 5, Block: 6, Who: "a"}) {
		t.Errorf("said %v", said)
	}
	// Behind the root itself, and with a Tc that is older than what the node has.
	first := blockFor(crewNode("a"), 9, 3, rootQc(), tcOf(2, "b c d", 0, 0, 0))
	later := changed(n, func(n *impl.Node) { n.Round, n.Tc = 5, left })
	hears(t, "an older Tc", later, toNode(n, propWord(first)), changed(later, func(n *impl.Node) { n.Tree = append(n.Tree, first) }))
	same := changed(n, func(n *impl.Node) { n.Round, n.Tc = 3, tcOf(2, "a b c d", 1, 1, 1, 1) })
	after, said, _ = askHear(t, same, toNode(n, propWord(first)))
	if !sameTc(after.Tc, same.Tc) || after.Round != 3 || after.Voted != 3 || len(said) != 3 {
		t.Errorf("a Tc of the same round: %s", nodeTold(after))
	}
}

// wrongProps: blocks that the node of rightProp does not take, each with what it is.
func wrongProps() map[string]impl.Block {
	n, b := rightProp()
	out := map[string]impl.Block{}
	for what, change := range map[string]func(b *impl.Block){
		"by b": func(b *impl.Block) { b.By = "b" }, "by the node itself": func(b *impl.Block) { b.By = "a" }, "by d": func(b *impl.Block) { b.By = "d" }, "by a stranger": func(b *impl.Block) { b.By = "z" },
		"a Qc of too few": func(b *impl.Block) { b.Qc.Who = []string{"a", "b"} }, "a Qc of nobody": func(b *impl.Block) { b.Qc.Who = nil }, "a Qc with a stranger": func(b *impl.Block) { b.Qc.Who = []string{"a", "b", "c", "z"} }, "a Qc of strangers": func(b *impl.Block) { b.Qc.Who = []string{"x", "y", "z"} },
		"a Tc of too few": func(b *impl.Block) { b.Tc = tcOf(1, "a b", 0, 0) }, "a Tc with a stranger": func(b *impl.Block) { b.Tc = tcOf(1, "a b c z", 0, 0, 0, 0) },
		"does not follow the root": func(b *impl.Block) { b.Qc = rootQc() }, "a round is left out": func(b *impl.Block) { b.Round, b.By = 3, "d" }, "more rounds are left out": func(b *impl.Block) { b.Round, b.By, b.Tc = 5, "b", tcOf(3, "a b c", 0, 0, 0) }, "one that left knew more": func(b *impl.Block) { b.Round, b.By, b.Tc = 4, "a", tcOf(3, "a b c", 0, 2, 0) },
		"no End": func(b *impl.Block) { b.End, b.Next, b.Root = false, nil, "" }, "another Root": func(b *impl.Block) { b.Root = root32 }, "another Next": func(b *impl.Block) { b.Next = valsTold("a:10 b:10 c:10") }, "another weight": func(b *impl.Block) { b.Next = valsTold("a:10 b:10 c:10 d:11") },
		"an order that is not good": func(b *impl.Block) { b.Txs = []impl.Tx{pay("a", "b", 5, 1)} }, "an order that was not reckoned with": func(b *impl.Block) { b.Txs = []impl.Tx{pay("a", "b", 5, 0)} }, "of an order of nobody": func(b *impl.Block) { b.Txs = []impl.Tx{pay("z", "b", 5, 0)} },
		"another End":   func(b *impl.Block) { b.Qc, b.Tc, b.Round, b.By = rootQc(), tcOf(1, "a b c", 0, 0, 0), 2, "c" },
		"there already": func(b *impl.Block) { *b = cloneBlock(n.Tree[0]) }, "another one of an Id that is there": func(b *impl.Block) {
			*b = blockFor(crewNode("a"), 0, 2, rootQc(), tcOf(1, "a b c", 0, 0, 0))
		},
		"behind one that is not there": func(b *impl.Block) { b.Id, b.Qc.Block = 9, 5 }, "behind one of another round": func(b *impl.Block) { b.Round, b.By, b.Qc.Round = 3, "d", 2 },
	} {
		out[what] = with(b, change)
	}
	return out
}

func TestNodeTakesNoWrongBlock(t *testing.T) {
	n, b := rightProp()
	good := blockFor(n, 20, 3, certOf(n.Tree[0]), tcOf(2, "a b d", 0, 1, 0), pay("b", "c", 1, 0))
	for what, wrong := range wrongProps() {
		if !impl.MsgOk(toNode(n, propWord(wrong))) {
			t.Errorf("%s: no word: %+v", what, wrong)
		}
		unheard(t, what, n, toNode(n, propWord(wrong)))
		unheard(t, what+", shared", n, toNode(n, shareWord(rootQc(), impl.Tc{}, wrong)))
		// What stands beside it in a share is taken all the same.
		for _, l := range [][]impl.Block{{wrong, good}, {good, wrong}, {wrong, wrong, good, wrong}} {
			hears(t, what+", beside a right one", n, toNode(n, shareWord(certOf(n.Tree[0]), impl.Tc{}, l...)), changed(n, func(n *impl.Node) {
				n.Tree, n.Tc, n.Round = append(n.Tree, good), tcOf(2, "a b d", 0, 1, 0), 3
			}))
		}
	}
	if after, _, _ := askHear(t, n, toNode(n, propWord(b))); len(after.Tree) != 2 {
		t.Error("the right one is not taken")
	}
	// Behind an End there is nothing to do.
	ended := knowing("a", certOf(b), n.Tree[0], b)
	for what, txs := range map[string][]impl.Tx{"no order": nil, "an order": {pay("a", "b", 5, 0)}} {
		next := blockFor(ended, 2, 3, certOf(b), impl.Tc{})
		next.Txs = txs
		if after, _, _ := askHear(t, ended, toNode(n, propWord(next))); len(after.Tree) != 2+map[string]int{"no order": 1}[what] {
			t.Errorf("%s behind an End: %s", what, nodeTold(after))
		}
	}
	// Nor is there room behind 400.
	full := crewNode("a")
	for i := range 400 {
		full.Tree = append(full.Tree, blockFor(crewNode("a"), i, 1, rootQc(), impl.Tc{}))
	}
	next := blockFor(full, 400, 2, certOf(full.Tree[9]), impl.Tc{})
	unheard(t, "the 401-st block", full, toNode(full, propWord(next)))
	if after, _, _ := askHear(t, changed(full, func(n *impl.Node) { n.Tree = n.Tree[:399] }), toNode(full, propWord(next))); len(after.Tree) != 400 {
		t.Errorf("the 400-th block: %d", len(after.Tree))
	}
}

// Words to another one, of another epoch, and that are none.
func TestNodeHearsNoWrongWord(t *testing.T) {
	n, b := rightProp()
	cert := qcOf(5, 50, "a b c")
	right := []impl.Msg{propWord(b), voteWord(2, 1, "b"), goneWord(6, "b", cert), shareWord(cert, tcOf(7, "a b c", 0, 5, 0), b)}
	for kind, m := range right {
		m = toNode(n, m)
		if after, _, _ := askHear(t, n, m); sameValue(after, n) {
			t.Errorf("the word %d changes nothing", kind+1)
		}
		for what, change := range map[string]func(m *impl.Msg){
			"to another one": func(m *impl.Msg) { m.To = "b" }, "to a stranger": func(m *impl.Msg) { m.To = "aa" }, "to nobody": func(m *impl.Msg) { m.To = "" }, "of the next epoch": func(m *impl.Msg) { *m = inEpoch(*m, 1) }, "of the last epoch": func(m *impl.Msg) { *m = inEpoch(*m, 900) }, "of no epoch": func(m *impl.Msg) { *m = inEpoch(*m, -1) },
			"of another epoch than its blocks": func(m *impl.Msg) { m.Epoch = 1 }, "of no kind": func(m *impl.Msg) { m.Kind = 0 }, "of a kind too great": func(m *impl.Msg) { m.Kind = 5 }, "with a vote beside": func(m *impl.Msg) { m.V.Round++; m.V.Block = -1 }, "with a leaving beside": func(m *impl.Msg) { m.G.High += 7 }, "with a certificate that is none": func(m *impl.Msg) { m.Q.Block = -1 - m.Q.Block },
			"with a Tc that is none": func(m *impl.Msg) { m.T.Highs = append(m.T.Highs, 1) }, "with one block more, which is none": func(m *impl.Msg) { m.Bs = append(m.Bs, impl.Block{}) },
		} {
			unheard(t, fmt.Sprintf("%s, the word %d", what, kind+1), n, withWord(m, change))
		}
		for _, number := range greatNumbers() {
			for what, change := range map[string]func(m *impl.Msg){"Kind": func(m *impl.Msg) { m.Kind = number }, "Epoch": func(m *impl.Msg) { *m = inEpoch(*m, number) }, "V": func(m *impl.Msg) { m.V.Round = number }, "G": func(m *impl.Msg) { m.G.Round = number }, "Q": func(m *impl.Msg) { m.Q.Round, m.G.High = number, number }, "T": func(m *impl.Msg) { m.T.Round = number }} {
				unheard(t, fmt.Sprintf("%s %d, the word %d", what, number, kind+1), n, withWord(m, change))
			}
		}
	}
	for _, number := range greatNumbers() {
		for what, change := range map[string]func(b *impl.Block){"Id": func(b *impl.Block) { b.Id = outsideOf(number, 0, 100000) }, "Round": func(b *impl.Block) { b.Round = number }, "Qc.Round": func(b *impl.Block) { b.Qc.Round = number }, "Qc.Block": func(b *impl.Block) { b.Qc.Block = number }, "Tc.Round": func(b *impl.Block) { b.Tc.Round = number }} {
			unheard(t, fmt.Sprintf("%s %d", what, number), n, toNode(n, propWord(with(b, change))))
			unheard(t, fmt.Sprintf("%s %d, shared", what, number), n, toNode(n, shareWord(cert, impl.Tc{}, with(b, change))))
		}
	}
}

// A share is taken by a node that has nothing, block by block, then Q, then T.
func TestNodeHearsShares(t *testing.T) {
	fresh := crewNode("d")
	row := rowFor(fresh, 0, 2, []impl.Tx{pay("a", "b", 5, 0)})
	side := blockFor(knowing("d", certOf(row[0]), row...), 7, 4, certOf(row[0]), tcOf(3, "b c d", 1, 0, 0))
	all := []impl.Block{row[0], row[1], side}
	q, x := certOf(row[1]), tcOf(8, "a b c d", 2, 2, 0, 1)
	want := changed(fresh, func(n *impl.Node) { n.Tree, n.High, n.Round, n.Tc, n.Done = all, q, 9, x, []int{0} })
	hears(t, "all of it", fresh, toNode(fresh, shareWord(q, x, all...)), want)
	hears(t, "all of it again", want, toNode(fresh, shareWord(q, x, all...)), want)
	hears(t, "what is there", want, toNode(fresh, shareWord(rootQc(), impl.Tc{}, all...)), want)
	hears(t, "nothing", fresh, toNode(fresh, shareWord(rootQc(), impl.Tc{})), fresh)
	hears(t, "one behind the other", fresh, toNode(fresh, shareWord(rootQc(), impl.Tc{}, all...)), changed(fresh, func(n *impl.Node) {
		n.Tree, n.High, n.Round, n.Tc = all, certOf(row[0]), 4, side.Tc
	}))
	hears(t, "the other way round", fresh, toNode(fresh, shareWord(rootQc(), impl.Tc{}, side, row[1], row[0])), changed(fresh, func(n *impl.Node) { n.Tree = all[:1] }))
	hears(t, "the other one first", fresh, toNode(fresh, shareWord(q, impl.Tc{}, row[0], side, row[1])), changed(want, func(n *impl.Node) { n.Round, n.Tc = 4, side.Tc }))
	hears(t, "Q alone", fresh, toNode(fresh, shareWord(q, impl.Tc{})), changed(fresh, func(n *impl.Node) { n.High, n.Round = q, 3 }))
	hears(t, "T alone", fresh, toNode(fresh, shareWord(rootQc(), x)), changed(fresh, func(n *impl.Node) { n.Tc, n.Round = x, 9 }))
	for what, wrong := range map[string]impl.Qc{"too few": qcOf(2, 1, "a b"), "a stranger": qcOf(2, 1, "a b c z"), "nobody": qcOf(2, 1, "")} {
		hears(t, "a Q of "+what, fresh, toNode(fresh, shareWord(wrong, x, all...)), changed(want, func(n *impl.Node) { n.High, n.Done = certOf(row[0]), nil }))
	}
	for what, wrong := range map[string]impl.Tc{"too few": tcOf(8, "a b", 0, 0), "a stranger": tcOf(8, "a b c z", 0, 0, 0, 0), "nobody": tcOf(8, "")} {
		hears(t, "a T of "+what, fresh, toNode(fresh, shareWord(q, wrong, all...)), changed(want, func(n *impl.Node) { n.Round, n.Tc = 4, side.Tc }))
	}
	// Who is not in Set hears it as well; nobody votes by a share.
	zed := crewNode("zed")
	hears(t, "not in Set", zed, toNode(zed, shareWord(q, x, all...)), changed(want, func(n *impl.Node) { n.Name = "zed" }))
}

// What a Qc makes certain is asked of each one that is learnt, also where it is not High.
func TestNodeLearnsOldCertificates(t *testing.T) {
	row := rowFor(crewNode("a"), 4, 2)
	for round, cert := range map[int]impl.Qc{1: certOf(row[0]), 2: certOf(row[1]), 3: qcOf(3, 77, "a b c"), 4: qcOf(4, 77, "a b c")} {
		n := knowing("a", cert, row...)
		n.Done = []int{2}
		for what, q := range map[string]impl.Qc{"the block's": qcOf(2, 5, "b c d"), "of another block": qcOf(2, 4, "b c d"), "of one that is not there": qcOf(2, 66, "b c d")} {
			hears(t, fmt.Sprintf("%s, behind High of %d", what, round), n, toNode(n, goneWord(9, "b", q)), changed(n, func(n *impl.Node) {
				n.Gones = gonesTold("9/2/b")
				if round < 2 {
					n.High, n.Round = q, 3
				}
				if what == "the block's" {
					n.Done = []int{2, 4}
				}
			}))
		}
		// The first one behind the root makes nothing certain.
		hears(t, "the first", n, toNode(n, shareWord(qcOf(1, 4, "b c d"), impl.Tc{})), n)
	}
	// A round between them that was left out keeps it from being certain.
	n := knowing("a", certOf(row[0]), row[0])
	far := blockFor(n, 9, 4, certOf(row[0]), tcOf(3, "a b c", 1, 1, 1))
	gap := changed(n, func(n *impl.Node) { n.Tree = append(n.Tree, far) })
	hears(t, "a gap", gap, toNode(n, shareWord(certOf(far), impl.Tc{})), changed(gap, func(n *impl.Node) { n.High, n.Round = certOf(far), 5 }))
	next := blockFor(gap, 10, 5, certOf(far), impl.Tc{})
	closed := changed(gap, func(n *impl.Node) { n.Tree, n.High, n.Round = append(n.Tree, next), certOf(far), 5 })
	// Behind it two rounds one behind the other make both certain: far is the End.
	after, _, _ := askHear(t, closed, toNode(n, shareWord(certOf(next), impl.Tc{})))
	if after.Epoch != 1 || !slices.Equal(after.Done, []int{4, 9}) {
		t.Errorf("behind the gap: %s", nodeTold(after))
	}
}

// endRow: the four blocks of the epoch 7 with which it ends: the second one is the End, the certificate of the third one makes it certain.
func endRow(epoch int) []impl.Block {
	n := newWanted("a", ledgerOf(epoch, crewLedger().Accts...))
	return rowFor(n, 10, 4, []impl.Tx{pay("a", "b", 5, 0)}, []impl.Tx{stakes(2, "c", 7, 0), stakes(3, "d", 6, 0)})
}

// endingNode: a in the round 3 of an epoch that is about to end, with the first three blocks, and something in each of its other parts.
func endingNode(epoch int) impl.Node {
	n := newWanted("a", ledgerOf(epoch, crewLedger().Accts...))
	row := endRow(epoch)
	n.Tree, n.High, n.Round, n.Voted, n.Led, n.Tc = row[:3], certOf(row[1]), 3, 3, 1, tcOf(1, "a b c", 0, 0, 0)
	n.Votes, n.Gones, n.Done = votesTold("3/12/a 2/11/c 3/12/b"), gonesTold("5/2/d 5/2/c 3/1/a"), []int{4, 10}
	n.Pool = poolOf(pay("a", "c", 1, 0), pay("a", "c", 2, 1), pay("b", "a", 4, 0), stakes(2, "c", 1, 0), stakes(2, "c", 1, 2), pay("zz", "a", 1, 0))
	n.Past = []impl.Proof{{Epoch: epoch - 1, Bs: endRow(epoch - 1)[:1], Q: qcOf(9, 9, "q")}}
	return n
}

// endedNode is what is left of endingNode when q ended its epoch, and l was the chain of q's block.
func endedNode(epoch int, q impl.Qc, l ...impl.Block) impl.Node {
	next := min(epoch+1, 900)
	return impl.Node{
		Name: "a", Epoch: next, Round: 1, High: impl.Qc{Block: -1}, Set: valsTold("a:10 b:10 c:17"),
		Base: ledgerOf(next, impl.Acct{Name: "a", Free: 95, Nonce: 1, Stake: 10}, impl.Acct{Name: "b", Free: 105, Stake: 10}, impl.Acct{Name: "c", Free: 93, Nonce: 1, Stake: 17}, impl.Acct{Name: "d", Free: 100, Nonce: 1, Stake: 4, Leaves: leavesAt(6, epoch+2)}),
		Done: []int{4, 10, 11}, Pool: []impl.Tx{pay("a", "c", 2, 1), pay("b", "a", 4, 0), stakes(2, "c", 1, 2)},
		Past: []impl.Proof{{Epoch: epoch - 1, Bs: endRow(epoch - 1)[:1], Q: qcOf(9, 9, "q")}, {Epoch: epoch, Bs: l, Q: q}},
	}
}

// endings: words in which the epoch ends, each with what is left of endingNode. What stands behind the end would move the node on, were it looked at.
func endings(epoch int) map[string]struct {
	m    impl.Msg
	want impl.Node
} {
	row := endRow(epoch)
	n := endingNode(epoch)
	far, left := qcOf(8, 50, "a b c"), tcOf(9, "a b c", 7, 7, 7)
	late := blockFor(changed(n, func(n *impl.Node) { n.Tree = row[:3] }), 20, 6, certOf(row[2]), tcOf(5, "a b c", 3, 3, 0))
	fifth := impl.Block{Id: 21, Epoch: epoch, Round: 5, By: "b", Qc: certOf(row[3])}
	first := blockFor(newWanted("a", n.Base), 22, 1, rootQc(), impl.Tc{})
	other := impl.Block{Id: 23, Epoch: epoch, Round: 1, By: "b", Qc: rootQc()}
	want := endedNode(epoch, certOf(row[2]), row[:3]...)
	type ending = struct {
		m    impl.Msg
		want impl.Node
	}
	out := map[string]ending{
		"a vote": {voteWord(3, 12, "c"), want}, "another vote": {voteWord(3, 12, "d"), endedNode(epoch, qcOf(3, 12, "a b d"), row[:3]...)}, "a leaving": {goneWord(5, "b", certOf(row[2])), want}, "a far leaving": {goneWord(10000, "c", certOf(row[2])), want},
		"a proposal": {propWord(row[3]), want}, "a proposal with a Tc": {propWord(late), want}, "a share of one block": {shareWord(rootQc(), impl.Tc{}, row[3]), want}, "a share with a Tc": {shareWord(rootQc(), impl.Tc{}, late), want},
		"a share of all": {shareWord(far, left, row...), want}, "a share of more": {shareWord(far, left, row[3], fifth, first, other, late), want}, "a share of the blocks that are there, and Q": {shareWord(certOf(row[2]), left, row[:3]...), want}, "Q alone": {shareWord(certOf(row[2]), impl.Tc{}), want}, "Q and T": {shareWord(qcOf(3, 12, "b c d"), left), endedNode(epoch, qcOf(3, 12, "b c d"), row[:3]...)},
	}
	for what, x := range out {
		x.m = toNode(n, x.m)
		out[what] = x
	}
	return out
}

func TestNodeEndsItsEpochAmidAWord(t *testing.T) {
	for _, epoch := range []int{1, 7, 898, 899} {
		n := endingNode(epoch)
		for what, x := range endings(epoch) {
			hears(t, fmt.Sprintf("%s in the epoch %d", what, epoch), n, x.m, x.want)
			if !askOk(t, x.want) || askOk(t, changed(x.want, func(n *impl.Node) { n.Base.Epoch-- })) {
				t.Errorf("%s: not right: %s", what, nodeTold(x.want))
			}
			// What is said once more is of an epoch that is over.
			unheard(t, what+" once more", x.want, x.m)
		}
	}
}

// Behind the last epoch there is no higher number; it ends as the others do, and what a word has behind that is not looked at either.
func TestNodeEndsTheLastEpoch(t *testing.T) {
	for what, x := range endings(900) {
		want := x.want
		// What leaves is not free yet: the ledger is as it was.
		if want.Epoch != 900 || len(want.Base.Accts[3].Leaves) != 1 {
			t.Fatal("what is wanted")
		}
		hears(t, what, endingNode(900), x.m, want)
	}
}

// A certificate may come ahead of its block: the epoch ends when that comes.
func TestNodeEndsItsEpochByHigh(t *testing.T) {
	row := endRow(7)
	cert := qcOf(3, 12, "a c d")
	n := changed(endingNode(7), func(n *impl.Node) { n.Tree, n.High, n.Round = row[:2], cert, 4 })
	want := endedNode(7, cert, row[:3]...)
	for what, m := range map[string]impl.Msg{"a proposal": propWord(row[2]), "a share": shareWord(rootQc(), impl.Tc{}, row[2]), "a share of more": shareWord(qcOf(8, 50, "a b c"), tcOf(9, "a b c", 7, 7, 7), append(row, row...)...)} {
		hears(t, what, n, toNode(n, m), want)
	}
	// It had done nothing yet: both blocks are certain at once.
	bare := changed(n, func(n *impl.Node) { n.Tree, n.Done = nil, nil })
	hears(t, "all at once", bare, toNode(n, shareWord(rootQc(), impl.Tc{}, row[:3]...)), changed(want, func(n *impl.Node) { n.Done = []int{10, 11} }))
	// Without the block it does not end, whatever else comes.
	hears(t, "without the block", bare, toNode(n, shareWord(rootQc(), impl.Tc{}, row[:2]...)), changed(bare, func(n *impl.Node) { n.Tree = row[:2] }))
	// What lies behind the End is certain, too, but is not done; the proof has the whole chain of the certificate.
	far := changed(endingNode(7), func(n *impl.Node) { n.Tree, n.High, n.Round, n.Done = row[:3], certOf(row[3]), 5, []int{4} })
	hears(t, "behind the End", far, toNode(n, propWord(row[3])), endedNode(7, certOf(row[2]), row[:3]...))
	whole := changed(far, func(n *impl.Node) { n.Tree = row })
	hears(t, "far behind the End", whole, toNode(n, shareWord(certOf(row[3]), impl.Tc{})), endedNode(7, certOf(row[3]), row...))
	// Ids that are done are not done twice, and end the epoch all the same.
	again := changed(whole, func(n *impl.Node) { n.Done = []int{11, 4} })
	hears(t, "done already", again, toNode(n, shareWord(certOf(row[3]), impl.Tc{})), changed(endedNode(7, certOf(row[3]), row...), func(n *impl.Node) { n.Done = []int{11, 4, 10} }))
}

// What a node says and signs is of the epoch that it began in, also where that ends as it hears itself.
func TestNodeEndsItsEpochByItself(t *testing.T) {
	row := endRow(7)
	n := changed(endingNode(7), func(n *impl.Node) {
		n.Tree, n.Voted, n.Votes = row[:2], 2, votesTold("3/12/d 3/12/c")
	})
	after, said, sigs := askHear(t, n, toNode(n, propWord(row[2])))
	isNode(t, "its own vote", after, endedNode(7, qcOf(3, 12, "a c d"), row[:3]...))
	if len(said) != 3 || said[2].Epoch != 7 || said[2].To != "d" || !slices.Equal(sigs, []impl.Sig{{Kind: 1, Epoch: 7, Round: 3, What: 12, Who: "a"}}) {
		t.Errorf("said %v, signed %v", said, sigs)
	}
	// One that has not looked at its High yet, and leaves.
	n = changed(endingNode(7), func(n *impl.Node) { n.High, n.Round = certOf(row[2]), 4 })
	after, said, sigs = askLeave(t, n)
	isNode(t, "its own leaving", after, endedNode(7, certOf(row[2]), row[:3]...))
	if len(said) != 3 || said[0].Epoch != 7 || said[0].G != (impl.Gone{Round: 4, High: 3, Who: "a"}) || !slices.Equal(sigs, []impl.Sig{{Kind: 2, Epoch: 7, Round: 4, What: 3, Who: "a"}}) {
		t.Errorf("said %v, signed %v", said, sigs)
	}
	// One that leads the round 4 behind the third block: the block's Qc ends the epoch.
	after, made, said, sigs := askLead(t, n, 13)
	isNode(t, "its own block", after, endedNode(7, certOf(row[2]), row[:3]...))
	if len(made) != 1 || !sameFields(made[0], row[3]) || len(said) != 3 || said[0].Kind != 1 || len(sigs) != 0 {
		t.Errorf("made %v, said %v, signed %v", made, said, sigs)
	}
}

// How an earlier epoch ended is told to one that is still in it, and brings it into the next one.
func TestNodeSharesEarlierEpochs(t *testing.T) {
	row := endRow(7)
	ended := endedNode(7, certOf(row[2]), row[:3]...)
	m, ok := askShare(t, ended, 7, "b")
	if want := (impl.Msg{Kind: 4, To: "b", Epoch: 7, Bs: row[:3], Q: certOf(row[2])}); !ok || !sameValue(m, want) {
		t.Errorf("shared: %v", m)
	}
	for what, n := range map[string]impl.Node{"new": {}, "in its first round": {}, "with a block": {Tree: row[:1]}, "with all blocks": {Tree: row, High: certOf(row[2]), Round: 4}, "with another block": {Tree: []impl.Block{blockFor(endingNode(7), 3, 1, rootQc(), impl.Tc{})}}} {
		still := newWanted("b", endingNode(7).Base)
		if still.Tree = n.Tree; n.Round > 0 {
			still.High, still.Round = n.High, n.Round
		}
		after, _, _ := askHear(t, still, m)
		want := changed(ended, func(n *impl.Node) { n.Name, n.Done, n.Pool, n.Past = "b", []int{10, 11}, nil, n.Past[1:] })
		isNode(t, what, after, want)
		// It can tell it on.
		if on, ok := askShare(t, after, 7, "c"); !ok || !sameValue(on.Bs, m.Bs) || !sameQc(on.Q, m.Q) {
			t.Errorf("%s: told on: %v", what, on)
		}
	}
	for _, epoch := range []int{5, 9, 10, -1, 900, 901, math.MaxInt, math.MinInt} {
		if m, ok := askShare(t, ended, epoch, "b"); ok || !sameValue(m, impl.Msg{}) {
			t.Errorf("the epoch %d: %v", epoch, m)
		}
	}
	if m, ok := askShare(t, ended, 6, "b"); !ok || m.Q.Block != 9 {
		t.Errorf("the epoch 6: %v", m)
	}
}

func TestNodeShares(t *testing.T) {
	n := busyNode()
	m, ok := askShare(t, n, 4, "zz")
	if !ok || !sameValue(m, impl.Msg{Kind: 4, To: "zz", Epoch: 4, Bs: n.Tree, Q: n.High, T: n.Tc}) || !impl.MsgOk(m) {
		t.Errorf("its own epoch: %v", m)
	}
	// The first proof of an epoch counts; that of its own epoch, or of one to come, does not.
	n.Past = []impl.Proof{{Epoch: 5, Q: qcOf(1, 1, "a")}, {Epoch: 4, Q: qcOf(2, 2, "a")}, {Epoch: 2, Q: qcOf(3, 3, "a")}, {Epoch: 2, Q: qcOf(4, 4, "a")}, {Epoch: -3, Q: qcOf(5, 5, "a")}}
	for epoch, block := range map[int]int{4: 4, 2: 3, -3: 5} {
		if m, ok := askShare(t, n, epoch, "b"); !ok || m.Q.Block != block || m.Epoch != epoch {
			t.Errorf("the epoch %d: %v", epoch, m)
		}
	}
	for _, epoch := range []int{5, 3, 1, 0} {
		if m, ok := askShare(t, n, epoch, "b"); ok || !sameValue(m, impl.Msg{}) {
			t.Errorf("the epoch %d: %v", epoch, m)
		}
	}
	for _, to := range append(noNames(), "c", "z") {
		if m, ok := askShare(t, n, 4, to); !ok || m.To != to {
			t.Errorf("to %.20q: %v", to, ok)
		}
	}
	for what, x := range map[string]impl.Node{"new": crewNode("a"), "nobody votes": newWanted("a", ledgerOf(0))} {
		if m, ok := askShare(t, x, 0, "b"); !ok || !sameValue(m, impl.Msg{Kind: 4, To: "b", Q: rootQc()}) {
			t.Errorf("%s: %v", what, m)
		}
	}
	// A full tree is a word.
	full := crewNode("a")
	for i := range 400 {
		full.Tree = append(full.Tree, blockFor(crewNode("a"), i, 1, rootQc(), impl.Tc{}))
	}
	if m, ok := askShare(t, full, 0, "b"); !ok || len(m.Bs) != 400 || !impl.MsgOk(m) {
		t.Error("400 blocks")
	}
}

func TestNodeLeaves(t *testing.T) {
	n := crewNode("c")
	after, said, sigs := askLeave(t, n)
	gone := impl.Gone{Round: 1, Who: "c"}
	isNode(t, "the first round", after, changed(n, func(n *impl.Node) { n.Voted, n.Gones = 1, []impl.Gone{gone} }))
	want := []impl.Msg{{Kind: 3, To: "a", G: gone, Q: rootQc()}, {Kind: 3, To: "b", G: gone, Q: rootQc()}, {Kind: 3, To: "d", G: gone, Q: rootQc()}}
	if !sameValue(said, want) || !slices.Equal(sigs, []impl.Sig{{Kind: 2, Round: 1, Who: "c"}}) {
		t.Errorf("said %v, signed %v", said, sigs)
	}
	again, saidAgain, sigsAgain := askLeave(t, after)
	if isNode(t, "once more", again, after); !sameValue(saidAgain, said) || !slices.Equal(sigsAgain, sigs) {
		t.Errorf("once more: %v", saidAgain)
	}
	row := rowFor(crewNode("a"), 0, 2)
	for round, cert := range map[int]impl.Qc{3: certOf(row[1]), 7: certOf(row[1]), 9: qcOf(4, 77, "b c d"), 10000: certOf(row[0])} {
		for voted, may := range map[int]bool{0: true, round - 1: true, round: true, min(round+1, 10000): round == 10000, 10000: round == 10000} {
			n := knowing("a", cert, row...)
			n.Epoch, n.Base.Epoch, n.Tree = 5, 5, inEpoch(shareWord(rootQc(), impl.Tc{}, row...), 5).Bs
			n.Round, n.Voted = round, voted
			after, said, sigs := askLeave(t, n)
			if !may {
				if isNode(t, "Round is below Voted", after, n); len(said) != 0 || len(sigs) != 0 {
					t.Errorf("left %d, voted in %d: %v", round, voted, said)
				}
				continue
			}
			g := impl.Gone{Round: round, High: cert.Round, Who: "a"}
			if after.Voted != round || len(said) != 3 || !sameValue(said[2], impl.Msg{Kind: 3, To: "d", Epoch: 5, G: g, Q: cert}) || !impl.MsgOk(said[0]) || !slices.Equal(sigs, []impl.Sig{{Kind: 2, Epoch: 5, Round: round, What: cert.Round, Who: "a"}}) || !slices.Equal(after.Gones, []impl.Gone{g}) {
				t.Errorf("left %d, voted in %d: %v, %v, %s", round, voted, said, sigs, nodeTold(after))
			}
		}
	}
	for what, n := range map[string]impl.Node{"not in Set": crewNode("zed"), "too little at stake": newWanted("b", aloneLedger()), "nobody votes": newWanted("a", ledgerOf(0))} {
		if after, said, sigs := askLeave(t, n); len(said) != 0 || len(sigs) != 0 || !sameValue(after, n) {
			t.Errorf("%s: %v", what, said)
		}
	}
}

// A round is left by enough; the block that follows has their Tc.
func TestNodeLeavesWithOthers(t *testing.T) {
	n := knowing("b", rootQc())
	n.Gones = gonesTold("1/0/a 1/0/d")
	after, _, _ := askLeave(t, n)
	isNode(t, "the third one", after, changed(n, func(n *impl.Node) {
		n.Voted, n.Gones, n.Tc, n.Round = 1, gonesTold("1/0/a 1/0/d 1/0/b"), tcOf(1, "a b d", 0, 0, 0), 2
	}))
	c := changed(after, func(n *impl.Node) { n.Name = "c" })
	led, made, said, _ := askLead(t, c, 3)
	if len(made) != 1 || !sameFields(made[0], impl.Block{Id: 3, Round: 2, By: "c", Qc: rootQc(), Tc: tcOf(1, "a b d", 0, 0, 0)}) || len(said) != 6 || led.Voted != 2 {
		t.Fatalf("led: %v, %v", made, said)
	}
	// One who knows nothing of that votes for it by the Tc that it has; one who left the round 2 as well does not.
	if got, said, _ := askHear(t, crewNode("d"), toNode(crewNode("d"), propWord(made[0]))); got.Round != 2 || got.Voted != 2 || len(said) != 3 {
		t.Errorf("d: %s", nodeTold(got))
	}
	gone, _, _ := askLeave(t, after)
	if got, said, _ := askHear(t, gone, toNode(gone, propWord(made[0]))); got.Voted != 2 || len(said) != 0 || len(got.Tree) != 1 {
		t.Errorf("b: %s", nodeTold(got))
	}
	alone := newWanted("a", aloneLedger())
	after, said, sigs := askLeave(t, alone)
	if isNode(t, "alone", after, changed(alone, func(n *impl.Node) {
		n.Voted, n.Gones, n.Tc, n.Round = 1, gonesTold("1/0/a"), tcOf(1, "a", 0), 2
	})); len(said) != 0 || len(sigs) != 1 {
		t.Errorf("alone: %v %v", said, sigs)
	}
	// The round behind the last one is none: the node is not right any more, and does nothing.
	alone.Round = 10000
	if after, _, _ := askLeave(t, alone); after.Round != 10001 || impl.NodeOk(after) {
		t.Errorf("the last round: %s", nodeTold(after))
	}
}

func TestNodeSubmitsAndReboots(t *testing.T) {
	n := busyNode()
	late, early := pay("d", "a", 1, 7), pay("a", "a", 9, 0)
	after, ok := askSubmit(t, n, late)
	if isNode(t, "submitted", after, changed(n, func(n *impl.Node) { n.Pool = append(n.Pool, late) })); !ok {
		t.Error("not submitted")
	}
	after, ok = askSubmit(t, after, early)
	if isNode(t, "submitted ahead", after, changed(n, func(n *impl.Node) { n.Pool = append([]impl.Tx{early}, append(n.Pool, late)...) })); !ok {
		t.Error("not submitted ahead")
	}
	for what, x := range map[string]impl.Tx{"there already": late, "zero": {}, "no kind": {Kind: 4, From: "a", Amount: 1}, "no amount": pay("a", "b", 0, 0), "of no name": pay("A", "b", 1, 0), "a great Nonce": pay("a", "b", 1, 10001), "a very great amount": pay("a", "b", math.MaxInt, 0)} {
		if got, ok := askSubmit(t, after, x); ok || !sameValue(got, after) {
			t.Errorf("%s: submitted", what)
		}
	}
	full := crewNode("a")
	for i, x := range manyOrders(21) {
		if full, ok = askSubmit(t, full, x); ok != (i < 20) || len(full.Pool) != min(i+1, 20) {
			t.Errorf("the %d-th order: %v", i, ok)
		}
	}
	if got := askReboot(t, full); len(got.Pool) != 0 {
		t.Error("the pool is not empty")
	}
	isNode(t, "rebooted", askReboot(t, after), changed(n, func(n *impl.Node) { n.Votes, n.Gones, n.Pool = nil, nil, nil }))
	isNode(t, "a new one rebooted", askReboot(t, crewNode("a")), crewNode("a"))
	// One that rebooted knows what it voted for no more, but that it voted.
	row := rowFor(crewNode("a"), 0, 1)
	voted, _, _ := askHear(t, crewNode("a"), toNode(crewNode("a"), propWord(row[0])))
	if got := askReboot(t, voted); got.Voted != 1 || len(got.Tree) != 1 || len(got.Votes) != 0 {
		t.Errorf("rebooted: %s", nodeTold(got))
	}
}

func TestNodeLeads(t *testing.T) {
	n := crewNode("b")
	after, made, said, sigs := askLead(t, n, 5)
	b := impl.Block{Id: 5, Round: 1, By: "b", Qc: rootQc()}
	isNode(t, "behind the root", after, changed(n, func(n *impl.Node) {
		n.Led, n.Voted, n.Tree, n.Votes = 1, 1, []impl.Block{b}, votesTold("1/5/b")
	}))
	vote := impl.Vote{Round: 1, Block: 5, Who: "b"}
	var want []impl.Msg
	for _, to := range []string{"a", "c", "d"} {
		want = append(want, impl.Msg{Kind: 1, To: to, Bs: []impl.Block{b}, Q: rootQc()})
	}
	for _, to := range []string{"a", "c", "d"} {
		want = append(want, impl.Msg{Kind: 2, To: to, V: vote, Q: rootQc()})
	}
	if !sameValue(made, []impl.Block{b}) || !sameValue(said, want) || !slices.Equal(sigs, []impl.Sig{{Kind: 1, Round: 1, What: 5, Who: "b"}}) {
		t.Errorf("made %v, said %v, signed %v", made, said, sigs)
	}
	refusesLead(t, "led already", after, 6)
	// Out of the pool the first four that are good go into the block, and stay in the pool.
	n.Pool = poolOf(pay("a", "b", 5, 0), pay("a", "b", 101, 1), stakes(2, "a", 1, 1), pay("b", "c", 1, 1), pay("c", "d", 2, 0), stakes(3, "c", 10, 1), stakes(3, "d", 1, 0))
	after, made, _, _ = askLead(t, n, 5)
	if !slices.Equal(made[0].Txs, []impl.Tx{pay("a", "b", 5, 0), stakes(2, "a", 1, 1), pay("c", "d", 2, 0), stakes(3, "c", 10, 1)}) || len(after.Pool) != 7 || made[0].End || len(after.Tree) != 1 {
		t.Errorf("with orders: %v, %v", made, after.Pool)
	}
	// Behind High: the second block is the End.
	row := rowFor(crewNode("c"), 0, 1)
	c := knowing("c", certOf(row[0]), row[0])
	c.Pool = []impl.Tx{stakes(2, "a", 7, 0)}
	after, made, _, _ = askLead(t, c, 1)
	if x := made[0]; !x.End || !sameQc(x.Qc, certOf(row[0])) || x.Round != 2 || !slices.Equal(x.Next, valsTold("a:17 b:10 c:10 d:10")) || len(x.Root) != 32 || len(after.Tree) != 2 || after.Voted != 2 {
		t.Errorf("behind High: %+v", x)
	}
	// A Tc is left out where High is of the round just ahead.
	c.Tc = tcOf(1, "a b c", 0, 0, 0)
	if _, made, _, _ := askLead(t, c, 1); !sameTc(made[0].Tc, impl.Tc{}) {
		t.Errorf("with a Tc: %+v", made)
	}
}

func refusesLead(t *testing.T, what string, n impl.Node, id int) {
	t.Helper()
	if after, made, said, sigs := askLead(t, n, id); len(made)+len(said)+len(sigs) > 0 || !sameValue(after, n) {
		t.Errorf("led: %s: %v", what, made)
	}
}

func TestNodeLeadsBehindRoundsLeft(t *testing.T) {
	row := rowFor(crewNode("b"), 0, 3)
	left := tcOf(4, "a b d", 2, 0, 1)
	n := knowing("b", certOf(row[1]), row[:2]...)
	n.Round, n.Tc, n.Voted, n.Led = 5, left, 4, 1
	after, made, said, sigs := askLead(t, n, 8)
	b := impl.Block{Id: 8, Round: 5, By: "b", Qc: certOf(row[1]), Tc: left}
	if !sameValue(made, []impl.Block{b}) || len(said) != 6 || len(sigs) != 1 || after.Led != 5 || after.Voted != 5 {
		t.Errorf("behind a Tc: %v", made)
	}
	for what, change := range map[string]func(n *impl.Node){
		"no Tc": func(n *impl.Node) { n.Tc = impl.Tc{} }, "a Tc of an earlier round": func(n *impl.Node) { n.Tc = tcOf(3, "a b d", 2, 0, 1) }, "one that left knew more": func(n *impl.Node) { n.Tc = tcOf(4, "a b d", 3, 0, 1) }, "High is not there": func(n *impl.Node) { n.High = qcOf(2, 9, "a b c") }, "High is not there, and of the round just ahead": func(n *impl.Node) { n.High = qcOf(4, 9, "a b c") },
		"no tree": func(n *impl.Node) { n.Tree = nil }, "Led is Round": func(n *impl.Node) { n.Led = 5 }, "Led is more": func(n *impl.Node) { n.Led = 6 }, "Led is much more": func(n *impl.Node) { n.Led = 10000 }, "another round": func(n *impl.Node) { n.Round = 6 }, "another one": func(n *impl.Node) { n.Name = "a" }, "a stranger": func(n *impl.Node) { n.Name = "z" }, "nobody votes": func(n *impl.Node) { n.Set, n.High, n.Tc = nil, rootQc(), impl.Tc{} },
	} {
		refusesLead(t, what, changed(n, change), 8)
	}
	for led := range 5 {
		if _, made, _, _ := askLead(t, changed(n, func(n *impl.Node) { n.Led = led }), 8); len(made) != 1 {
			t.Errorf("Led %d", led)
		}
	}
	// Who left the round leads it still, but does not vote.
	after, made, said, sigs = askLead(t, changed(n, func(n *impl.Node) { n.Voted = 5 }), 8)
	if len(made) != 1 || len(said) != 3 || len(sigs) != 0 || len(after.Tree) != 3 || after.Led != 5 {
		t.Errorf("left: %v, %v", said, sigs)
	}
	// High may be older than what the tree has, and behind the root.
	old := changed(n, func(n *impl.Node) { n.High, n.Tc = rootQc(), tcOf(4, "a b d", 0, 0, 0) })
	if _, made, _, _ := askLead(t, old, 8); len(made) != 1 || !sameQc(made[0].Qc, rootQc()) || made[0].End {
		t.Errorf("behind the root: %v", made)
	}
	// A Qc whose round is not its block's: the block is made, but not even its maker takes it.
	odd := changed(n, func(n *impl.Node) { n.High = qcOf(4, 1, "a b c") })
	if after, made, said, sigs := askLead(t, odd, 8); len(made) != 1 || len(said) != 3 || len(sigs) != 0 || !sameValue(after, changed(odd, func(n *impl.Node) { n.Led = 5 })) {
		t.Errorf("an odd High: %v", made)
	}
}

func TestNodeLeadsWithIds(t *testing.T) {
	row := rowFor(crewNode("c"), 4, 1)
	other := blockFor(crewNode("c"), 9, 1, rootQc(), impl.Tc{}, pay("a", "b", 1, 0))
	n := knowing("c", certOf(row[0]), row[0], other)
	for id, may := range map[int]bool{-2: false, -1: false, 0: false, 3: false, 4: false, 5: true, 8: true, 10: true, 99999: true, 100000: true, 100001: false, math.MaxInt: false, math.MinInt: false} {
		if !may {
			refusesLead(t, fmt.Sprint("the Id ", id), n, id)
			continue
		}
		if after, made, said, _ := askLead(t, n, id); len(made) != 1 || made[0].Id != id || len(said) != 6 || len(after.Tree) != 3 {
			t.Errorf("the Id %d: %v", id, made)
		}
	}
	// An Id that is there is not ruled out: the block goes out, and nobody who has the other one takes it.
	after, made, said, sigs := askLead(t, n, 9)
	if isNode(t, "there already", after, changed(n, func(n *impl.Node) { n.Led = 2 })); len(made) != 1 || len(said) != 3 || len(sigs) != 0 {
		t.Errorf("there already: %v, %v", made, said)
	}
	// Nor is a full tree.
	full := crewNode("b")
	for i := range 400 {
		full.Tree = append(full.Tree, blockFor(full, i, 1, rootQc(), impl.Tc{}))
	}
	if after, made, said, sigs := askLead(t, full, 400); len(made) != 1 || len(said) != 3 || len(sigs) != 0 || after.Led != 1 || len(after.Tree) != 400 {
		t.Errorf("a full tree: %v", said)
	}
	last := crewNode("a")
	last.Round, last.Tc = 10000, tcOf(9999, "a b c", 0, 0, 0)
	if after, made, _, _ := askLead(t, last, 0); len(made) != 1 || after.Voted != 10000 || !impl.NodeOk(after) {
		t.Errorf("the last round: %v", made)
	}
}

// Where nobody would vote in the next epoch there is no End.
func TestNodeLeadsNoEndWithoutVoters(t *testing.T) {
	n := newWanted("a", aloneLedger())
	n.Tree = []impl.Block{blockFor(n, 0, 1, rootQc(), impl.Tc{})}
	n.High, n.Round = qcOf(1, 0, "a"), 2
	refusesLead(t, "nobody is left", changed(n, func(n *impl.Node) { n.Pool = []impl.Tx{stakes(3, "a", 4, 0)} }), 1)
	for _, pool := range [][]impl.Tx{nil, {stakes(3, "a", 3, 0)}, {stakes(3, "a", 4, 0), stakes(2, "b", 1, 0)}, {stakes(3, "a", 4, 0), stakes(2, "a", 1, 1)}} {
		if _, made, _, _ := askLead(t, changed(n, func(n *impl.Node) { n.Pool = pool }), 1); len(made) != 1 {
			t.Errorf("not led with %v", pool)
		}
	}
}

// One alone makes each block certain by itself; three of them are an epoch.
func TestNodeAlone(t *testing.T) {
	n := newWanted("a", aloneLedger())
	n, _ = askSubmit(t, n, stakes(2, "b", 3, 0))
	row := []impl.Block{}
	for i := range 3 {
		after, made, said, sigs := askLead(t, n, i)
		if len(made) != 1 || len(said) != 0 || len(sigs) != 1 || sigs[0].Epoch != 3 || sigs[0].Round != i+1 || sigs[0].What != i {
			t.Fatalf("the block %d: %v, %v, %v", i, made, said, sigs)
		}
		row = append(row, made[0])
		if n = after; i < 2 && (n.Round != i+2 || n.Voted != i+1 || n.Led != i+1 || len(n.Done) != i) {
			t.Fatalf("behind the block %d: %s", i, nodeTold(n))
		}
	}
	base := ledgerOf(4, impl.Acct{Name: "a", Free: 50, Stake: 8}, impl.Acct{Name: "b", Free: 47, Nonce: 1, Stake: 7})
	isNode(t, "the next epoch", n, impl.Node{Name: "a", Epoch: 4, Base: base, Set: valsTold("a:8 b:7"), Round: 1, High: rootQc(), Done: []int{0, 1}, Past: []impl.Proof{{Epoch: 3, Bs: row, Q: qcOf(3, 2, "a")}}})
	refusesLead(t, "b leads the round 1", n, 3)
	if !row[1].End || row[0].End || row[2].End || len(row[0].Txs) != 1 || len(row[2].Txs) != 0 {
		t.Errorf("the blocks: %+v", row)
	}
}

// A crew is nodes whose words are carried to each other, and all that they signed.
type crew struct {
	t     *testing.T
	nodes []impl.Node
	net   []impl.Msg
	table []impl.Sig
	made  []impl.Block
}

func crewOf(t *testing.T, l impl.Ledger, names ...string) *crew {
	c := &crew{t: t}
	for _, name := range names {
		c.nodes = append(c.nodes, impl.NodeNew(name, l))
	}
	return c
}

// is puts the node as it is now at its place; a vote that it signed is the only one of its epoch and round.
func (c *crew) is(at int, n impl.Node, said []impl.Msg, sigs []impl.Sig) {
	c.t.Helper()
	for _, s := range sigs {
		if s.Kind == 1 && slices.ContainsFunc(c.table, func(x impl.Sig) bool {
			return x.Kind == 1 && x.Who == s.Who && x.Epoch == s.Epoch && x.Round == s.Round
		}) {
			c.t.Errorf("a second vote in a round: %v", s)
		}
	}
	c.nodes[at] = n
	c.net, c.table = append(c.net, said...), append(c.table, sigs...)
	for _, m := range said {
		if !impl.MsgOk(m) || m.To == n.Name || !impl.Signed(c.table, []string{"foul"}, m) {
			c.t.Errorf("said: %s", wordTold(m))
		}
	}
}

func (c *crew) lead(at int) bool {
	c.t.Helper()
	n, made, said, sigs := askLead(c.t, c.nodes[at], len(c.made))
	c.made = append(c.made, made...)
	c.is(at, n, said, sigs)
	return len(made) > 0
}

func (c *crew) leave(at int) {
	c.t.Helper()
	n, said, sigs := askLeave(c.t, c.nodes[at])
	c.is(at, n, said, sigs)
}

func (c *crew) hear(at int, m impl.Msg) {
	c.t.Helper()
	n, said, sigs := askHear(c.t, c.nodes[at], m)
	c.is(at, n, said, sigs)
}

func (c *crew) place(name string) int {
	return slices.IndexFunc(c.nodes, func(n impl.Node) bool { return n.Name == name })
}

// carry takes the word at this place out, and brings it to the one to whom it goes.
func (c *crew) carry(at int) {
	c.t.Helper()
	m := c.net[at]
	c.net = slices.Delete(slices.Clone(c.net), at, at+1)
	if to := c.place(m.To); to >= 0 {
		c.hear(to, m)
	}
}

func (c *crew) carryAll() {
	c.t.Helper()
	for range 3000 {
		if len(c.net) == 0 {
			return
		}
		c.carry(0)
	}
	c.t.Error("too many words")
}

// share tells from one to another how far it is in the epoch of that one.
func (c *crew) share(from, to int) bool {
	c.t.Helper()
	m, ok := askShare(c.t, c.nodes[from], c.nodes[to].Epoch, c.nodes[to].Name)
	if ok {
		if !impl.MsgOk(m) || !impl.Signed(c.table, []string{"foul"}, m) {
			c.t.Errorf("shared: %s", wordTold(m))
		}
		c.hear(to, m)
	}
	return ok
}

// round lets each one lead, and carries all that is said.
func (c *crew) round() {
	c.t.Helper()
	c.carryAll()
	for at := range c.nodes {
		c.lead(at)
		c.carryAll()
	}
}

// agrees: what is certain at one is the beginning of what is certain at another, and the ledger is that of the blocks.
func (c *crew) agrees() {
	c.t.Helper()
	for i, a := range c.nodes {
		for _, b := range c.nodes[:i] {
			if n := min(len(a.Done), len(b.Done)); !slices.Equal(a.Done[:n], b.Done[:n]) {
				c.t.Errorf("%s and %s: %v and %v", a.Name, b.Name, a.Done, b.Done)
			}
			if a.Epoch == b.Epoch && !sameLedger(a.Base, b.Base) {
				c.t.Errorf("%s and %s: the ledgers of the epoch %d", a.Name, b.Name, a.Epoch)
			}
		}
	}
}

func TestNodesOverEpochs(t *testing.T) {
	c := crewOf(t, crewLedger(), "a", "b", "c", "d")
	orders := []impl.Tx{pay("a", "b", 5, 0), stakes(2, "c", 7, 0), pay("d", "e", 20, 0), stakes(3, "b", 5, 0), pay("e", "a", 1, 0), pay("a", "c", 2, 1)}
	for i, x := range orders {
		for at := range c.nodes {
			if (i+at)%3 > 0 {
				c.nodes[at], _ = askSubmit(t, c.nodes[at], x)
			}
		}
	}
	for range 4 {
		c.round()
	}
	for i, n := range c.nodes {
		if n.Epoch < 2 || len(n.Done) != 2*n.Epoch+len(chainWanted(n.Tree, commitIdWanted(n.Tree, n.High))) || len(n.Past) != n.Epoch || !slices.Equal(n.Done, c.nodes[0].Done) || !impl.NodeOk(n) || n.Round != c.nodes[0].Round {
			t.Errorf("the node %d: %s", i, nodeTold(n))
		}
	}
	c.agrees()
	// The third block of an epoch makes the End certain, and is not done itself.
	if n := c.nodes[0]; !slices.Equal(n.Done[:6], []int{0, 1, 3, 4, 6, 7}) {
		t.Errorf("done: %v", n.Done)
	}
	// Each order is done once, and waits no more.
	last := c.nodes[0].Base
	if got := impl.Wealth(last.Accts); got != 440 || len(last.Accts) != 5 || last.Accts[0].Nonce != 2 || last.Accts[1].Stake != 5 || last.Accts[2].Stake != 17 {
		t.Errorf("the ledger: %v", last)
	}
	for _, n := range c.nodes {
		if len(n.Pool) != 0 || !slices.Equal(n.Set, valsTold("a:10 b:5 c:17 d:10")) {
			t.Errorf("%s: %v, %v", n.Name, n.Pool, n.Set)
		}
	}
}

// One to whom nobody speaks comes after by shares, epoch by epoch, and votes as soon as it has enough at stake.
func TestNodesComeAfter(t *testing.T) {
	c := crewOf(t, crewLedger(), "a", "b", "c", "d", "e")
	for at := range 4 {
		for _, x := range []impl.Tx{pay("a", "e", 30, 0), stakes(2, "e", 6, 0)} {
			c.nodes[at], _ = askSubmit(t, c.nodes[at], x)
		}
	}
	for range 4 {
		c.round()
	}
	e := c.nodes[4]
	if e.Epoch != 0 || len(e.Tree) != 0 || c.nodes[0].Epoch < 2 || !slices.Contains(namesOf(c.nodes[0].Set), "e") {
		t.Fatalf("e is told nothing: %s", nodeTold(e))
	}
	for epoch := range c.nodes[0].Epoch + 1 {
		if c.nodes[4].Epoch != epoch || !c.share(epoch%4, 4) {
			t.Errorf("a share of the epoch %d: %s", epoch, nodeTold(c.nodes[4]))
		}
	}
	a, e := c.nodes[0], c.nodes[4]
	if e.Epoch != a.Epoch || !slices.Equal(e.Done, a.Done) || !sameValue(e.Set, a.Set) || e.Round != a.Round {
		t.Errorf("e came after: %s", nodeTold(e))
	}
	for range 4 {
		c.round()
	}
	if !slices.ContainsFunc(c.table, func(s impl.Sig) bool { return s.Kind == 1 && s.Who == "e" }) || c.nodes[4].Epoch <= e.Epoch {
		t.Errorf("e does not vote: %s", nodeTold(c.nodes[4]))
	}
	c.agrees()
}

// Where one who should lead is still, the others leave the round, and go on.
func TestNodesWithoutOne(t *testing.T) {
	for _, still := range []string{"a", "b", "c", "d"} {
		names := slices.DeleteFunc([]string{"a", "b", "c", "d"}, func(s string) bool { return s == still })
		c := crewOf(t, crewLedger(), names...)
		for range 12 {
			led := false
			for at := range c.nodes {
				led = c.lead(at) || led
			}
			c.carryAll()
			for at := range c.nodes {
				if !led {
					c.leave(at)
				}
			}
			c.carryAll()
		}
		for _, n := range c.nodes {
			if len(n.Done) < 4 || n.Epoch < 2 || !slices.Equal(n.Done, c.nodes[0].Done) {
				t.Errorf("without %s: %s", still, nodeTold(n))
			}
		}
		// a would lead the round 4 alone, and by then the epoch has ended.
		if still != "a" && !slices.ContainsFunc(c.made, func(b impl.Block) bool { return b.Tc.Round > 0 }) {
			t.Errorf("without %s no round was left", still)
		}
	}
}

// forged is a word of the foul one, out of what was ever said: it votes, leaves and leads as it likes, and tells on what it heard, whole or in part.
func (c *crew) forged(r *rand.Rand) impl.Msg {
	at := r.Intn(len(c.nodes))
	n := c.nodes[at]
	certs, lefts := []impl.Qc{rootQc(), n.High}, []impl.Tc{{}, n.Tc}
	var blocks []impl.Block
	for _, b := range c.made {
		if b.Epoch == n.Epoch {
			blocks, certs, lefts = append(blocks, b), append(certs, b.Qc), append(lefts, b.Tc)
		}
	}
	q, x := certs[r.Intn(len(certs))], lefts[r.Intn(len(lefts))]
	round := max(1, n.Round+r.Intn(5)-2)
	m := impl.Msg{Kind: 1 + r.Intn(4), To: n.Name, Epoch: n.Epoch, Q: rootQc()}
	switch m.Kind {
	case 1:
		view := n
		view.Tree = blocks
		b := blockFor(view, len(c.made), max(round, q.Round+1), q, x, n.Pool...)
		if r.Intn(3) == 0 {
			b = anyChange(r, b)
		}
		m.Bs = []impl.Block{b}
		if len(blocks) > 0 && r.Intn(3) == 0 {
			m.Bs[0] = blocks[r.Intn(len(blocks))]
		}
	case 2:
		m.V = impl.Vote{Round: round, Block: max(0, len(c.made)-1-r.Intn(4)), Who: "foul"}
	case 3:
		m.Q, m.G = q, impl.Gone{Round: max(round, q.Round+1), High: q.Round, Who: "foul"}
	case 4:
		m.Q, m.T = q, x
		for _, b := range blocks {
			if r.Intn(5) > 0 {
				m.Bs = append(m.Bs, b)
			}
		}
	}
	return m
}

// anyChange is a block with one part that is another one.
func anyChange(r *rand.Rand, b impl.Block) impl.Block {
	changes := []func(b *impl.Block){
		func(b *impl.Block) { b.By = string("abc"[r.Intn(3)]) }, func(b *impl.Block) { b.Round++ }, func(b *impl.Block) { b.Tc = impl.Tc{} }, func(b *impl.Block) { b.Qc = rootQc() }, func(b *impl.Block) { b.Txs = append(b.Txs, pay("a", "b", 1, 0)) },
		func(b *impl.Block) { b.End, b.Next, b.Root = false, nil, "" }, func(b *impl.Block) { b.End, b.Next, b.Root = true, valsTold("foul:9"), root32 }, func(b *impl.Block) { b.Id = max(0, b.Id-1-r.Intn(3)) }, func(b *impl.Block) { b.Txs = nil }, func(b *impl.Block) { b.Qc.Who = append(slices.Clone(b.Qc.Who), "zed") },
	}
	return with(b, changes[r.Intn(len(changes))])
}

func foulLedger() impl.Ledger {
	l := crewLedger()
	l.Accts[3].Name = "foul"
	return l
}

// Whatever is lost, doubled, late, or said by a foul one that has less than a third: all stay right, vote once a round, and have the same done.
func TestNodesInAFoulWorld(t *testing.T) {
	ended, most, lied := 0, 0, 0
	for seed := range 25 {
		r := rand.New(rand.NewSource(int64(seed)))
		c := crewOf(t, foulLedger(), "a", "b", "c")
		for range 400 {
			at := r.Intn(3)
			switch k := r.Intn(40); {
			case k < 7:
				for i := range c.nodes {
					c.lead(i)
				}
			case k < 9:
				c.leave(at)
			case k < 12:
				c.share(at, (at+1+r.Intn(2))%3)
			case k < 13 && r.Intn(3) == 0:
				c.nodes[at] = askReboot(t, c.nodes[at])
			case k < 16:
				c.nodes[at], _ = askSubmit(t, c.nodes[at], anyOrder(r, c.nodes[at].Base))
			case k < 20:
				if m := c.forged(r); impl.MsgOk(m) && impl.Signed(c.table, []string{"foul"}, m) {
					lied++
					for _, b := range m.Bs {
						if b.Id == len(c.made) && b.By == "foul" {
							c.made = append(c.made, b)
						}
					}
					// A block that is another one than that of its Id is no word here: Ids are handed out once.
					if !slices.ContainsFunc(m.Bs, func(b impl.Block) bool { return b.Id >= len(c.made) || !impl.SameBlock(b, c.made[b.Id]) }) {
						c.net = append(c.net, m)
					}
				}
			case k < 21 && len(c.net) > 0:
				c.net = append(c.net, c.net[r.Intn(len(c.net))])
			case k < 22 && len(c.net) > 0:
				c.net = slices.Delete(slices.Clone(c.net), 0, 1)
			default:
				for range min(7, len(c.net)) {
					c.carry(r.Intn(min(len(c.net), 6)))
				}
			}
		}
		c.agrees()
		for _, n := range c.nodes {
			ended, most = ended+n.Epoch, max(most, len(n.Done))
		}
	}
	if ended < 30 || most < 6 || lied < 300 {
		t.Errorf("too little happened: %d epochs, %d done, %d lies", ended, most, lied)
	}
}

// oddNode is a node that is right, or nearly, by its parts alone, whatever they have to do with each other.
func oddNode(r *rand.Rand) impl.Node {
	epoch := pick(r, 3, 0, 1, 899, 900)
	n := newWanted("a", ledgerOf(epoch, crewLedger().Accts...))
	n.Name = []string{"a", "a", "b", "c", "zed"}[r.Intn(5)]
	n.Tree = oddTree(r, n)
	n.Round = 1 + r.Intn(9)
	n.Voted, n.Led = r.Intn(9), r.Intn(9)
	if round := r.Intn(n.Round); round > 0 {
		n.High = qcOf(round, r.Intn(8), "a b c")
		if b := oddBlock(r, n.Tree); b.Round < n.Round && b.Round > 0 && r.Intn(4) > 0 {
			n.High = certOf(b)
		}
	}
	if round := r.Intn(n.Round); round > 0 {
		n.Tc = tcOf(round, "b c d", r.Intn(round), r.Intn(round), r.Intn(round))
	}
	if r.Intn(2) == 0 {
		n.Round = max(n.High.Round, n.Tc.Round) + 1
		n.Name = leaderWanted(n.Set, n.Round)
	}
	if b := oddBlock(r, n.Tree); b.Round > 0 {
		n.Votes = votesBy(b.Round, b.Id, []string{"b", "d"})
	}
	for range r.Intn(12) {
		b := oddBlock(r, n.Tree)
		n.Votes = append(n.Votes, impl.Vote{Round: b.Round + r.Intn(2), Block: b.Id, Who: string("abcd"[r.Intn(4)])})
		n.Gones = append(n.Gones, impl.Gone{Round: 1 + r.Intn(9), Who: string("abcd"[r.Intn(4)])})
	}
	for _, b := range n.Tree {
		if r.Intn(4) == 0 {
			n.Done = append(n.Done, b.Id)
		}
	}
	for range r.Intn(4) {
		n.Pool, _ = poolAddWanted(n.Pool, anyOrder(r, n.Base))
	}
	if r.Intn(3) == 0 {
		n.Past = append(n.Past, impl.Proof{Epoch: epoch - r.Intn(2), Bs: n.Tree, Q: n.High})
	}
	switch r.Intn(40) {
	case 0:
		n.Done = make([]int, 199+r.Intn(3))
	case 1:
		n.Past = make([]impl.Proof, 199+r.Intn(3))
	case 2:
		n.Round, n.Voted = 9999+r.Intn(3), pick(r, 2, 0, 9999, 10000, 10001)
	}
	return n
}

// oddTree: blocks most of which are right where they stand, others only in their form.
func oddTree(r *rand.Rand, n impl.Node) []impl.Block {
	for id := range r.Intn(7) {
		q, round := rootQc(), 1+r.Intn(2)
		if b := oddBlock(r, n.Tree); b.Round > 0 && r.Intn(5) > 0 {
			q, round = certOf(b), b.Round+1
		}
		x := impl.Tc{}
		if r.Intn(4) == 0 {
			round += r.Intn(3)
			x = tcOf(max(round-1, 1), "a b d", 0, 0, 0)
		}
		b := blockFor(n, id, round, q, x, anyOrder(r, n.Base), anyOrder(r, n.Base))
		if r.Intn(8) == 0 {
			b = anyChange(r, b)
		}
		if tree, ok := addWanted(n.Tree, b); ok {
			n.Tree = tree
		}
	}
	return n.Tree
}

func oddBlock(r *rand.Rand, l []impl.Block) impl.Block {
	if len(l) == 0 {
		return impl.Block{}
	}
	return l[r.Intn(len(l))]
}

// oddWord is a word to such a node, of what it has, of what comes next, or of something else.
func oddWord(r *rand.Rand, n impl.Node) impl.Msg {
	more := n
	more.Tree = oddTree(r, n)
	if r.Intn(2) == 0 && len(n.Tree) > 0 {
		more.Tree = n.Tree
	}
	near := oddBlock(r, more.Tree)
	q := rootQc()
	if near.Round > 0 && r.Intn(5) > 0 {
		q = qcOf(near.Round, near.Id, []string{"a b c", "b c d", "a b c d", "a b"}[r.Intn(4)])
	}
	x := impl.Tc{}
	if r.Intn(2) == 0 {
		x = tcOf(q.Round+1+r.Intn(3), "a b c", q.Round, 0, 0)
	}
	m := impl.Msg{Kind: 1 + r.Intn(4), To: n.Name, Epoch: n.Epoch, Q: rootQc()}
	switch m.Kind {
	case 1:
		round := q.Round + 1
		if x.Round > 0 {
			round = x.Round + 1
		}
		b := blockFor(more, 7+r.Intn(3), round, q, x, n.Pool...)
		if r.Intn(4) == 0 {
			b = near
		}
		if r.Intn(8) == 0 {
			b = anyChange(r, b)
		}
		m.Bs = []impl.Block{b}
	case 2:
		m.V = impl.Vote{Round: near.Round, Block: near.Id, Who: string("abcdz"[r.Intn(5)])}
	case 3:
		m.Q, m.G = q, impl.Gone{Round: q.Round + 1 + r.Intn(4), High: q.Round, Who: string("abcdz"[r.Intn(5)])}
	case 4:
		m.Bs, m.Q, m.T = more.Tree, q, x
		if len(m.Bs) > 1 && r.Intn(3) == 0 {
			m.Bs = append(slices.Clone(m.Bs[r.Intn(len(m.Bs)):]), m.Bs...)
		}
	}
	return m
}

// Of any node and any word the answer is what is wanted, and a right node stays right.
func TestNodesOfAnything(t *testing.T) {
	r := rand.New(rand.NewSource(14))
	did := map[string]int{}
	for range 4000 {
		n := oddNode(r)
		calls := []nodeCall{{Deed: "hear", N: n, M: oddWord(r, n)}, {Deed: "hear", N: n, M: oddWord(r, n)}, {Deed: []string{"leave", "reboot", "ok"}[r.Intn(3)], N: n}, {Deed: "lead", N: n, Num: r.Intn(12)}, {Deed: "share", N: n, Num: n.Epoch - r.Intn(3) + 1, To: "b"}, {Deed: "submit", N: n, X: anyOrder(r, n.Base)}}
		if r.Intn(20) == 0 {
			m := anyWord(r)
			m.To, m.Epoch = n.Name, n.Epoch
			calls = append(calls, nodeCall{Deed: "hear", N: n, M: m})
		}
		for _, c := range calls {
			got := nodeAsked(t, c)
			after, ok := got[0].(impl.Node)
			what := c.Deed
			if c.Deed == "hear" {
				what += fmt.Sprint(c.M.Kind)
			}
			switch {
			case ok && len(after.Past) > len(n.Past):
				did[what+" ends"]++
			case ok && !sameValue(after, n):
				did[what]++
			}
		}
	}
	for what, least := range map[string]int{"hear1": 500, "hear2": 500, "hear3": 500, "hear4": 500, "hear1 ends": 30, "hear2 ends": 10, "hear3 ends": 30, "hear4 ends": 100, "leave": 200, "leave ends": 5, "lead": 200, "submit": 500, "reboot": 500} {
		if did[what] < least {
			t.Errorf("%s: too few: %d", what, did[what])
		}
	}
}

// Bounds that are passed amid a word: the node is not right any more, and hears itself no more.
func TestNodePassesItsBounds(t *testing.T) {
	n, b := rightProp()
	n.High, n.Round, n.Tree = certOf(b), 3, append(n.Tree, b)
	next := blockFor(n, 2, 3, certOf(b), impl.Tc{})
	for many, right := range map[int]bool{198: true, 199: true, 200: false} {
		n.Done = nil
		for i := range many {
			n.Done = append(n.Done, 1000+i)
		}
		after, said, sigs := askHear(t, n, toNode(n, propWord(next)))
		if len(after.Done) != many+1 || impl.NodeOk(after) != right || len(said) != 3 || len(sigs) != 1 || after.Voted != 3 || len(after.Votes) != map[bool]int{true: 1}[right] {
			t.Errorf("behind %d done: %v, %s", many, said, nodeTold(after))
		}
		if !right {
			unheard(t, "201 done", after, toNode(after, voteWord(3, 2, "b")))
		}
	}
	for many, right := range map[int]bool{198: true, 199: true, 200: false} {
		n := changed(endingNode(7), func(n *impl.Node) { n.Past = make([]impl.Proof, many) })
		if after, _, _ := askHear(t, n, toNode(n, voteWord(3, 12, "c"))); len(after.Past) != many+1 || after.Epoch != 8 || impl.NodeOk(after) != right {
			t.Errorf("behind %d past: %s", many, nodeTold(after))
		}
	}
	last := knowing("a", rootQc())
	last.Round = 9999
	for round, right := range map[int]bool{9998: true, 9999: true, 10000: false} {
		for _, m := range []impl.Msg{shareWord(qcOf(round, 7, "a b c"), impl.Tc{}), shareWord(rootQc(), tcOf(round, "a b c", 0, 0, 0))} {
			if after, _, _ := askHear(t, last, toNode(last, m)); after.Round != max(9999, round+1) || impl.NodeOk(after) != right {
				t.Errorf("the round %d: %s", round, nodeTold(after))
			}
		}
	}
}

// What is written into an answer is seen nowhere else, and no call keeps anything for another.
func TestNodesKeepNothing(t *testing.T) {
	var calls []nodeCall
	for _, n := range []impl.Node{busyNode(), crewNode("b"), endingNode(7), newWanted("a", aloneLedger()), wrongNodes()["Round 0"]} {
		calls = append(calls, deedsOf(n)...)
	}
	for _, x := range endings(7) {
		calls = append(calls, nodeCall{Deed: "hear", N: endingNode(7), M: x.m})
	}
	calls = append(calls, nodeCall{Deed: "new", N: busyNode(), To: "b"}, nodeCall{Deed: "share", N: endingNode(7), Num: 6, To: "b"})
	for i, c := range calls {
		args := withRoom(c)
		whole, want := memoryPrint(args), c.wanted()
		first := args.ask()
		scribbleOver(calls[(i+1)%len(calls)].ask())
		scribbleOver(args.ask())
		if !sameValue(first, want) {
			t.Errorf("%v: two answers share memory", c)
		}
		scribbleOver(first)
		if memoryPrint(args) != whole || !sameValue(args.ask(), want) {
			t.Errorf("%v: what is written into an answer is seen elsewhere", c)
		}
		second := args.ask()
		scribbleOver([]any{args.N, args.M})
		if !sameValue(second, want) {
			t.Errorf("%v: an answer shares memory with an argument", c)
		}
	}
}

// A share of as many blocks as there may be, one behind the other, takes no long time.
func TestNodeHearsVeryMany(t *testing.T) {
	n := crewNode("a")
	q, l := rootQc(), []impl.Block{}
	for i := range 400 {
		// Each second round is left out, so that nothing is certain.
		b := impl.Block{Id: i, Round: 2*i + 1, By: leaderWanted(n.Set, 2*i+1), Qc: q}
		if i > 0 {
			b.Tc = tcOf(2*i, "a b c", 0, 0, 0)
		}
		if i == 1 {
			b = makeWanted(n.Base, l, 0, nil).in(b)
		}
		l, q = append(l, b), certOf(b)
	}
	after, _, _ := impl.Hear(n, toNode(n, shareWord(q, impl.Tc{}, l...)))
	if len(after.Tree) != 400 || after.Round != 800 || len(after.Done) != 0 || !impl.NodeOk(after) {
		t.Errorf("400 blocks: %d in the round %d", len(after.Tree), after.Round)
	}
	long := n
	long.Votes, long.Tree, long.Done = make([]impl.Vote, 1<<17), slices.Repeat(l[:1], 1<<15), make([]int, 1<<17)
	if got, said, sigs := impl.Hear(long, toNode(n, voteWord(1, 1, "a"))); len(got.Votes) != 1<<17 || len(said)+len(sigs) != 0 || impl.NodeOk(long) {
		t.Error("very many votes")
	}
}
