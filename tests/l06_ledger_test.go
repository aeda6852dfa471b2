package tests

import (
	"fmt"
	"maps"
	"math"
	"math/rand"
	"slices"
	"strings"
	"testing"

	"loop.example/g00194/impl"
)

func ledgerOf(epoch int, l ...impl.Acct) impl.Ledger { return impl.Ledger{Epoch: epoch, Accts: l} }

func cloneLedger(l impl.Ledger) impl.Ledger { return ledgerOf(l.Epoch, cloneAccts(l.Accts)...) }

func sameLedger(a, b impl.Ledger) bool { return a.Epoch == b.Epoch && sameAccts(a.Accts, b.Accts) }

func ledgerWanted(l impl.Ledger) bool { return !outside(l.Epoch, 0, 900) && acctsWanted(l.Accts) }

// codeWanted: why an order can't be begun; 0 says nothing yet of what comes of it.
func codeWanted(l impl.Ledger, x impl.Tx) int {
	i := slices.IndexFunc(l.Accts, func(a impl.Acct) bool { return a.Name == x.From })
	switch {
	case !ledgerWanted(l) || !txWanted(x):
		return 1
	case i < 0:
		return 2
	case l.Accts[i].Nonce != x.Nonce:
		return 3
	case x.Kind == 3 && l.Accts[i].Stake < x.Amount, x.Kind != 3 && l.Accts[i].Free < x.Amount:
		return 4
	}
	return 0
}

// A purse tells an account by numbers alone: what leaves, by the epoch in which it is free.
type purse struct {
	free, nonce, stake int
	leaves             map[int]int
}

func pursesOf(l []impl.Acct) map[string]*purse {
	out := map[string]*purse{}
	for _, a := range l {
		p := &purse{a.Free, a.Nonce, a.Stake, map[int]int{}}
		for _, x := range a.Leaves {
			p.leaves[x.At] += x.Amount
		}
		out[a.Name] = p
	}
	return out
}

func acctsOf(purses map[string]*purse) []impl.Acct {
	var l []impl.Acct
	for _, name := range slices.Sorted(maps.Keys(purses)) {
		p := purses[name]
		a := impl.Acct{Name: name, Free: p.free, Nonce: p.nonce, Stake: p.stake}
		for _, at := range slices.Sorted(maps.Keys(p.leaves)) {
			a.Leaves = append(a.Leaves, impl.Leave{Amount: p.leaves[at], At: at})
		}
		l = append(l, a)
	}
	return l
}

func applyWanted(l impl.Ledger, x impl.Tx) (impl.Ledger, int) {
	if code := codeWanted(l, x); code != 0 {
		return l, code
	}
	purses := pursesOf(l.Accts)
	from := purses[x.From]
	from.nonce++
	switch x.Kind {
	case 1:
		if purses[x.To] == nil {
			purses[x.To] = &purse{}
		}
		from.free -= x.Amount
		purses[x.To].free += x.Amount
	case 2:
		from.free -= x.Amount
		from.stake += x.Amount
	case 3:
		from.stake -= x.Amount
		from.leaves[l.Epoch+2] += x.Amount
	}
	if after := ledgerOf(l.Epoch, acctsOf(purses)...); ledgerWanted(after) {
		return after, 0
	}
	return l, 5
}

func applyAllWanted(l impl.Ledger, ts []impl.Tx) (impl.Ledger, int) {
	good := 0
	for _, x := range ts {
		after, code := applyWanted(l, x)
		l = after
		if code == 0 {
			good++
		}
	}
	return l, good
}

func nextWanted(l impl.Ledger) impl.Ledger {
	if !ledgerWanted(l) || l.Epoch == 900 {
		return l
	}
	purses := pursesOf(l.Accts)
	for _, p := range purses {
		maps.DeleteFunc(p.leaves, func(at, amount int) bool {
			if at > l.Epoch+1 {
				return false
			}
			p.free += amount
			return true
		})
	}
	return ledgerOf(l.Epoch+1, acctsOf(purses)...)
}

func acctTexts(l []impl.Acct) []string {
	var texts []string
	for _, a := range l {
		s := textWanted(a.Name) + numWanted(a.Free) + numWanted(a.Nonce) + numWanted(a.Stake) + numWanted(len(a.Leaves))
		for _, x := range a.Leaves {
			s += numWanted(x.Amount) + numWanted(x.At)
		}
		texts = append(texts, s)
	}
	return texts
}

func rootWanted(l impl.Ledger) string {
	if !ledgerWanted(l) {
		return ""
	}
	if len(l.Accts) == 0 {
		return shaOf()
	}
	root, _ := layersOf(acctTexts(l.Accts), 0)
	return root
}

func checkApply(t *testing.T, l impl.Ledger, x impl.Tx) (impl.Ledger, int) {
	t.Helper()
	want, wantCode := applyWanted(l, x)
	got, code := impl.Apply(l, x)
	if code != wantCode || !sameLedger(got, want) {
		t.Fatalf("Apply(%.300v, %v): %.300v %d, not %.300v %d", fmt.Sprint(l), x, fmt.Sprint(got), code, fmt.Sprint(want), wantCode)
	}
	return got, code
}

func checkNext(t *testing.T, l impl.Ledger) impl.Ledger {
	t.Helper()
	want, got := nextWanted(l), impl.NextEpoch(l)
	if !sameLedger(got, want) {
		t.Fatalf("NextEpoch(%.300v): %.300v, not %.300v", fmt.Sprint(l), fmt.Sprint(got), fmt.Sprint(want))
	}
	return got
}

// does: the order is good, and leaves the accounts so, in the same epoch.
func does(t *testing.T, l impl.Ledger, x impl.Tx, want ...impl.Acct) {
	t.Helper()
	got, code := impl.Apply(l, x)
	if code != impl.LedgerGood || !sameLedger(got, ledgerOf(l.Epoch, want...)) {
		t.Errorf("Apply(%v, %v): %v %d, not %v", l, x, got, code, want)
	}
}

// refuses: the ledger comes back as it was, with this code.
func refuses(t *testing.T, l impl.Ledger, x impl.Tx, want int) {
	t.Helper()
	kept := cloneLedger(l)
	got, code := impl.Apply(l, x)
	if code != want || !sameLedger(got, kept) || !sameLedger(l, kept) {
		t.Errorf("Apply(%.300v, %v): %.300v %d, not %d", fmt.Sprint(kept), x, fmt.Sprint(got), code, want)
	}
}

// wrongLedgers: each has a fault of its Epoch, of its accounts, or of both.
func wrongLedgers() []impl.Ledger {
	var l []impl.Ledger
	for _, epoch := range []int{-1, -2, -900, 901, 902, 1000, 10000, 1 << 32, -1 << 32, 1<<32 + 5, math.MaxInt, math.MaxInt - 1, math.MinInt, math.MinInt + 1} {
		l = append(l, ledgerOf(epoch), ledgerOf(epoch, mixedAccts()...), ledgerOf(epoch, impl.Acct{Name: "a", Free: 5, Stake: 5}), ledgerOf(epoch, impl.Acct{Name: "A"}))
	}
	for _, a := range wrongAccts() {
		l = append(l, ledgerOf(0, a), ledgerOf(900, impl.Acct{Name: "0", Free: 4}, a, impl.Acct{Name: "zz", Leaves: leavesAt(2, 2)}))
	}
	return append(l,
		ledgerOf(5, impl.Acct{Name: "b", Free: 9}, impl.Acct{Name: "a", Free: 9}),
		ledgerOf(5, impl.Acct{Name: "a", Free: 9}, impl.Acct{Name: "a", Free: 9}),
		ledgerOf(5, impl.Acct{Name: "a", Free: 600000, Stake: 400001}),
		ledgerOf(5, impl.Acct{Name: "a", Free: 1000000}, impl.Acct{Name: "b", Leaves: leavesAt(1, 7)}),
		// The sum of all would wrap round to what is right.
		ledgerOf(5, impl.Acct{Name: "a", Free: math.MaxInt}, impl.Acct{Name: "b", Free: math.MaxInt}, impl.Acct{Name: "c", Free: 7}),
		ledgerOf(0, letteredAccts(13, 1)...), ledgerOf(0, letteredAccts(300, 1)...))
}

func TestLedgerConstants(t *testing.T) {
	codes := []int{impl.LedgerGood, impl.LedgerForm, impl.LedgerNone, impl.LedgerNonce, impl.LedgerShort, impl.LedgerFull}
	if !slices.Equal(codes, []int{0, 1, 2, 3, 4, 5}) || impl.MinStake != 5 {
		t.Error(codes, impl.MinStake)
	}
}

func TestLedgerRight(t *testing.T) {
	for _, epoch := range []int{0, 1, 2, 450, 899, 900} {
		for i, l := range [][]impl.Acct{nil, {}, mixedAccts(), letteredAccts(12, 5), {{Name: "a", Free: 1000000}}, {{Name: "a", Leaves: leavesAt(1, 0, 900, 902, 1000)}}} {
			if !impl.LedgerOk(ledgerOf(epoch, l...)) {
				t.Errorf("epoch %d, accounts %d: not right", epoch, i)
			}
		}
	}
	if !impl.LedgerOk(impl.Ledger{}) {
		t.Error("the zero one is not right")
	}
}

func TestLedgerNotRight(t *testing.T) {
	for _, l := range wrongLedgers() {
		if impl.LedgerOk(l) {
			t.Errorf("right: %.200v", fmt.Sprint(l))
		}
	}
}

// threeAccts: together 10+20+3 and 7 and 4.
func threeAccts() []impl.Acct {
	return []impl.Acct{{Name: "b", Free: 10, Nonce: 3, Stake: 20, Leaves: leavesAt(3, 6)}, {Name: "d", Free: 7}, {Name: "f", Nonce: 1, Stake: 4}}
}

func TestPayToOneThatIsThere(t *testing.T) {
	l := ledgerOf(5, threeAccts()...)
	does(t, l, pay("b", "d", 4, 3), impl.Acct{Name: "b", Free: 6, Nonce: 4, Stake: 20, Leaves: leavesAt(3, 6)}, impl.Acct{Name: "d", Free: 11}, impl.Acct{Name: "f", Nonce: 1, Stake: 4})
	does(t, l, pay("b", "f", 10, 3), impl.Acct{Name: "b", Nonce: 4, Stake: 20, Leaves: leavesAt(3, 6)}, impl.Acct{Name: "d", Free: 7}, impl.Acct{Name: "f", Free: 10, Nonce: 1, Stake: 4})
	does(t, l, pay("d", "b", 7, 0), impl.Acct{Name: "b", Free: 17, Nonce: 3, Stake: 20, Leaves: leavesAt(3, 6)}, impl.Acct{Name: "d", Nonce: 1}, impl.Acct{Name: "f", Nonce: 1, Stake: 4})
}

func TestPayToOneThatIsNot(t *testing.T) {
	for name, at := range map[string]int{"a": 0, "0": 0, "azzzzzzz": 0, "bb": 1, "b0": 1, "c": 1, "d0": 2, "e": 2, "ff": 3, "g": 3, "zzzzzzzz": 3} {
		for _, amount := range []int{1, 4, 10} {
			want := threeAccts()
			want[0].Free -= amount
			want[0].Nonce++
			does(t, ledgerOf(5, threeAccts()...), pay("b", name, amount, 3), slices.Insert(want, at, impl.Acct{Name: name, Free: amount})...)
		}
	}
}

func TestPayToOneself(t *testing.T) {
	for _, amount := range []int{1, 9, 10} {
		want := threeAccts()
		want[0].Nonce++
		does(t, ledgerOf(5, threeAccts()...), pay("b", "b", amount, 3), want...)
	}
	refuses(t, ledgerOf(5, threeAccts()...), pay("b", "b", 11, 3), impl.LedgerShort)
	refuses(t, ledgerOf(5, threeAccts()...), pay("e", "e", 1, 0), impl.LedgerNone)
	does(t, ledgerOf(0, impl.Acct{Name: "a", Free: 1000000}), pay("a", "a", 1000000, 0), impl.Acct{Name: "a", Free: 1000000, Nonce: 1})
}

func TestBond(t *testing.T) {
	for _, amount := range []int{1, 4, 5, 9, 10} {
		want := threeAccts()
		want[0] = impl.Acct{Name: "b", Free: 10 - amount, Nonce: 4, Stake: 20 + amount, Leaves: leavesAt(3, 6)}
		does(t, ledgerOf(5, threeAccts()...), stakes(2, "b", amount, 3), want...)
	}
	does(t, ledgerOf(0, impl.Acct{Name: "a", Free: 1000000}), stakes(2, "a", 1000000, 0), impl.Acct{Name: "a", Nonce: 1, Stake: 1000000})
}

func TestUnbond(t *testing.T) {
	for _, amount := range []int{1, 4, 19, 20} {
		want := threeAccts()
		want[0] = impl.Acct{Name: "b", Free: 10, Nonce: 4, Stake: 20 - amount, Leaves: []impl.Leave{{Amount: 3, At: 6}, {Amount: amount, At: 7}}}
		does(t, ledgerOf(5, threeAccts()...), stakes(3, "b", amount, 3), want...)
	}
	does(t, ledgerOf(0, impl.Acct{Name: "a", Stake: 1000000}), stakes(3, "a", 1000000, 0), impl.Acct{Name: "a", Nonce: 1, Leaves: leavesAt(1000000, 2)})
	for _, epoch := range []int{0, 1, 899, 900} {
		does(t, ledgerOf(epoch, impl.Acct{Name: "a", Stake: 9}), stakes(3, "a", 2, 0), impl.Acct{Name: "a", Nonce: 1, Stake: 7, Leaves: leavesAt(2, epoch+2)})
	}
}

func TestBondAndBackAgain(t *testing.T) {
	l := ledgerOf(4, impl.Acct{Name: "a", Free: 30}, impl.Acct{Name: "b", Free: 1})
	l, good := impl.ApplyAll(l, []impl.Tx{stakes(2, "a", 25, 0), stakes(3, "a", 10, 1), stakes(2, "a", 5, 2), stakes(3, "a", 20, 3)})
	if good != 4 || !sameLedger(l, ledgerOf(4, impl.Acct{Name: "a", Nonce: 4, Leaves: leavesAt(30, 6)}, impl.Acct{Name: "b", Free: 1})) {
		t.Error("taken away:", l, good)
	}
	refuses(t, l, pay("a", "b", 1, 4), impl.LedgerShort)
	refuses(t, l, stakes(2, "a", 1, 4), impl.LedgerShort)
	refuses(t, l, stakes(3, "a", 1, 4), impl.LedgerShort)
	l = impl.NextEpoch(impl.NextEpoch(l))
	if !sameLedger(l, ledgerOf(6, impl.Acct{Name: "a", Free: 30, Nonce: 4}, impl.Acct{Name: "b", Free: 1})) {
		t.Error("free again:", l)
	}
}

func TestUnbondTwiceInOneEpoch(t *testing.T) {
	l := ledgerOf(3, impl.Acct{Name: "a", Stake: 50, Leaves: leavesAt(4, 4)})
	for i, want := range []int{1, 3, 6, 10, 15} {
		l, _ = checkApply(t, l, stakes(3, "a", i+1, i))
		a := impl.Acct{Name: "a", Nonce: i + 1, Stake: 50 - want, Leaves: []impl.Leave{{Amount: 4, At: 4}, {Amount: want, At: 5}}}
		if !sameLedger(l, ledgerOf(3, a)) {
			t.Errorf("behind %d: %v", i, l)
		}
	}
}

func TestUnbondEpochByEpoch(t *testing.T) {
	l := ledgerOf(0, impl.Acct{Name: "a", Stake: 100})
	for epoch := range 20 {
		l, _ = impl.ApplyAll(l, []impl.Tx{stakes(3, "a", 1, 2*epoch), stakes(3, "a", 2, 2*epoch+1)})
		a := impl.Acct{Name: "a", Free: 3 * max(epoch-1, 0), Nonce: 2*epoch + 2, Stake: 97 - 3*epoch}
		if epoch > 0 {
			a.Leaves = leavesAt(3, epoch+1)
		}
		a.Leaves = append(a.Leaves, impl.Leave{Amount: 3, At: epoch + 2})
		if !sameLedger(l, ledgerOf(epoch, a)) {
			t.Fatalf("epoch %d: %v, not %v", epoch, l, a)
		}
		l = impl.NextEpoch(l)
	}
}

// An account that is right may have Leaves that its ledger's epochs did not bring: earlier ones, later ones, and four of them.
func TestUnbondBesideOtherLeaves(t *testing.T) {
	for _, x := range []struct{ before, after string }{
		{"", "7:9"}, {"6:1", "6:1 7:9"}, {"8:1", "7:9 8:1"}, {"7:1", "7:10"}, {"0:1", "0:1 7:9"}, {"1000:1", "7:9 1000:1"},
		{"5:1 6:2 8:3", "5:1 6:2 7:9 8:3"}, {"8:1 9:2 10:3", "7:9 8:1 9:2 10:3"}, {"4:1 5:2 6:3", "4:1 5:2 6:3 7:9"},
		{"7:1 8:2 9:3 10:4", "7:10 8:2 9:3 10:4"}, {"5:1 6:2 7:3 8:4", "5:1 6:2 7:12 8:4"}, {"4:1 5:2 6:3 7:4", "4:1 5:2 6:3 7:13"},
		{"3:1 4:2 5:3 6:4", ""}, {"8:1 9:2 10:3 11:4", ""}, {"5:1 6:2 8:3 9:4", ""}, {"0:1 1:2 2:3 1000:4", ""},
	} {
		l := ledgerOf(5, impl.Acct{Name: "a", Free: 1, Nonce: 8, Stake: 9, Leaves: leavesTold(x.before)}, impl.Acct{Name: "b", Leaves: leavesAt(2, 7)})
		if x.after == "" {
			refuses(t, l, stakes(3, "a", 9, 8), impl.LedgerFull)
			continue
		}
		does(t, l, stakes(3, "a", 9, 8), impl.Acct{Name: "a", Free: 1, Nonce: 9, Leaves: leavesTold(x.after)}, l.Accts[1])
	}
}

// leavesTold: "6:1 7:9" are two Leaves, of 1 at 6 and of 9 at 7.
func leavesTold(s string) []impl.Leave {
	var l []impl.Leave
	for _, word := range strings.Fields(s) {
		var x impl.Leave
		if _, err := fmt.Sscanf(word, "%d:%d", &x.At, &x.Amount); err != nil {
			panic(err)
		}
		l = append(l, x)
	}
	return l
}

// eachKind: an order of each kind, of one name, amount and nonce.
func eachKind(from string, amount, nonce int) []impl.Tx {
	return []impl.Tx{pay(from, "b", amount, nonce), pay(from, from, amount, nonce), pay(from, "new", amount, nonce), stakes(2, from, amount, nonce), stakes(3, from, amount, nonce)}
}

func TestApplyNonces(t *testing.T) {
	for _, nonce := range []int{0, 1, 2, 500, 9998, 9999, 10000} {
		l := ledgerOf(1, impl.Acct{Name: "a", Free: 5, Nonce: nonce, Stake: 5}, impl.Acct{Name: "b", Nonce: 7})
		for _, given := range []int{0, 1, 2, 7, 500, nonce - 2, nonce - 1, nonce, nonce + 1, nonce + 2, 10000} {
			for _, x := range eachKind("a", 2, given) {
				got, code := checkApply(t, l, x)
				want := impl.LedgerNonce
				switch {
				case outside(given, 0, 10000):
					want = impl.LedgerForm
				case given == nonce && nonce == 10000:
					want = impl.LedgerFull
				case given == nonce:
					want = impl.LedgerGood
				}
				if code != want || code == impl.LedgerGood && got.Accts[0].Nonce != nonce+1 {
					t.Errorf("account %d, order %v: %v %d", nonce, x, got, code)
				}
			}
		}
	}
}

// The greatest Nonce is that of an account which gave its last order.
func TestApplyLastNonce(t *testing.T) {
	l := ledgerOf(1, impl.Acct{Name: "a", Free: 9, Nonce: 9999, Stake: 9}, impl.Acct{Name: "b", Free: 9, Nonce: 4})
	for _, x := range eachKind("a", 2, 9999) {
		last, code := impl.Apply(l, x)
		if code != impl.LedgerGood || last.Accts[0].Nonce != 10000 || !impl.LedgerOk(last) {
			t.Errorf("%v: %v %d", x, last, code)
		}
		for _, y := range eachKind("a", 1, 10000) {
			refuses(t, last, y, impl.LedgerFull)
		}
		refuses(t, last, pay("a", "b", 1000, 10000), impl.LedgerShort)
		refuses(t, last, pay("a", "b", 1, 9999), impl.LedgerNonce)
		if _, code := impl.Apply(last, pay("b", "a", 2, 4)); code != impl.LedgerGood {
			t.Errorf("to the one with the greatest nonce: %d", code)
		}
	}
}

func TestApplyAmounts(t *testing.T) {
	for _, a := range []impl.Acct{
		{Name: "a"}, {Name: "a", Free: 1}, {Name: "a", Stake: 1}, {Name: "a", Free: 5, Stake: 8}, {Name: "a", Free: 8, Stake: 5},
		{Name: "a", Free: 3, Stake: 4, Leaves: leavesAt(50, 1, 2, 3)}, {Name: "a", Free: 999999, Stake: 1}, {Name: "a", Free: 1, Stake: 999999}, {Name: "a", Leaves: leavesAt(1000000, 2)},
		{Name: "a", Free: 1000000}, {Name: "a", Stake: 1000000},
	} {
		l := ledgerOf(0, a, impl.Acct{Name: "b"})
		for _, have := range []int{a.Free, a.Stake, a.Free + a.Stake} {
			for amount := have - 1; amount <= have+1; amount++ {
				for _, x := range eachKind("a", amount, 0) {
					had := a.Free
					if x.Kind == impl.TxUnbond {
						had = a.Stake
					}
					want := impl.LedgerGood
					switch {
					case outside(amount, 1, 1000000):
						want = impl.LedgerForm
					case amount > had:
						want = impl.LedgerShort
					}
					if _, code := checkApply(t, l, x); code != want {
						t.Errorf("%v of %v: %d, not %d", x, a, code, want)
					}
				}
			}
		}
	}
}

func TestPayWhenThereIsRoom(t *testing.T) {
	for n := 1; n <= 12; n++ {
		l := ledgerOf(2, letteredAccts(n, 7)...)
		for _, name := range []string{"0", "aaa", "aba", "b", "zz"} {
			want := impl.LedgerGood
			if n == 12 {
				want = impl.LedgerFull
			}
			for _, amount := range []int{1, 7} {
				got, code := checkApply(t, l, pay("aa", name, amount, 0))
				if code != want || code == impl.LedgerGood && (len(got.Accts) != n+1 || got.Accts[impl.AcctAt(got.Accts, name)].Free != amount) {
					t.Errorf("%d accounts, to %q: %v %d", n, name, got, code)
				}
			}
		}
		for _, a := range letteredAccts(n, 7) {
			if got, code := checkApply(t, l, pay("aa", a.Name, 7, 0)); code != impl.LedgerGood || len(got.Accts) != n {
				t.Errorf("%d accounts, to %q: %v %d", n, a.Name, got, code)
			}
		}
	}
	// The one that has nothing left keeps its account, so that there is no room for another.
	l, good := impl.ApplyAll(ledgerOf(0, letteredAccts(11, 7)...), []impl.Tx{pay("aa", "x", 7, 0), pay("ab", "y", 7, 0), pay("ab", "x", 7, 0)})
	if good != 2 || len(l.Accts) != 12 || l.Accts[11].Free != 14 || l.Accts[0].Free != 0 {
		t.Error("the twelfth and the thirteenth:", l, good)
	}
}

func TestApplyToNotRight(t *testing.T) {
	xs := []impl.Tx{pay("a", "b", 1, 0), pay("a", "a", 1, 0), pay("b", "a", 1, 2), pay("aa", "zz", 1, 0), stakes(2, "a", 1, 0), stakes(3, "a", 1, 0), stakes(3, "b", 1, 2), stakes(2, "x", 1, 0), {}}
	for _, l := range wrongLedgers() {
		for _, x := range xs {
			refuses(t, l, x, impl.LedgerForm)
		}
	}
}

func TestApplyOrderNotRight(t *testing.T) {
	l := ledgerOf(2, impl.Acct{Name: "a", Free: 1000, Nonce: 3, Stake: 1000}, impl.Acct{Name: "b", Free: 1000, Nonce: 3})
	for _, x := range wrongTxs() {
		refuses(t, l, x, impl.LedgerForm)
		refuses(t, ledgerOf(0), x, impl.LedgerForm)
	}
}

func TestApplyWithoutAccount(t *testing.T) {
	l := ledgerOf(5, threeAccts()...)
	for _, from := range []string{"a", "c", "bb", "e", "g", "0", "zzzzzzzz"} {
		for _, x := range eachKind(from, 1, 0) {
			refuses(t, l, x, impl.LedgerNone)
			refuses(t, ledgerOf(0), x, impl.LedgerNone)
			refuses(t, ledgerOf(900, letteredAccts(12, 3)...), x, impl.LedgerNone)
		}
	}
}

// Each row has the reason that is told, and others that come behind it.
func TestApplyFirstReason(t *testing.T) {
	full := letteredAccts(12, 7)
	full[0].Nonce = 10000
	four := impl.Acct{Name: "a", Nonce: 10000, Stake: 9, Leaves: leavesAt(1, 0, 1, 2, 3)}
	for _, x := range []struct {
		l    impl.Ledger
		t    impl.Tx
		want int
	}{
		{ledgerOf(901, full...), pay("zz", "new", 100, 3), 1},
		{ledgerOf(-1, full...), pay("aa", "new", 100, 3), 1},
		{ledgerOf(0, full...), impl.Tx{Kind: 4, From: "zz", Amount: 100, Nonce: 3}, 1},
		{ledgerOf(0, full...), pay("aa", "new", 0, 3), 1},
		{ledgerOf(0, full...), pay("aa", "new", 7, 10001), 1},
		{ledgerOf(0, full...), pay("zz", "new", 100, 3), 2},
		{ledgerOf(0, full...), pay("aa", "new", 100, 3), 3},
		{ledgerOf(0, full...), pay("ab", "new", 100, 1), 3},
		{ledgerOf(0, full...), pay("ab", "new", 7, 1), 3},
		{ledgerOf(0, full...), pay("aa", "new", 8, 10000), 4},
		{ledgerOf(0, full...), pay("ab", "new", 8, 0), 4},
		{ledgerOf(0, full...), pay("aa", "new", 7, 10000), 5},
		{ledgerOf(0, full...), pay("aa", "ab", 7, 10000), 5},
		{ledgerOf(0, full...), pay("ab", "new", 7, 0), 5},
		{ledgerOf(7, four), stakes(3, "a", 10, 9999), 3},
		{ledgerOf(7, four), stakes(3, "a", 10, 10000), 4},
		{ledgerOf(7, four), stakes(3, "a", 9, 10000), 5},
		{ledgerOf(1, four), stakes(3, "a", 9, 10000), 5},
		{ledgerOf(0, full...), pay("ab", "aa", 7, 0), 0},
	} {
		if _, code := checkApply(t, x.l, x.t); code != x.want {
			t.Errorf("%v to %v: %d, not %d", x.t, x.l, code, x.want)
		}
	}
}

func TestApplyAllMixed(t *testing.T) {
	l := ledgerOf(5, threeAccts()...)
	ts := []impl.Tx{
		pay("b", "c", 4, 3), {}, pay("b", "c", 4, 3), stakes(2, "c", 4, 0), pay("z", "c", 1, 0), stakes(3, "c", 5, 1), stakes(3, "c", 3, 1),
		pay("b", "d", 7, 4), pay("b", "d", 6, 4), stakes(4, "b", 1, 5), stakes(3, "b", 20, 5), pay("d", "b", 13, 0), stakes(3, "c", 1, 2), stakes(2, "b", 14, 6), stakes(2, "b", 13, 6),
	}
	got, good := impl.ApplyAll(l, ts)
	want := ledgerOf(5,
		impl.Acct{Name: "b", Nonce: 7, Stake: 13, Leaves: []impl.Leave{{Amount: 3, At: 6}, {Amount: 20, At: 7}}},
		impl.Acct{Name: "c", Nonce: 3, Leaves: leavesAt(4, 7)},
		impl.Acct{Name: "d", Nonce: 1},
		impl.Acct{Name: "f", Nonce: 1, Stake: 4})
	if good != 8 || !sameLedger(got, want) || impl.Wealth(got.Accts) != impl.Wealth(l.Accts) {
		t.Errorf("%v %d, not %v", got, good, want)
	}
	model, wantGood := applyAllWanted(l, ts)
	if wantGood != 8 || !sameLedger(model, want) {
		t.Errorf("the model: %v %d", model, wantGood)
	}
}

func TestApplyAllOfNone(t *testing.T) {
	for _, l := range append(wrongLedgers(), ledgerOf(0), ledgerOf(900, mixedAccts()...), ledgerOf(5, threeAccts()...)) {
		for _, ts := range [][]impl.Tx{nil, {}, rightTxs()[:0]} {
			if got, good := impl.ApplyAll(l, ts); good != 0 || !sameLedger(got, l) {
				t.Errorf("%.200v: %.200v %d", fmt.Sprint(l), fmt.Sprint(got), good)
			}
		}
	}
}

func TestApplyAllRefused(t *testing.T) {
	for _, l := range wrongLedgers() {
		if got, good := impl.ApplyAll(l, []impl.Tx{pay("a", "b", 1, 0), stakes(2, "a", 1, 0), {}}); good != 0 || !sameLedger(got, l) {
			t.Errorf("%.200v: %.200v %d", fmt.Sprint(l), fmt.Sprint(got), good)
		}
	}
	l := ledgerOf(5, threeAccts()...)
	if got, good := impl.ApplyAll(l, wrongTxs()); good != 0 || !sameLedger(got, l) {
		t.Errorf("orders that are not right: %v %d", got, good)
	}
	if got, good := impl.ApplyAll(ledgerOf(0), rightTxs()); good != 0 || !sameLedger(got, ledgerOf(0)) {
		t.Errorf("no account: %v %d", got, good)
	}
}

// Many orders behind each other: one account gives all that it ever may, in one call.
func TestApplyAllOfMany(t *testing.T) {
	var ts []impl.Tx
	for nonce := range 10001 {
		ts = append(ts, pay("a", "b", 1, nonce))
	}
	got, good := impl.ApplyAll(ledgerOf(0, impl.Acct{Name: "a", Free: 20000}), ts)
	if good != 10000 || !sameLedger(got, ledgerOf(0, impl.Acct{Name: "a", Free: 10000, Nonce: 10000}, impl.Acct{Name: "b", Free: 10000})) {
		t.Error(got, good)
	}
}

func TestNextEpochLeaves(t *testing.T) {
	for _, epoch := range []int{0, 1, 2, 500, 898, 899} {
		for _, x := range []struct {
			at    []int
			freed int
			stay  []int
		}{
			{nil, 0, nil}, {[]int{epoch}, 1, nil}, {[]int{epoch + 1}, 1, nil}, {[]int{epoch + 2}, 0, []int{epoch + 2}}, {[]int{epoch + 3}, 0, []int{epoch + 3}},
			{[]int{epoch, epoch + 1, epoch + 2, epoch + 3}, 2, []int{epoch + 2, epoch + 3}}, {[]int{epoch, epoch + 1}, 2, nil}, {[]int{epoch + 1, 1000}, 1, []int{1000}},
		} {
			l := ledgerOf(epoch, impl.Acct{Name: "a", Free: 5, Nonce: 6, Stake: 7, Leaves: leavesAt(4, x.at...)}, impl.Acct{Name: "b", Nonce: 1})
			want := ledgerOf(epoch+1, impl.Acct{Name: "a", Free: 5 + 4*x.freed, Nonce: 6, Stake: 7, Leaves: leavesAt(4, x.stay...)}, impl.Acct{Name: "b", Nonce: 1})
			if got := checkNext(t, l); !sameLedger(got, want) || impl.Wealth(got.Accts) != impl.Wealth(l.Accts) {
				t.Errorf("%v: %v", l, got)
			}
		}
	}
	got := impl.NextEpoch(ledgerOf(3, mixedAccts()...))
	want := mixedAccts()
	want[0].Free, want[0].Leaves = 8, nil
	want[3].Free, want[3].Leaves = 2, []impl.Leave{{Amount: 4, At: 7}, {Amount: 8, At: 1000}}
	if !sameLedger(got, ledgerOf(4, want...)) {
		t.Error("of several accounts:", got)
	}
}

func TestNextEpochEdges(t *testing.T) {
	for _, epoch := range []int{0, 1, 450, 898, 899} {
		for _, accts := range [][]impl.Acct{nil, {}} {
			if got := impl.NextEpoch(ledgerOf(epoch, accts...)); !sameLedger(got, ledgerOf(epoch+1)) {
				t.Errorf("no account, epoch %d: %v", epoch, got)
			}
		}
	}
	// Behind the last epoch there is none, whatever would be free by then.
	for _, accts := range [][]impl.Acct{nil, mixedAccts(), threeAccts(), {{Name: "a", Leaves: leavesAt(1, 899, 900, 901, 902)}}} {
		if l := ledgerOf(900, accts...); !sameLedger(impl.NextEpoch(l), l) {
			t.Errorf("behind the last epoch: %v", impl.NextEpoch(l))
		}
	}
	full := ledgerOf(899, impl.Acct{Name: "a", Leaves: leavesAt(250000, 897, 898, 899, 900)})
	if got := impl.NextEpoch(full); !sameLedger(got, ledgerOf(900, impl.Acct{Name: "a", Free: 1000000})) {
		t.Error("all there may be is free:", got)
	}
	for _, l := range wrongLedgers() {
		if got := impl.NextEpoch(l); !sameLedger(got, l) {
			t.Errorf("%.200v: %.200v", fmt.Sprint(l), fmt.Sprint(got))
		}
	}
}

// All epochs, one behind the other: a Leave is free in the epoch that it names, and in none ahead of it.
func TestEveryEpoch(t *testing.T) {
	l := ledgerOf(0, impl.Acct{Name: "a", Free: 1, Stake: 3, Leaves: []impl.Leave{{Amount: 10, At: 1}, {Amount: 100, At: 450}, {Amount: 1000, At: 900}, {Amount: 10000, At: 901}}})
	for epoch := range 901 {
		free := 1
		for at, amount := range map[int]int{1: 10, 450: 100, 900: 1000} {
			if epoch >= at {
				free += amount
			}
		}
		if l.Epoch != epoch || l.Accts[0].Free != free || impl.Wealth(l.Accts) != 11114 || !impl.LedgerOk(l) {
			t.Fatalf("epoch %d: %v", epoch, l)
		}
		l = impl.NextEpoch(l)
	}
	if l.Epoch != 900 || !slices.Equal(l.Accts[0].Leaves, leavesAt(10000, 901)) {
		t.Error("at the end:", l)
	}
}

func TestStateRootKnown(t *testing.T) {
	a, b := "\x02a\x06\x00\x00\x00", "\x06bc0\x80\x89\x7a\xa0\x9c\x01\x0a\x04\x02\x00\x80\x01\xd0\x0f"
	accts := []impl.Acct{{Name: "a", Free: 3}, {Name: "bc0", Free: 1000000, Nonce: 10000, Stake: 5, Leaves: []impl.Leave{{Amount: 1, At: 0}, {Amount: 64, At: 1000}}}}
	if !slices.Equal(acctTexts(accts), []string{a, b}) {
		t.Fatalf("the model: %x", acctTexts(accts))
	}
	accts[1].Free, b = 64, "\x06bc0\x80\x01\xa0\x9c\x01\x0a\x04\x02\x00\x80\x01\xd0\x0f"
	for _, epoch := range []int{0, 1, 899, 900} {
		if r := impl.StateRoot(ledgerOf(epoch, accts[0])); r != leafOf(a) {
			t.Errorf("of one: %x", r)
		}
		if r := impl.StateRoot(ledgerOf(epoch, accts[1])); r != leafOf(b) {
			t.Errorf("of one with Leaves: %x", r)
		}
		if r := impl.StateRoot(ledgerOf(epoch, accts...)); r != pairOf(leafOf(a), leafOf(b)) {
			t.Errorf("of two: %x", r)
		}
		if r := impl.StateRoot(ledgerOf(epoch)); r != shaOf() {
			t.Errorf("of none: %x", r)
		}
	}
}

func TestStateRootOfNotRight(t *testing.T) {
	for _, l := range wrongLedgers() {
		if r := impl.StateRoot(l); r != "" {
			t.Errorf("%.200v: %x", fmt.Sprint(l), r)
		}
	}
}

func TestEachAccountHasItsPath(t *testing.T) {
	lists := [][]impl.Acct{mixedAccts(), threeAccts()}
	for n := 1; n <= 12; n++ {
		lists = append(lists, letteredAccts(n, 7*n))
	}
	for _, l := range lists {
		root, texts := impl.StateRoot(ledgerOf(8, l...)), acctTexts(l)
		if len(root) != 32 || root != rootWanted(ledgerOf(8, l...)) {
			t.Errorf("%v: %x", l, root)
		}
		for i, s := range texts {
			path := impl.PathOf(texts, i)
			if !impl.CheckPath(s, i, len(texts), path, root) || impl.CheckPath(s+"\x00", i, len(texts), path, root) {
				t.Errorf("the account at %d of %d", i, len(texts))
			}
		}
	}
}

// Whatever of an account is another one, the root is another one.
func TestStateRootTellsAll(t *testing.T) {
	base := ledgerOf(2, threeAccts()...)
	roots := map[string]int{impl.StateRoot(base): -1}
	for i, change := range []func(l []impl.Acct){
		func(l []impl.Acct) { l[0].Name = "a" }, func(l []impl.Acct) { l[0].Free++ }, func(l []impl.Acct) { l[0].Nonce++ }, func(l []impl.Acct) { l[0].Stake++ },
		func(l []impl.Acct) { l[0].Leaves = nil }, func(l []impl.Acct) { l[0].Leaves[0].Amount++ }, func(l []impl.Acct) { l[0].Leaves[0].At++ },
		func(l []impl.Acct) { l[0].Leaves = leavesAt(3, 6, 7) }, func(l []impl.Acct) { l[1].Free++ }, func(l []impl.Acct) { l[2].Stake++ }, func(l []impl.Acct) { l[2].Leaves = leavesAt(3, 6) },
	} {
		l := cloneLedger(base)
		change(l.Accts)
		r := impl.StateRoot(l)
		if k, there := roots[r]; there || len(r) != 32 || r != rootWanted(l) {
			t.Errorf("change %d has the root of %d: %x", i, k, r)
		}
		roots[r] = i
	}
	l := cloneLedger(base)
	l.Epoch = 700
	if impl.StateRoot(l) != impl.StateRoot(base) || impl.StateRoot(ledgerOf(2, base.Accts[:2]...)) == impl.StateRoot(base) {
		t.Error("the epoch is no account; the last account is one")
	}
}

// anyOrder is mostly one that an account of the ledger may give.
func anyOrder(r *rand.Rand, l impl.Ledger) impl.Tx {
	if len(l.Accts) == 0 || r.Intn(12) == 0 {
		return anyTx(r)
	}
	a := l.Accts[r.Intn(len(l.Accts))]
	x := impl.Tx{Kind: 1 + r.Intn(3), From: a.Name, Nonce: a.Nonce}
	most := a.Free
	if x.Kind == 3 {
		most = a.Stake
	}
	x.Amount = []int{1, 2, most / 2, most - 1, most, most + 1, 1 + r.Intn(max(most, 1))}[r.Intn(7)]
	if x.Kind == 1 {
		x.To = []string{"a", "b", "c", "d", "e", "f", "g", "h", "i", "j", "k", "l", "m", "n"}[r.Intn(14)]
	}
	if r.Intn(10) == 0 {
		x.Nonce += r.Intn(3) - 1
	}
	if r.Intn(15) == 0 {
		x.From = "nobody"
	}
	return x
}

// The promise itself: by whatever orders and epochs, what is free, at stake and leaving together is what it was.
func TestNothingLostNothingMade(t *testing.T) {
	r := rand.New(rand.NewSource(9))
	codes := [6]int{}
	for range 300 {
		l := ledgerOf(r.Intn(901), letteredAccts(1+r.Intn(11), r.Intn(80000))...)
		for i := range l.Accts {
			l.Accts[i].Stake = r.Intn(1000)
			l.Accts[i].Nonce = r.Intn(3) * 4999
		}
		all := impl.Wealth(l.Accts)
		for range 100 {
			if r.Intn(8) == 0 {
				l = checkNext(t, l)
			} else {
				after, code := checkApply(t, l, anyOrder(r, l))
				l = after
				codes[code]++
			}
			if impl.Wealth(l.Accts) != all || !impl.LedgerOk(l) {
				t.Fatalf("together %d, not %d: %v", impl.Wealth(l.Accts), all, l)
			}
		}
	}
	for code, n := range codes {
		if n < 50 {
			t.Errorf("code %d came %d times", code, n)
		}
	}
}

// What one has with all that is its own changes by what is paid alone.
func TestWhatOneHas(t *testing.T) {
	r := rand.New(rand.NewSource(10))
	has := func(l impl.Ledger, name string) int {
		if at := impl.AcctAt(l.Accts, name); at >= 0 {
			return impl.Wealth(l.Accts[at : at+1])
		}
		return 0
	}
	for range 200 {
		l := ledgerOf(0, impl.Acct{Name: "a", Free: 100, Stake: 100}, impl.Acct{Name: "b", Free: 50}, impl.Acct{Name: "c", Stake: 30})
		for range 60 {
			x := anyOrder(r, l)
			after, code := impl.Apply(l, x)
			for _, name := range []string{"a", "b", "c", "d", "e", "n"} {
				want := has(l, name)
				if code == impl.LedgerGood && x.Kind == impl.TxPay && x.From == name {
					want -= x.Amount
				}
				if code == impl.LedgerGood && x.Kind == impl.TxPay && x.To == name {
					want += x.Amount
				}
				if has(after, name) != want || has(impl.NextEpoch(after), name) != want {
					t.Fatalf("%v to %v: %q has %d, not %d", x, l, name, has(after, name), want)
				}
			}
			if l = after; r.Intn(10) == 0 {
				l = impl.NextEpoch(l)
			}
		}
	}
}

func TestLedgersOfAnything(t *testing.T) {
	r := rand.New(rand.NewSource(11))
	right, goods := 0, 0
	for range 20000 {
		l := ledgerOf([]int{0, 1, 2, 3, 498, 500, 899, 900, 901, -1, math.MaxInt, math.MinInt}[r.Intn(8+r.Intn(6)/5*4)], anyAccts(r)...)
		if impl.LedgerOk(l) != ledgerWanted(l) {
			t.Fatalf("LedgerOk(%v): %v", l, !ledgerWanted(l))
		}
		if ledgerWanted(l) {
			right++
		}
		if got := impl.StateRoot(l); got != rootWanted(l) {
			t.Fatalf("StateRoot(%v): %x", l, got)
		}
		checkNext(t, l)
		var ts []impl.Tx
		for range r.Intn(6) {
			ts = append(ts, anyOrder(r, l))
			checkApply(t, l, ts[len(ts)-1])
		}
		want, wantGood := applyAllWanted(l, ts)
		got, good := impl.ApplyAll(l, ts)
		if good != wantGood || !sameLedger(got, want) {
			t.Fatalf("ApplyAll(%v, %v): %v %d, not %v %d", l, ts, got, good, want, wantGood)
		}
		goods += good
	}
	if right < 1000 || goods < 1000 {
		t.Errorf("too few are right: %d, good %d", right, goods)
	}
}

// Very great and very small numbers, in each place where a number stands.
func TestLedgersOfGreatNumbers(t *testing.T) {
	for _, n := range []int{math.MaxInt, math.MaxInt - 1, math.MinInt, math.MinInt + 1, 1 << 32, -1 << 32, 1<<62 + 1} {
		for _, l := range []impl.Ledger{
			ledgerOf(n, impl.Acct{Name: "a", Free: 5, Stake: 5}), ledgerOf(0, impl.Acct{Name: "a", Free: n, Stake: 5}), ledgerOf(0, impl.Acct{Name: "a", Free: 5, Stake: n}),
			ledgerOf(0, impl.Acct{Name: "a", Free: 5, Nonce: n, Stake: 5}), ledgerOf(0, impl.Acct{Name: "a", Stake: 5, Leaves: leavesAt(n, 1)}), ledgerOf(0, impl.Acct{Name: "a", Stake: 5, Leaves: leavesAt(1, n)}),
			ledgerOf(0, impl.Acct{Name: "a", Free: 5, Stake: 5}),
		} {
			for _, x := range append(eachKind("a", n, 0), append(eachKind("a", 1, n), append(eachKind("a", 1, 0), stakes(n, "a", 1, 0))...)...) {
				checkApply(t, l, x)
			}
			checkNext(t, l)
			if impl.StateRoot(l) != rootWanted(l) {
				t.Errorf("root of %v", l)
			}
		}
	}
}

// A ledgerCall is a ledger and orders that are done one behind the other, or refused.
type ledgerCall struct {
	l  impl.Ledger
	ts []impl.Tx
}

func ledgerCalls() []ledgerCall {
	wrong := append(mixedAccts(), impl.Acct{Name: "g", Leaves: leavesAt(1, 3, 2, 1, 1, 1)})
	return []ledgerCall{
		{ledgerOf(5, threeAccts()...), []impl.Tx{pay("b", "d", 2, 3), pay("b", "a", 2, 4), stakes(2, "b", 1, 5), stakes(3, "b", 5, 6), stakes(3, "b", 5, 7)}},
		{ledgerOf(5, threeAccts()...), []impl.Tx{stakes(3, "b", 1, 3), pay("b", "c", 1, 9), pay("z", "b", 1, 0), pay("d", "e", 8, 0), {}}},
		{ledgerOf(0, mixedAccts()...), []impl.Tx{stakes(3, "g", 1, 10000), stakes(3, "b", 10, 2), pay("d", "d", 7, 0)}},
		{ledgerOf(6, mixedAccts()...), nil},
		{ledgerOf(900, mixedAccts()...), []impl.Tx{stakes(3, "b", 10, 2)}},
		{ledgerOf(901, mixedAccts()...), []impl.Tx{stakes(3, "b", 10, 2)}},
		{ledgerOf(3, wrong...), []impl.Tx{pay("b", "d", 2, 2)}},
		{ledgerOf(3, letteredAccts(12, 3)...), []impl.Tx{pay("aa", "zz", 1, 0), pay("aa", "ab", 3, 0)}},
		{ledgerOf(1, impl.Acct{Name: "a", Stake: 9, Leaves: leavesAt(1, 1, 2, 4, 5)}), []impl.Tx{stakes(3, "a", 9, 0)}},
		{ledgerOf(1, impl.Acct{Name: "a", Stake: 9, Leaves: leavesAt(1, 1, 2, 3, 5)}), []impl.Tx{stakes(3, "a", 9, 0)}},
		{ledgerOf(0), []impl.Tx{pay("a", "b", 1, 0)}}, {ledgerOf(0), nil}, {ledgerOf(-7), nil},
	}
}

// answers: every ledger that comes of a call.
func (x ledgerCall) answers() []impl.Ledger {
	all, _ := impl.ApplyAll(x.l, x.ts)
	out := []impl.Ledger{all, impl.NextEpoch(x.l)}
	for _, y := range x.ts {
		after, _ := impl.Apply(x.l, y)
		out = append(out, after)
	}
	return out
}

func (x ledgerCall) wanted() []impl.Ledger {
	all, _ := applyAllWanted(x.l, x.ts)
	out := []impl.Ledger{all, nextWanted(x.l)}
	for _, y := range x.ts {
		after, _ := applyWanted(x.l, y)
		out = append(out, after)
	}
	for i := range out {
		out[i] = cloneLedger(out[i])
	}
	return out
}

func TestLedgersLeaveTheirArguments(t *testing.T) {
	for i, x := range ledgerCalls() {
		want, wantRoot := x.wanted(), rootWanted(x.l)
		room, leaves := roomyAccts(x.l.Accts)
		kept, keptLeaves := cloneAccts(room), [][]impl.Leave{}
		for _, l := range leaves {
			keptLeaves = append(keptLeaves, slices.Clone(l))
		}
		orders := append(slices.Clone(x.ts), stakes(2, "b", 1, 2), pay("d", "b", 1, 0))
		keptOrders := slices.Clone(orders)
		call := ledgerCall{ledgerOf(x.l.Epoch, room[:len(x.l.Accts)]...), orders[:len(x.ts)]}
		got, root := call.answers(), impl.StateRoot(call.l)
		impl.LedgerOk(call.l)
		if !slices.EqualFunc(got, want, sameLedger) || root != wantRoot {
			t.Errorf("%d: what lies behind the lists was read: %v, not %v", i, got, want)
		}
		if !sameAccts(room, kept) || !slices.EqualFunc(leaves, keptLeaves, slices.Equal) || !slices.Equal(orders, keptOrders) {
			t.Errorf("%d: wrote into an argument or behind it", i)
		}
		for k := range room {
			room[k] = impl.Acct{}
			clear(leaves[k])
		}
		if !slices.EqualFunc(got, want, sameLedger) {
			t.Errorf("%d: an answer shares memory with an argument", i)
		}
	}
}

// No two lists of one answer share memory, nor two answers: what is written to the end of the room of each changes no other one.
func TestLedgersAnswerSharesNothing(t *testing.T) {
	for i, x := range ledgerCalls() {
		kept := cloneLedger(x.l)
		got, want := x.answers(), x.wanted()
		for k := range got {
			for n := range got[k].Accts {
				leaves := got[k].Accts[n].Leaves
				for at := range leaves[:cap(leaves)] {
					leaves[:cap(leaves)][at] = impl.Leave{Amount: -9, At: -9}
				}
				want[k].Accts[n].Leaves = slices.Clone(leaves)
				if !slices.EqualFunc(got, want, sameLedger) || !sameLedger(x.l, kept) {
					t.Errorf("%d: answer %d: the Leaves of the account at %d are shared", i, k, n)
				}
			}
			whole := got[k].Accts[:cap(got[k].Accts)]
			for at := range whole {
				whole[at] = impl.Acct{Name: "written"}
			}
			want[k].Accts = slices.Clone(got[k].Accts)
			if !slices.EqualFunc(got, want, sameLedger) || !sameLedger(x.l, kept) {
				t.Errorf("%d: answer %d: the accounts are shared", i, k)
			}
		}
	}
}

// Two accounts of one list of Leaves come back with two, also where the ledger is answered as it is.
func TestLedgersSharedLeavesComeApart(t *testing.T) {
	for _, epoch := range []int{5, 900, 901} {
		same := leavesAt(2, 902, 903)
		l := ledgerOf(epoch, impl.Acct{Name: "a", Free: 5, Stake: 5, Leaves: same}, impl.Acct{Name: "b", Leaves: same}, impl.Acct{Name: "c", Leaves: same[:1]})
		for k, got := range (ledgerCall{l, []impl.Tx{pay("a", "b", 1, 0), stakes(2, "a", 1, 0), stakes(3, "a", 1, 0), stakes(3, "c", 1, 0), {}}}).answers() {
			for n := range got.Accts {
				got.Accts[n].Leaves[0].Amount = 50 + n
			}
			for n := range got.Accts {
				if got.Accts[n].Leaves[0].Amount != 50+n {
					t.Errorf("epoch %d, answer %d: the Leaves are shared", epoch, k)
				}
			}
			if !slices.Equal(same, leavesAt(2, 902, 903)) {
				t.Errorf("epoch %d, answer %d: the Leaves are the argument's", epoch, k)
			}
		}
	}
}

func TestLedgersKeepNothing(t *testing.T) {
	for i, x := range ledgerCalls() {
		first := x.answers()
		for _, y := range ledgerCalls() {
			for _, l := range y.answers() {
				for k := range l.Accts {
					clear(l.Accts[k].Leaves)
				}
				clear(l.Accts)
			}
			impl.StateRoot(y.l)
			impl.LedgerOk(y.l)
		}
		if again := x.answers(); !slices.EqualFunc(first, x.wanted(), sameLedger) || !slices.EqualFunc(again, x.wanted(), sameLedger) {
			t.Errorf("%d: the second time something else comes: %v, %v", i, first, again)
		}
		if impl.StateRoot(x.l) != rootWanted(x.l) {
			t.Errorf("%d: the second time another root comes", i)
		}
	}
}
