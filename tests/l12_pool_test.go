package tests

import (
	"fmt"
	"math"
	"math/rand"
	"slices"
	"testing"

	"loop.example/g00194/impl"
)

func poolWanted(l []impl.Tx) bool {
	for i, x := range l {
		if !txWanted(x) || i > 0 && !lessWanted(l[i-1], x) {
			return false
		}
	}
	return len(l) <= 20
}

// poolOf has these orders as a pool has them: it sorts them, and nothing else.
func poolOf(l ...impl.Tx) []impl.Tx {
	l = slices.Clone(l)
	slices.SortStableFunc(l, func(a, b impl.Tx) int {
		switch {
		case lessWanted(a, b):
			return -1
		case lessWanted(b, a):
			return 1
		}
		return 0
	})
	return l
}

func poolAddWanted(l []impl.Tx, x impl.Tx) ([]impl.Tx, bool) {
	if !poolWanted(l) || !txWanted(x) || slices.Contains(l, x) || len(l) == 20 {
		return l, false
	}
	ahead := 0
	for _, y := range l {
		if lessWanted(y, x) {
			ahead++
		}
	}
	return slices.Insert(slices.Clone(l), ahead, x), true
}

func dropWanted(l []impl.Tx, g impl.Ledger) []impl.Tx {
	return slices.DeleteFunc(slices.Clone(l), func(x impl.Tx) bool {
		i := slices.IndexFunc(g.Accts, func(a impl.Acct) bool { return a.Name == x.From })
		return i < 0 || x.Nonce < g.Accts[i].Nonce
	})
}

func fitWanted(l []impl.Tx, g impl.Ledger) []impl.Tx {
	return slices.DeleteFunc(slices.Clone(l), func(x impl.Tx) bool {
		after, code := applyWanted(g, x)
		g = after
		return code != 0
	})
}

func checkPool(t *testing.T, l []impl.Tx) bool {
	t.Helper()
	got := impl.PoolOk(l)
	if got != poolWanted(l) {
		t.Errorf("PoolOk(%.600v): %v", fmt.Sprint(l), got)
	}
	return got
}

func checkPoolAdd(t *testing.T, l []impl.Tx, x impl.Tx) ([]impl.Tx, bool) {
	t.Helper()
	got, ok := impl.PoolAdd(l, x)
	if want, wantOk := poolAddWanted(l, x); ok != wantOk || !slices.Equal(got, want) {
		t.Errorf("PoolAdd(%.600v, %v): %.600v %v, not %.600v %v", fmt.Sprint(l), x, fmt.Sprint(got), ok, fmt.Sprint(want), wantOk)
	}
	return got, ok
}

func checkDrop(t *testing.T, l []impl.Tx, g impl.Ledger) []impl.Tx {
	t.Helper()
	got := impl.PoolDrop(l, g)
	if want := dropWanted(l, g); !slices.Equal(got, want) {
		t.Errorf("PoolDrop(%.600v, %.300v): %.600v, not %.600v", fmt.Sprint(l), fmt.Sprint(g), fmt.Sprint(got), fmt.Sprint(want))
	}
	if again := impl.PoolDrop(got, g); !slices.Equal(again, got) || impl.PoolOk(l) && !impl.PoolOk(got) {
		t.Errorf("PoolDrop(%.600v, %.300v): %.600v is no pool, or has more to drop", fmt.Sprint(l), fmt.Sprint(g), fmt.Sprint(got))
	}
	return got
}

// checkFit holds what fits against what is wanted, and against the promise: all of it is good one behind the other, and does what the whole pool does.
func checkFit(t *testing.T, l []impl.Tx, g impl.Ledger) []impl.Tx {
	t.Helper()
	got := impl.PoolFit(l, g)
	if want := fitWanted(l, g); !slices.Equal(got, want) {
		t.Errorf("PoolFit(%.600v, %.300v): %.600v, not %.600v", fmt.Sprint(l), fmt.Sprint(g), fmt.Sprint(got), fmt.Sprint(want))
	}
	after, good := impl.ApplyAll(g, got)
	all, goodOfAll := impl.ApplyAll(g, l)
	if good != len(got) || goodOfAll != good || !sameLedger(after, all) {
		t.Errorf("PoolFit(%.600v, %.300v): of %d that fit %d are good, of all %d", fmt.Sprint(l), fmt.Sprint(g), len(got), good, goodOfAll)
	}
	if again := impl.PoolFit(got, g); !slices.Equal(again, got) || impl.PoolOk(l) && !impl.PoolOk(got) {
		t.Errorf("PoolFit(%.600v, %.300v): %.600v is no pool, or does not fit itself", fmt.Sprint(l), fmt.Sprint(g), fmt.Sprint(got))
	}
	return got
}

// refusesPoolAdd: the list comes back as it was, and false.
func refusesPoolAdd(t *testing.T, what string, l []impl.Tx, x impl.Tx) {
	t.Helper()
	kept := slices.Clone(l)
	if got, ok := checkPoolAdd(t, l, x); ok || !slices.Equal(got, kept) {
		t.Errorf("%s: PoolAdd(%.600v, %v): %.600v %v", what, fmt.Sprint(kept), x, fmt.Sprint(got), ok)
	}
}

// manyOrders: n orders (up to 40), ascending, of the accounts a, b, c and so on, of five Nonces each.
func manyOrders(n int) []impl.Tx {
	var l []impl.Tx
	for i := range n {
		l = append(l, stakes(2, string(rune('a'+i/5)), 1+(i*7)%5, i%5))
	}
	return l
}

// oneApart: an order of each kind ahead of and behind one, where one part alone is another one. (Of another Kind the To is another one, too, but for TxBond and TxUnbond.)
func oneApart() []impl.Tx {
	return []impl.Tx{
		pay("b", "f", 10, 20), pay("a", "f", 10, 20), pay("bb", "f", 10, 20), pay("c", "f", 10, 20), pay("b", "f", 10, 19), pay("b", "f", 10, 21), pay("b", "f", 9, 20), pay("b", "f", 11, 20), pay("b", "e", 10, 20), pay("b", "ff", 10, 20), pay("b", "g", 10, 20),
		stakes(2, "b", 10, 20), stakes(3, "b", 10, 20), stakes(2, "b", 9, 20), stakes(3, "b", 9, 20),
	}
}

// rightPools: of none, one, several and as many as there may be.
func rightPools() [][]impl.Tx {
	l := [][]impl.Tx{nil, {}, poolOf(oneApart()...), poolOf(pay("zzzzzzzz", "00000000", 1000000, 10000), pay("0", "z", 1, 0), stakes(3, "0", 1, 0))}
	for _, x := range rightTxs()[:12] {
		l = append(l, []impl.Tx{x})
	}
	for n := 1; n <= 20; n++ {
		l = append(l, manyOrders(n))
	}
	return l
}

// wrongPools: lists of orders with one fault each, by what that is.
func wrongPools() map[string][]impl.Tx {
	out := map[string][]impl.Tx{"21 orders": manyOrders(21), "40 orders": manyOrders(40), "21 times the same": slices.Repeat(manyOrders(1), 21), "the zero one": {{}}, "twice the zero one": {{}, {}}}
	for _, n := range []int{2, 3, 7, 20} {
		for at := range n - 1 {
			swapped := manyOrders(n)
			swapped[at], swapped[at+1] = swapped[at+1], swapped[at]
			out[fmt.Sprintf("%d orders, not ascending at %d", n, at)] = swapped
			twice := manyOrders(n)
			twice[at+1] = twice[at]
			out[fmt.Sprintf("%d orders, twice the same at %d", n, at)] = twice
		}
		around := manyOrders(n)
		around[n-1] = around[0]
		out[fmt.Sprintf("%d orders, the first one once more at the end", n)] = around
	}
	for i, x := range wrongTxs() {
		out[fmt.Sprintf("%d: %v alone", i, x)] = []impl.Tx{x}
		out[fmt.Sprintf("%d: %v among others, in its place", i, x)] = poolOf(append(manyOrders(9), x)...)
	}
	return out
}

// waitLedger: a gave two orders, b none, c 9999, d all it may; e is not there.
func waitLedger() impl.Ledger {
	return ledgerOf(3, impl.Acct{Name: "a", Free: 10, Nonce: 2, Stake: 8}, impl.Acct{Name: "b", Free: 5}, impl.Acct{Name: "c", Free: 4, Nonce: 9999}, impl.Acct{Name: "d", Free: 9, Nonce: 10000, Stake: 9})
}

func TestPoolConstants(t *testing.T) {
	if impl.MaxPool != 20 {
		t.Error("MaxPool", impl.MaxPool)
	}
}

func TestPoolsRight(t *testing.T) {
	for _, l := range rightPools() {
		if !checkPool(t, l) {
			t.Errorf("not right: %v", l)
		}
	}
}

func TestPoolsNotRight(t *testing.T) {
	for what, l := range wrongPools() {
		if checkPool(t, l) {
			t.Errorf("right: %s: %v", what, l)
		}
	}
}

// Which is less is told by From, then Nonce, then Kind, then To, then Amount: any two orders are a pool in one order alone.
func TestPoolsOfTwo(t *testing.T) {
	l := append(oneApart(), rightTxs()[:40]...)
	for _, a := range l {
		for _, b := range l {
			if got := checkPool(t, []impl.Tx{a, b}); got != impl.TxLess(a, b) {
				t.Errorf("%v, %v: %v", a, b, got)
			}
		}
	}
	ascending := []impl.Tx{
		pay("a", "z", 9, 5), pay("aa", "z", 9, 4), pay("b", "z", 9, 3), stakes(3, "b", 9, 4), pay("b", "z", 9, 5), stakes(2, "b", 9, 5), stakes(3, "b", 8, 5),
		stakes(3, "b", 9, 5), pay("b", "d", 9, 10), pay("b", "dd", 1, 10), pay("b", "e", 7, 10), pay("b", "e", 10, 10),
	}
	if !impl.PoolOk(ascending) || !slices.Equal(poolOf(ascending...), ascending) {
		t.Error("not ascending:", ascending)
	}
}

// putAll puts these orders one by one, each of which is new, and there is room for it.
func putAll(t *testing.T, l []impl.Tx) []impl.Tx {
	t.Helper()
	var pool []impl.Tx
	for i, x := range l {
		next, ok := checkPoolAdd(t, pool, x)
		if !ok || len(next) != i+1 || !impl.PoolOk(next) {
			t.Fatalf("%v into %v: %v %v", x, pool, next, ok)
		}
		pool = next
	}
	if !slices.Equal(pool, poolOf(l...)) {
		t.Errorf("%v: %v", l, pool)
	}
	return pool
}

// Pools hang on what was put alone, not on the sequence.
func TestPoolsPutInAnySequence(t *testing.T) {
	few := []impl.Tx{stakes(2, "a", 1, 0), pay("a", "b", 1, 0), stakes(2, "a", 1, 1), stakes(3, "b", 4, 0), stakes(2, "ab", 1, 0)}
	for n := range len(few) + 1 {
		eachOrder(n, func(order []int) {
			var l []impl.Tx
			for _, i := range order {
				l = append(l, few[i])
			}
			if got := putAll(t, l); !slices.Equal(got, poolOf(few[:n]...)) {
				t.Errorf("%v: %v", l, got)
			}
		})
	}
	r := rand.New(rand.NewSource(36))
	for range 60 {
		l := manyOrders(40)
		r.Shuffle(len(l), func(i, j int) { l[i], l[j] = l[j], l[i] })
		putAll(t, l[:20])
	}
}

// What is put comes ahead of all, between two, and behind all.
func TestPoolAddPlaces(t *testing.T) {
	for n := 1; n <= 20; n++ {
		whole := manyOrders(n)
		for at, x := range whole {
			rest := slices.Concat(whole[:at], whole[at+1:])
			if got, ok := checkPoolAdd(t, rest, x); !ok || !slices.Equal(got, whole) || got[at] != x {
				t.Errorf("%d of %d: %v %v", at, n, got, ok)
			}
		}
	}
	known := []impl.Tx{stakes(2, "b", 2, 3), stakes(2, "b", 2, 5), stakes(2, "d", 2, 0)}
	for at, l := range map[int][]impl.Tx{
		0: {stakes(2, "a", 9, 9), stakes(2, "b", 9, 2), pay("b", "z", 9, 3), stakes(2, "b", 1, 3), stakes(3, "0", 1, 10000)},
		1: {stakes(2, "b", 3, 3), stakes(3, "b", 1, 3), stakes(2, "b", 1, 4), pay("b", "z", 9, 5), stakes(2, "b", 1, 5)},
		2: {stakes(2, "b", 3, 5), stakes(2, "b", 1, 6), stakes(2, "bb", 1, 0), stakes(2, "c", 1, 10000), pay("d", "z", 9, 0), stakes(2, "d", 1, 0)},
		3: {stakes(2, "d", 3, 0), stakes(3, "d", 1, 0), pay("d", "a", 1, 1), pay("d0", "a", 1, 0), pay("zzzzzzzz", "a", 1, 0)},
	} {
		for _, x := range l {
			if got, ok := checkPoolAdd(t, known, x); !ok || !slices.Equal(got, slices.Insert(slices.Clone(known), at, x)) {
				t.Errorf("%v: %v %v", x, got, ok)
			}
		}
	}
}

func TestPoolAddThereAlready(t *testing.T) {
	for _, l := range rightPools() {
		for _, x := range l {
			refusesPoolAdd(t, "there already", l, x)
		}
	}
}

// Orders that differ in one part alone are two.
func TestPoolAddOneApart(t *testing.T) {
	for i, x := range oneApart() {
		for k, y := range oneApart() {
			got, ok := checkPoolAdd(t, []impl.Tx{x}, y)
			if ok != (i != k) || ok && !slices.Equal(got, poolOf(x, y)) {
				t.Errorf("%v, %v: %v %v", x, y, got, ok)
			}
		}
	}
	if got := putAll(t, oneApart()); len(got) != 15 {
		t.Error(got)
	}
}

func TestPoolAddRoom(t *testing.T) {
	full := manyOrders(20)
	for _, x := range append(rightTxs(), oneApart()...) {
		refusesPoolAdd(t, "no room", full, x)
	}
	for _, from := range []string{"0", "a0", "aa", "b0", "c5", "e", "zzzzzzzz"} {
		x := pay(from, "a", 3, 7)
		refusesPoolAdd(t, "no room", full, x)
		for at := range full {
			less := slices.Concat(full[:at], full[at+1:])
			got, ok := checkPoolAdd(t, less, x)
			if !ok || len(got) != 20 || !impl.PoolOk(got) {
				t.Errorf("19 and %v: %v %v", x, got, ok)
			}
			refusesPoolAdd(t, "no room behind the twentieth", got, full[at])
		}
	}
}

func TestPoolAddNotRight(t *testing.T) {
	for _, x := range wrongTxs() {
		for _, l := range rightPools() {
			refusesPoolAdd(t, "an order that is not right", l, x)
		}
	}
	for what, l := range wrongPools() {
		for _, x := range append(append(manyOrders(3), manyOrders(40)[39], pay("0", "a", 1, 0), impl.Tx{}), l[0], l[len(l)-1]) {
			refusesPoolAdd(t, what, l, x)
		}
	}
}

// A list that is not ascending stays so, wherever what is put would be: between the two, ahead of both, behind both.
func TestPoolAddMendsNothing(t *testing.T) {
	for _, l := range [][]impl.Tx{{stakes(2, "d", 1, 0), stakes(2, "b", 1, 0)}, {stakes(2, "b", 1, 0), stakes(2, "b", 1, 0)}, {stakes(2, "b", 1, 0), stakes(2, "f", 1, 0), stakes(2, "d", 1, 0)}, {stakes(2, "b", 1, 0), {}, stakes(2, "d", 1, 0)}, {{}, stakes(2, "d", 1, 0)}} {
		for _, from := range []string{"a", "b", "c", "d", "e", "f", "g"} {
			for _, amount := range []int{1, 2} {
				refusesPoolAdd(t, "not ascending", l, stakes(2, from, amount, 0))
			}
		}
	}
}

func TestPoolDropKnown(t *testing.T) {
	a, b, e := stakes(2, "a", 1, 0), stakes(2, "b", 99, 0), stakes(2, "e", 1, 0)
	old, due, early := pay("a", "b", 1, 1), pay("a", "b", 99, 2), pay("a", "b", 1, 3)
	last, past := pay("c", "b", 1, 9999), pay("c", "b", 1, 9998)
	for _, x := range []struct{ l, want []impl.Tx }{
		{nil, nil}, {[]impl.Tx{a}, nil}, {[]impl.Tx{b}, []impl.Tx{b}}, {[]impl.Tx{e}, nil}, {[]impl.Tx{old}, nil}, {[]impl.Tx{due}, []impl.Tx{due}}, {[]impl.Tx{early}, []impl.Tx{early}},
		{[]impl.Tx{a, old, due, early, b, past, last, e}, []impl.Tx{due, early, b, last}}, {[]impl.Tx{a, old, past, e}, nil}, {[]impl.Tx{due, early, b, last}, []impl.Tx{due, early, b, last}},
		{[]impl.Tx{stakes(2, "d", 1, 9999), stakes(2, "d", 1, 10000)}, []impl.Tx{stakes(2, "d", 1, 10000)}},
		{[]impl.Tx{pay("b", "e", 1, 0), pay("e", "b", 1, 0), pay("e", "b", 1, 10000)}, []impl.Tx{pay("b", "e", 1, 0)}},
	} {
		if got := checkDrop(t, x.l, waitLedger()); !slices.Equal(got, x.want) {
			t.Errorf("%v: %v, not %v", x.l, got, x.want)
		}
		if got := checkDrop(t, x.l, ledgerOf(0)); len(got) != 0 {
			t.Errorf("%v: of no account: %v", x.l, got)
		}
	}
}

// What is dropped hangs on Nonces alone: what an account has, and what the order does, is not asked.
func TestPoolDropNonces(t *testing.T) {
	for _, nonce := range []int{0, 1, 2, 63, 64, 9999, 10000} {
		for _, g := range []impl.Ledger{ledgerOf(0, impl.Acct{Name: "a", Nonce: nonce}), ledgerOf(900, impl.Acct{Name: "0", Nonce: 5}, impl.Acct{Name: "a", Free: 100, Nonce: nonce, Stake: 100, Leaves: leavesAt(1, 2, 3)}, impl.Acct{Name: "aa", Nonce: 10000})} {
			for _, given := range []int{0, 1, 2, 5, nonce - 2, nonce - 1, nonce, nonce + 1, nonce + 2, 9999, 10000} {
				for _, x := range append(eachKind("a", 1, given), eachKind("a", 1000000, given)...) {
					if got := checkDrop(t, []impl.Tx{x}, g); (len(got) == 1) != (given >= nonce) {
						t.Errorf("account %d, order %v: %v", nonce, x, got)
					}
				}
				if got := checkDrop(t, []impl.Tx{stakes(2, "b", 1, given), pay("b", "a", 1, given)}, g); len(got) != 0 {
					t.Errorf("order %d of one without account: %v", given, got)
				}
			}
		}
	}
}

func TestPoolFitKnown(t *testing.T) {
	for _, x := range []struct{ l, want []impl.Tx }{
		{nil, nil}, {[]impl.Tx{stakes(2, "b", 5, 0)}, []impl.Tx{stakes(2, "b", 5, 0)}}, {[]impl.Tx{stakes(2, "b", 6, 0)}, nil}, {[]impl.Tx{stakes(2, "b", 1, 1)}, nil}, {[]impl.Tx{stakes(2, "e", 1, 0)}, nil},
		// Old, due, and due behind that one; one comes too early.
		{[]impl.Tx{pay("a", "b", 1, 1), pay("a", "b", 1, 2), pay("a", "b", 1, 3), pay("a", "b", 1, 5)}, []impl.Tx{pay("a", "b", 1, 2), pay("a", "b", 1, 3)}},
		// Of two of one Nonce the first one that is good; the other one is old behind it.
		{[]impl.Tx{pay("a", "b", 4, 2), pay("a", "c", 4, 2), stakes(2, "a", 1, 2)}, []impl.Tx{pay("a", "b", 4, 2)}},
		{[]impl.Tx{pay("a", "b", 11, 2), pay("a", "c", 4, 2), stakes(2, "a", 1, 2), stakes(3, "a", 1, 3)}, []impl.Tx{pay("a", "c", 4, 2), stakes(3, "a", 1, 3)}},
		// What a has is used up by the first ones; what it has at stake is not.
		{[]impl.Tx{pay("a", "b", 6, 2), pay("a", "b", 5, 3), stakes(2, "a", 4, 3), pay("a", "b", 1, 4), stakes(3, "a", 12, 4), pay("a", "b", 1, 5)}, []impl.Tx{pay("a", "b", 6, 2), stakes(2, "a", 4, 3), stakes(3, "a", 12, 4)}},
		// b can do it only with what a gives; a can't with what b gives, for it comes ahead.
		{[]impl.Tx{pay("a", "b", 4, 2), stakes(2, "b", 9, 0)}, []impl.Tx{pay("a", "b", 4, 2), stakes(2, "b", 9, 0)}}, {[]impl.Tx{pay("a", "b", 3, 2), stakes(2, "b", 9, 0)}, []impl.Tx{pay("a", "b", 3, 2)}},
		{[]impl.Tx{stakes(2, "a", 11, 2), pay("b", "a", 5, 0)}, []impl.Tx{pay("b", "a", 5, 0)}},
		// e has an account once a pays to it, and then its orders fit.
		{[]impl.Tx{pay("a", "e", 7, 2), pay("e", "b", 3, 0), pay("e", "f", 4, 1), stakes(2, "f", 4, 0)}, []impl.Tx{pay("a", "e", 7, 2), pay("e", "b", 3, 0), pay("e", "f", 4, 1), stakes(2, "f", 4, 0)}},
		{[]impl.Tx{pay("a", "e", 7, 3), pay("e", "b", 3, 0), pay("e", "f", 4, 1), stakes(2, "f", 4, 0)}, nil},
		// The last Nonce of all.
		{[]impl.Tx{pay("c", "b", 1, 9998), pay("c", "b", 1, 9999), pay("c", "b", 1, 10000), pay("d", "b", 1, 10000)}, []impl.Tx{pay("c", "b", 1, 9999)}},
	} {
		if got := checkFit(t, x.l, waitLedger()); !slices.Equal(got, x.want) || !impl.PoolOk(x.l) {
			t.Errorf("%v: %v, not %v", x.l, got, x.want)
		}
		if got := checkFit(t, x.l, ledgerOf(0)); len(got) != 0 {
			t.Errorf("%v: of no account: %v", x.l, got)
		}
	}
}

// A pool may fit as a whole: no block sets its bound here.
func TestPoolFitOfMany(t *testing.T) {
	g := ledgerOf(0, impl.Acct{Name: "a", Free: 99}, impl.Acct{Name: "b", Free: 99}, impl.Acct{Name: "c", Free: 99}, impl.Acct{Name: "d", Free: 99})
	for n := range 21 {
		if got := checkFit(t, manyOrders(n), g); len(got) != n {
			t.Errorf("%d: %v", n, got)
		}
	}
	for at := range 20 {
		// Without one order of an account its later ones come too early, and those of the others fit on.
		rest := slices.Delete(manyOrders(20), at, at+1)
		if got := checkFit(t, rest, g); len(got) != 15+at%5 {
			t.Errorf("without %d: %v", at, got)
		}
	}
	// An order that opens an account when there are as many as there may be does not fit, and those behind it do.
	full := ledgerOf(0, letteredAccts(12, 7)...)
	l := []impl.Tx{pay("aa", "zz", 1, 0), stakes(2, "aa", 7, 0), pay("ab", "aa", 1, 0), pay("ac", "zz", 1, 0), stakes(2, "ad", 1, 0)}
	if got := checkFit(t, l, full); !slices.Equal(got, []impl.Tx{l[1], l[2], l[4]}) || !impl.PoolOk(l) {
		t.Error("full:", got)
	}
}

// The promise itself, at any ledger and of any pool: what fits is good, one behind the other; each that does not fit is not good where it comes.
func TestWhatFitsIsGood(t *testing.T) {
	ledgers := append(someBases(), waitLedger(), ledgerOf(5, threeAccts()...), ledgerOf(0, letteredAccts(12, 3)...))
	for _, g := range ledgers {
		for _, l := range append(rightPools(), someOrders()...) {
			l = poolOf(l...)
			fit, at, taken := checkFit(t, l, g), g, 0
			for _, x := range l {
				after, code := impl.Apply(at, x)
				if code == impl.LedgerGood {
					if taken == len(fit) || fit[taken] != x {
						t.Fatalf("%v of %v at %v does not fit", x, l, g)
					}
					at, taken = after, taken+1
				}
			}
			if taken != len(fit) {
				t.Errorf("%v at %v: %v fits, not %d", l, g, fit, taken)
			}
			checkDropFits(t, l, g)
		}
	}
}

// checkDropFits: what is dropped is old, or of one without an account; of accounts that are there nothing that fits is dropped.
func checkDropFits(t *testing.T, l []impl.Tx, g impl.Ledger) {
	t.Helper()
	kept, fit := checkDrop(t, l, g), impl.PoolFit(l, g)
	for _, x := range fit {
		if impl.AcctAt(g.Accts, x.From) >= 0 && !slices.Contains(kept, x) {
			t.Errorf("%v fits at %v, and is dropped of %v", x, g, l)
		}
	}
	// Once the pool is done, all that fitted is old.
	after, _ := impl.ApplyAll(g, l)
	for _, x := range checkDrop(t, l, after) {
		if slices.Contains(fit, x) {
			t.Errorf("%v is done, and stays in %v", x, l)
		}
	}
}

// The chapter names no answer of its own for lists that are no pools: they are gone through as they stand.
func TestDropAndFitOfNoPools(t *testing.T) {
	ledgers := []impl.Ledger{waitLedger(), ledgerOf(0, impl.Acct{Name: "a", Free: 50, Nonce: 1}, impl.Acct{Name: "b", Free: 50}, impl.Acct{Name: "c", Free: 50}, impl.Acct{Name: "h", Free: 50, Nonce: 3}), ledgerOf(0)}
	for _, l := range wrongPools() {
		for _, g := range ledgers {
			checkDrop(t, l, g)
			checkFit(t, l, g)
		}
	}
	g := ledgerOf(0, impl.Acct{Name: "a", Free: 9, Nonce: 2}, impl.Acct{Name: "b", Free: 9})
	back := []impl.Tx{stakes(2, "b", 1, 1), stakes(2, "b", 1, 0), stakes(2, "b", 1, 1), stakes(2, "b", 1, 1), pay("b", "a", 7, 2), stakes(2, "a", 16, 2)}
	if got := checkFit(t, back, g); !slices.Equal(got, []impl.Tx{back[1], back[2], back[4], back[5]}) {
		t.Error("not ascending:", got)
	}
	if got := checkDrop(t, append(back, stakes(2, "a", 1, 1)), g); !slices.Equal(got, back) {
		t.Error("not ascending:", got)
	}
	// What is dropped is told by From and Nonce alone, also of what is no order.
	odd := []impl.Tx{{}, {From: "a"}, {From: "a", Nonce: 2}, {Kind: 9, From: "b", To: "?", Amount: -1, Nonce: 10001}, {From: "b", Nonce: -1}, {From: "A", Nonce: 5}}
	if got := checkDrop(t, odd, g); !slices.Equal(got, odd[2:4]) {
		t.Error("no orders:", got)
	}
	if got := checkFit(t, odd, g); len(got) != 0 {
		t.Error("no orders:", got)
	}
	if got := checkFit(t, manyOrders(40)[:15], ledgerOf(0, impl.Acct{Name: "a", Free: 50}, impl.Acct{Name: "b", Free: 50}, impl.Acct{Name: "c", Free: 50})); len(got) != 15 {
		t.Error(got)
	}
	many := ledgerOf(0, impl.Acct{Name: "a", Free: 50}, impl.Acct{Name: "b", Free: 50}, impl.Acct{Name: "c", Free: 50}, impl.Acct{Name: "d", Free: 50}, impl.Acct{Name: "e", Free: 50}, impl.Acct{Name: "f", Free: 50})
	if got := checkFit(t, manyOrders(30), many); len(got) != 30 {
		t.Error("more than MaxPool:", got)
	}
}

// At a ledger that is not right no order is good; what is dropped is told by the first account of that name.
func TestDropAndFitAtNoLedgers(t *testing.T) {
	for _, g := range wrongLedgers() {
		for _, l := range [][]impl.Tx{nil, manyOrders(7), poolOf(oneApart()...), {stakes(2, "a", 1, 0)}, {pay("b", "d", 1, 2), pay("b", "d", 1, 3)}, {pay("A", "a", 1, 0)}, {{}}} {
			checkDrop(t, l, g)
			if got := checkFit(t, l, g); len(got) != 0 {
				t.Errorf("%.300v: %v fits", fmt.Sprint(g), got)
			}
		}
	}
	l := []impl.Tx{stakes(2, "a", 1, 1), stakes(2, "a", 1, 3), stakes(2, "a", 1, 5), stakes(2, "b", 1, 0)}
	for want, accts := range map[int][]impl.Acct{
		2: {{Name: "a", Nonce: 2}, {Name: "a", Nonce: 4}}, 1: {{Name: "a", Nonce: 4}, {Name: "a", Nonce: 2}}, 0: {{Name: "a", Nonce: math.MaxInt}, {Name: "a"}, {Name: ""}}, 3: {{Name: "z"}, {Name: "a", Nonce: math.MinInt, Free: -5}, {Name: "a", Nonce: 9}}, 4: {{Name: "b"}, {Name: "a"}},
	} {
		if got := checkDrop(t, l, ledgerOf(-1, accts...)); len(got) != want {
			t.Errorf("%v: %v", accts, got)
		}
	}
}

func TestPoolsOfGreatNumbers(t *testing.T) {
	for _, n := range append(greatNumbers(), -1, 10001, 1000001) {
		right := []impl.Tx{stakes(2, "a", 1, 0), stakes(3, "a", 1, 1), pay("b", "a", 1, 0)}
		for _, x := range []impl.Tx{stakes(2, "a", n, 0), stakes(2, "a", 1, n), stakes(n, "a", 1, 0), {Kind: n, From: "a", To: "b", Amount: n, Nonce: n}, pay("b", "a", n, n)} {
			checkPool(t, []impl.Tx{x})
			checkPool(t, poolOf(append(right, x)...))
			checkPoolAdd(t, right, x)
			checkPoolAdd(t, []impl.Tx{x}, right[1])
			for _, g := range []impl.Ledger{
				waitLedger(), ledgerOf(n, impl.Acct{Name: "a", Free: 5, Stake: 5}), ledgerOf(0, impl.Acct{Name: "a", Free: n, Stake: 5}), ledgerOf(0, impl.Acct{Name: "a", Free: 5, Nonce: n, Stake: 5}),
				ledgerOf(0, impl.Acct{Name: "a", Free: 5, Stake: n}), ledgerOf(0, impl.Acct{Name: "a", Free: 5, Stake: 5, Leaves: leavesAt(n, n)}), ledgerOf(0, impl.Acct{Name: "a", Free: 5, Stake: 5}),
			} {
				for _, l := range [][]impl.Tx{{x}, right, poolOf(append(right, x)...), append(right, x)} {
					checkDrop(t, l, g)
					checkFit(t, l, g)
				}
			}
		}
	}
}

// anyPool has orders of which many fit at g, some behind one another; now and then it is no pool.
func anyPool(r *rand.Rand, g impl.Ledger) []impl.Tx {
	var l []impl.Tx
	for range r.Intn(22) {
		x := anyOrder(r, g)
		if !txWanted(x) && r.Intn(20) > 0 {
			continue
		}
		l = append(l, x)
		if r.Intn(3) > 0 {
			g, _ = applyWanted(g, x)
		}
	}
	l = poolOf(l...)
	if r.Intn(12) > 0 {
		l = slices.Compact(l)
	}
	if r.Intn(12) == 0 {
		r.Shuffle(len(l), func(i, j int) { l[i], l[j] = l[j], l[i] })
	}
	return l
}

func TestPoolsOfAnything(t *testing.T) {
	r := rand.New(rand.NewSource(12))
	right, wrong, put, refused, dropped, kept, fits, left := 0, 0, 0, 0, 0, 0, 0, 0
	for range 2000 {
		g := ledgerOf(r.Intn(3), impl.Acct{Name: "a", Free: r.Intn(60), Nonce: r.Intn(3), Stake: r.Intn(20)}, impl.Acct{Name: "b", Free: r.Intn(60)}, impl.Acct{Name: "c", Free: r.Intn(9), Nonce: pick(r, 2, 1, 5, 9999, 10000), Stake: r.Intn(60)})
		if r.Intn(12) == 0 {
			g.Accts = anyAccts(r)
		}
		l := anyPool(r, g)
		if checkPool(t, l) {
			right++
		} else {
			wrong++
		}
		for _, x := range []impl.Tx{anyOrder(r, g), anyTx(r), pay("b", "a", 1+r.Intn(3), r.Intn(3))} {
			if _, ok := checkPoolAdd(t, l, x); ok {
				put++
			} else {
				refused++
			}
		}
		some, fit := len(checkDrop(t, l, g)), len(checkFit(t, l, g))
		kept, dropped, fits, left = kept+some, dropped+len(l)-some, fits+fit, left+len(l)-fit
	}
	for i, n := range []int{right, wrong, put, refused, dropped, kept, fits, left} {
		if n < 150 {
			t.Errorf("too few at %d: %d", i, n)
		}
	}
}

// A pool over many ledgers: orders come, those that fit are done, and what is old is dropped.
func TestPoolsFromLedgerToLedger(t *testing.T) {
	r := rand.New(rand.NewSource(13))
	for range 60 {
		g := ledgerOf(0, impl.Acct{Name: "a", Free: 100, Stake: 50}, impl.Acct{Name: "b", Free: 80}, impl.Acct{Name: "c", Free: 60, Stake: 9})
		var pool []impl.Tx
		all := impl.Wealth(g.Accts)
		for range 12 {
			for range r.Intn(9) {
				pool, _ = checkPoolAdd(t, pool, anyOrder(r, g))
			}
			fit := checkFit(t, pool, g)
			done := fit[:min(len(fit), 4)]
			after, good := impl.ApplyAll(g, done)
			if good != len(done) || impl.Wealth(after.Accts) != all {
				t.Fatalf("%v at %v: %d are good", done, g, good)
			}
			pool = checkDrop(t, pool, after)
			if !impl.PoolOk(pool) || slices.ContainsFunc(done, func(x impl.Tx) bool { return slices.Contains(pool, x) }) {
				t.Fatalf("behind %v: %v", done, pool)
			}
			if g = after; r.Intn(3) == 0 {
				g = impl.NextEpoch(g)
			}
		}
	}
}

// A poolCall is all that chapter 12 can be asked of a list, an order and a ledger.
type poolCall struct {
	l []impl.Tx
	x impl.Tx
	g impl.Ledger
}

func poolCalls() []poolCall {
	g := waitLedger()
	g.Accts[0].Leaves = leavesAt(2, 4, 902)
	wide := ledgerOf(0, impl.Acct{Name: "a", Free: 50}, impl.Acct{Name: "b", Free: 50}, impl.Acct{Name: "c", Free: 50}, impl.Acct{Name: "d", Free: 50})
	swapped := manyOrders(6)
	slices.Reverse(swapped)
	return []poolCall{
		{nil, pay("a", "b", 1, 2), g}, {[]impl.Tx{}, impl.Tx{}, g}, {manyOrders(7), manyOrders(8)[7], g}, {manyOrders(7), manyOrders(7)[3], g}, {manyOrders(7), pay("0", "a", 1, 0), wide}, {manyOrders(7)[2:], manyOrders(1)[0], wide},
		{manyOrders(19), pay("b", "a", 1, 9), wide}, {manyOrders(20), pay("b", "a", 1, 9), wide}, {manyOrders(21), pay("b", "a", 1, 9), wide}, {swapped, pay("b", "a", 1, 9), wide}, {[]impl.Tx{{}, stakes(2, "a", 1, 2)}, stakes(2, "a", 1, 3), g},
		{[]impl.Tx{pay("a", "b", 1, 1), pay("a", "e", 4, 2), stakes(3, "a", 2, 3), pay("e", "b", 4, 0)}, pay("a", "b", 1, 0), g}, {manyOrders(12), pay("b", "a", 1, 9), ledgerOf(901, wide.Accts...)}, {manyOrders(12), pay("b", "a", 1, 9), ledgerOf(0)},
		{manyOrders(4), pay("b", "a", 1, 9), ledgerOf(0, impl.Acct{Name: "b", Nonce: 3}, impl.Acct{Name: "a", Nonce: 2, Leaves: leavesAt(1, 9, 8)}, impl.Acct{Name: "a"})},
	}
}

// ask asks everything, and tells it by one text.
func (c poolCall) ask() string {
	put, ok := impl.PoolAdd(c.l, c.x)
	return fmt.Sprint(impl.PoolOk(c.l), put, ok, impl.PoolDrop(c.l, c.g), impl.PoolFit(c.l, c.g))
}

func (c poolCall) wanted() string {
	put, ok := poolAddWanted(c.l, c.x)
	return fmt.Sprint(poolWanted(c.l), put, ok, dropWanted(c.l, c.g), fitWanted(c.l, c.g))
}

// roomy lays what would change an answer into the spare room behind each list.
func (c poolCall) roomy() poolCall {
	c.l = append(slices.Clone(c.l), stakes(2, "d", 1, 10000), stakes(2, "d", 1, 0), c.x, impl.Tx{})[:len(c.l)]
	room, _ := roomyAccts(append(slices.Clone(c.g.Accts), impl.Acct{Name: "e", Free: 9}))
	c.g.Accts = room[:len(c.g.Accts)]
	return c
}

// whole tells all memory of a call, to the end of each list's room.
func (c poolCall) whole() string { return bodyCall{base: c.g, txs: c.l}.whole() }

func TestPoolsLeaveTheirArguments(t *testing.T) {
	for i, c := range poolCalls() {
		leavesArgs(t, i, c, c.roomy())
	}
}

// What is answered shares no memory with an argument, nor with another answer; no call keeps anything for another.
func TestPoolsKeepNothing(t *testing.T) {
	for i, c := range poolCalls() {
		room, want := c.roomy(), c.wanted()
		kept := room.whole()
		put, ok := impl.PoolAdd(room.l, room.x)
		dropped, fit := impl.PoolDrop(room.l, room.g), impl.PoolFit(room.l, room.g)
		first := fmt.Sprint(put, ok, dropped, fit)
		for _, other := range append(poolCalls(), room) {
			again, _ := impl.PoolAdd(other.l, other.x)
			for _, l := range [][]impl.Tx{again, impl.PoolDrop(other.l, other.g), impl.PoolFit(other.l, other.g)} {
				fill(l, impl.Tx{Kind: -99})
			}
			other.ask()
		}
		if got := fmt.Sprint(put, ok, dropped, fit); got != first {
			t.Errorf("%d: two answers share memory: %s, not %s", i, got, first)
		}
		if room.whole() != kept || c.ask() != want || room.ask() != want {
			t.Errorf("%d: what is written into an answer is seen elsewhere: %s, not %s", i, room.whole(), kept)
		}
		fill(room.l, impl.Tx{Kind: -99})
		scribbleLedger(room.g)
		if got := fmt.Sprint(put, ok, dropped, fit); got != first {
			t.Errorf("%d: an answer shares memory with an argument: %s, not %s", i, got, first)
		}
	}
}

// What was refused leaves nothing behind: what comes next is answered as if it came first.
func TestPoolsBehindOneAnother(t *testing.T) {
	for i, c := range poolCalls() {
		want := c.wanted()
		for _, other := range poolCalls() {
			for _, d := range []poolCall{other, {other.l, c.x, c.g}, {c.l, other.x, c.g}, {c.l, c.x, other.g}} {
				if got := d.ask(); got != d.wanted() {
					t.Errorf("%d: %s, not %s", i, got, d.wanted())
				}
			}
			if got := c.ask(); got != want {
				t.Errorf("%d: behind another %s, not %s", i, got, want)
			}
		}
	}
}

func TestPoolsOfVeryMany(t *testing.T) {
	long := append(slices.Repeat([]impl.Tx{stakes(2, "a", 99, 2), {}}, 1<<14), pay("a", "b", 1, 2), stakes(2, "a", 99, 3), pay("a", "b", 1, 3))
	if got, ok := impl.PoolAdd(long, pay("a", "b", 1, 9)); ok || !slices.Equal(got, long) || impl.PoolOk(long) {
		t.Error("put into very many:", len(got), ok)
	}
	if got := impl.PoolFit(long, waitLedger()); !slices.Equal(got, []impl.Tx{pay("a", "b", 1, 2), pay("a", "b", 1, 3)}) {
		t.Error("of very many fit:", got)
	}
	if got := impl.PoolDrop(long, waitLedger()); !slices.Equal(got, dropWanted(long, waitLedger())) || len(got) != 1<<14+3 {
		t.Error("of very many stay:", len(got))
	}
	wide := ledgerOf(0, append(slices.Repeat([]impl.Acct{{Name: "b", Nonce: 4}}, 1<<16), impl.Acct{Name: "a", Nonce: 2})...)
	if got := impl.PoolDrop(manyOrders(10), wide); !slices.Equal(got, []impl.Tx{manyOrders(5)[2], manyOrders(5)[3], manyOrders(5)[4], manyOrders(10)[9]}) {
		t.Error("at very many accounts stay:", got)
	}
	if got := impl.PoolFit(manyOrders(10), wide); len(got) != 0 {
		t.Error("at very many accounts fit:", got)
	}
}
