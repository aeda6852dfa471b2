package tests

import (
	"fmt"
	"maps"
	"math"
	"math/big"
	"math/rand"
	"slices"
	"strings"
	"testing"

	"loop.example/g00194/impl"
)

// valsTold: "a:5 b:7" are two who vote, a with 5 and b with 7.
func valsTold(s string) []impl.Val {
	var l []impl.Val
	for _, word := range strings.Fields(s) {
		var v impl.Val
		name, weight, _ := strings.Cut(word, ":")
		if _, err := fmt.Sscan(weight, &v.Weight); err != nil {
			panic(err)
		}
		v.Name = name
		l = append(l, v)
	}
	return l
}

// letteredVals have the names a, b .. and these weights.
func letteredVals(weights ...int) []impl.Val {
	var l []impl.Val
	for i, w := range weights {
		l = append(l, impl.Val{Name: string(rune('a' + i)), Weight: w})
	}
	return l
}

// alikeVals are n of the names n1000, n1001 .. with one weight.
func alikeVals(n, weight int) []impl.Val {
	var l []impl.Val
	for _, name := range manyNames(n) {
		l = append(l, impl.Val{Name: name, Weight: weight})
	}
	return l
}

func namesOf(l []impl.Val) []string {
	var names []string
	for _, v := range l {
		names = append(names, v.Name)
	}
	return names
}

// namesOfMask: the names at the places whose bits are set.
func namesOfMask(l []impl.Val, mask int) []string {
	var names []string
	for i, v := range l {
		if mask>>i&1 == 1 {
			names = append(names, v.Name)
		}
	}
	return names
}

func setWanted(l []impl.Val) bool {
	for _, v := range l {
		if !nameWanted(v.Name) || outside(v.Weight, 1, 1000000) {
			return false
		}
	}
	sorted := namesOf(l)
	slices.Sort(sorted)
	return !outside(len(l), 1, 12) && slices.Equal(namesOf(l), slices.Compact(sorted))
}

// setOfWanted strikes out of all accounts those that have too little at stake.
func setOfWanted(l impl.Ledger) []impl.Val {
	var set []impl.Val
	if !ledgerWanted(l) {
		return set
	}
	for _, a := range l.Accts {
		set = append(set, impl.Val{Name: a.Name, Weight: a.Stake})
	}
	return slices.DeleteFunc(set, func(v impl.Val) bool { return v.Weight < 5 })
}

// weightWanted tells each name, once, what stands under it in the list; an int's sum wraps round.
func weightWanted(l []impl.Val, names []string) int {
	under := map[string]int{}
	for _, v := range l {
		under[v.Name] += v.Weight
	}
	sum := 0
	for name := range maps.Keys(under) {
		if slices.Index(names, name) >= 0 {
			sum += under[name]
		}
	}
	return sum
}

func totalWanted(l []impl.Val) int { return weightWanted(l, namesOf(l)) }

// quorumWanted holds what they weigh against what all weigh in numbers without a limit.
func quorumWanted(l []impl.Val, names []string) bool {
	times := func(k, n int) *big.Int { return new(big.Int).Mul(big.NewInt(int64(k)), big.NewInt(int64(n))) }
	return times(3, weightWanted(l, names)).Cmp(times(2, totalWanted(l))) > 0
}

func leaderWanted(l []impl.Val, round int) string {
	if len(l) == 0 || round < 0 {
		return ""
	}
	at := new(big.Int).Mod(big.NewInt(int64(round)), big.NewInt(int64(len(l))))
	return l[at.Int64()].Name
}

// checkSet holds all that is asked of a list against the model.
func checkSet(t *testing.T, l []impl.Val, names []string, rounds ...int) {
	t.Helper()
	if got := impl.SetOk(l); got != setWanted(l) {
		t.Errorf("SetOk(%.300v): %v", fmt.Sprint(l), got)
	}
	if got := impl.TotalOf(l); got != totalWanted(l) {
		t.Errorf("TotalOf(%.300v): %d, not %d", fmt.Sprint(l), got, totalWanted(l))
	}
	if got := impl.WeightOf(l, names); got != weightWanted(l, names) {
		t.Errorf("WeightOf(%.300v, %.300q): %d, not %d", fmt.Sprint(l), names, got, weightWanted(l, names))
	}
	if got := impl.IsQuorum(l, names); got != quorumWanted(l, names) {
		t.Errorf("IsQuorum(%.300v, %.300q): %v", fmt.Sprint(l), names, got)
	}
	for _, round := range rounds {
		if got := impl.LeaderOf(l, round); got != leaderWanted(l, round) {
			t.Errorf("LeaderOf(%.300v, %d): %q, not %q", fmt.Sprint(l), round, got, leaderWanted(l, round))
		}
	}
}

func checkSetOf(t *testing.T, l impl.Ledger) []impl.Val {
	t.Helper()
	got := impl.SetOf(l)
	if want := setOfWanted(l); !slices.Equal(got, want) {
		t.Errorf("SetOf(%.300v): %v, not %v", fmt.Sprint(l), got, want)
	}
	if impl.SetOk(got) != (len(got) > 0) {
		t.Errorf("SetOf(%.300v): %v: right %v", fmt.Sprint(l), got, impl.SetOk(got))
	}
	return got
}

func TestSetRight(t *testing.T) {
	for _, s := range []string{
		"a:1", "a:5", "0:1", "z:1000000", "abcdefgh:1", "00000000:999999", "a:1 b:1", "a:1000000 b:1000000", "a:5 aa:4 ab:3 b:2", "0:9 9:9 a:9 z:9", "9:1 a:1", "az:1 b:1", "abcdefg:1 abcdefgh:1",
	} {
		if !impl.SetOk(valsTold(s)) {
			t.Errorf("not right: %s", s)
		}
	}
	// What all weigh together has no limit of its own.
	if l := alikeVals(12, 1000000); !impl.SetOk(l) || impl.TotalOf(l) != 12000000 {
		t.Error("twelve with the greatest weight:", impl.TotalOf(l))
	}
}

func TestSetHowMany(t *testing.T) {
	if impl.SetOk(nil) || impl.SetOk([]impl.Val{}) || impl.SetOk(alikeVals(3, 3)[:0]) {
		t.Error("no one is right")
	}
	for n := range 200 {
		if impl.SetOk(alikeVals(n, 7)) != (n >= 1 && n <= 12) {
			t.Errorf("%d who vote", n)
		}
	}
}

func TestSetWeights(t *testing.T) {
	for w, want := range map[int]bool{
		1: true, 2: true, 4: true, 5: true, 999999: true, 1000000: true, 0: false, -1: false, -5: false, 1000001: false, 1000002: false, 2000000: false, -1000000: false,
		math.MaxInt: false, math.MaxInt - 1: false, math.MinInt: false, math.MinInt + 1: false, 1 << 32: false, 1<<32 + 1: false, -1 << 32: false,
	} {
		if impl.SetOk([]impl.Val{{Name: "a", Weight: w}}) != want {
			t.Errorf("a weight of %d", w)
		}
		for at := range 12 {
			l := alikeVals(12, 3)
			l[at].Weight = w
			if impl.SetOk(l) != want {
				t.Errorf("a weight of %d at %d", w, at)
			}
		}
	}
}

func TestSetNames(t *testing.T) {
	for _, name := range noNames() {
		for _, l := range [][]impl.Val{{{Name: name, Weight: 1}}, {{Name: name, Weight: 1}, {Name: "zz", Weight: 1}}, {{Name: "0", Weight: 1}, {Name: name, Weight: 1}}} {
			if impl.SetOk(l) {
				t.Errorf("right: %.100q", fmt.Sprint(l))
			}
		}
	}
	for _, s := range []string{"a:1 a:1", "a:1 a:2", "b:1 a:1", "aa:1 a:1", "a:1 9:1", "b:1 az:1", "a:1 b:1 b:1", "a:1 a:1 b:1", "a:1 c:1 b:1", "a:1 b:1 a:1", "b:1 c:1 a:1"} {
		if impl.SetOk(valsTold(s)) {
			t.Errorf("right: %s", s)
		}
	}
	for at := 1; at < 12; at++ {
		l := alikeVals(12, 3)
		l[at].Name = l[at-1].Name
		alike := impl.SetOk(l)
		l = alikeVals(12, 3)
		l[at-1], l[at] = l[at], l[at-1]
		if alike || impl.SetOk(l) {
			t.Errorf("alike, or in the wrong order, at %d", at)
		}
	}
}

func TestSetOfSeveral(t *testing.T) {
	l := ledgerOf(7,
		impl.Acct{Name: "a", Free: 9, Stake: 30, Nonce: 4}, impl.Acct{Name: "b", Free: 100, Stake: 4}, impl.Acct{Name: "c", Stake: 5}, impl.Acct{Name: "d", Free: 50},
		impl.Acct{Name: "e", Stake: 12, Leaves: leavesAt(3, 8)}, impl.Acct{Name: "f", Stake: 2, Leaves: leavesAt(30, 8, 9)}, impl.Acct{Name: "g", Stake: 6})
	if got := checkSetOf(t, l); !slices.Equal(got, valsTold("a:30 c:5 e:12 g:6")) || impl.TotalOf(got) != 53 {
		t.Error("of seven accounts:", got)
	}
	for _, epoch := range []int{0, 1, 899, 900} {
		l.Epoch = epoch
		if got := impl.SetOf(l); !slices.Equal(got, valsTold("a:30 c:5 e:12 g:6")) {
			t.Errorf("epoch %d: %v", epoch, got)
		}
	}
}

func TestSetOfMinStake(t *testing.T) {
	for stake, want := range map[int]string{0: "", 1: "", 4: "", 5: "m:5", 6: "m:6", 7: "m:7", 999000: "m:999000"} {
		one := impl.Acct{Name: "m", Stake: stake}
		if got := checkSetOf(t, ledgerOf(0, one)); !slices.Equal(got, valsTold(want)) {
			t.Errorf("a stake of %d: %v", stake, got)
		}
		// Neither what is free nor what leaves counts.
		one.Free, one.Leaves = 20, leavesAt(30, 1, 2)
		if got := checkSetOf(t, ledgerOf(0, one)); !slices.Equal(got, valsTold(want)) {
			t.Errorf("a stake of %d, and more that is none: %v", stake, got)
		}
		got := checkSetOf(t, ledgerOf(0, impl.Acct{Name: "a", Stake: 9}, impl.Acct{Name: "m", Stake: stake}, impl.Acct{Name: "z", Stake: 8}))
		if !slices.Equal(got, valsTold("a:9 "+want+" z:8")) {
			t.Errorf("a stake of %d between two: %v", stake, got)
		}
	}
	if got := checkSetOf(t, ledgerOf(900, impl.Acct{Name: "a", Stake: 1000000})); !slices.Equal(got, valsTold("a:1000000")) {
		t.Error("all there is at stake:", got)
	}
}

func TestSetOfNobody(t *testing.T) {
	for i, l := range []impl.Ledger{
		{}, ledgerOf(0), ledgerOf(900), ledgerOf(3, letteredAccts(12, 5000)...), ledgerOf(3, impl.Acct{Name: "a", Stake: 4}, impl.Acct{Name: "b", Stake: 4}, impl.Acct{Name: "c", Stake: 1}),
		ledgerOf(3, impl.Acct{Name: "a", Free: 1000000}), ledgerOf(3, impl.Acct{Name: "a", Leaves: leavesAt(9, 4, 5)}),
	} {
		got := checkSetOf(t, l)
		if len(got) != 0 || impl.TotalOf(got) != 0 || impl.LeaderOf(got, 0) != "" || impl.IsQuorum(got, []string{"a", "b", "c"}) {
			t.Errorf("%d: %v", i, got)
		}
	}
}

func TestSetOfHowMany(t *testing.T) {
	for n := range 13 {
		accts := letteredAccts(n, 3)
		for i := range accts {
			accts[i].Stake = 5 + i
		}
		got := checkSetOf(t, ledgerOf(1, accts...))
		if len(got) != n || impl.TotalOf(got) != 5*n+n*(n-1)/2 {
			t.Errorf("of %d: %v", n, got)
		}
		for i := range accts {
			accts[i].Stake = 4 + i%2
		}
		if got := checkSetOf(t, ledgerOf(1, accts...)); len(got) != n/2 || impl.TotalOf(got) != 5*(n/2) {
			t.Errorf("of every second of %d: %v", n, got)
		}
	}
}

func TestSetOfNotRight(t *testing.T) {
	for _, l := range wrongLedgers() {
		for i := range l.Accts {
			if !outside(l.Accts[i].Stake, 0, 900) {
				l.Accts[i].Stake += 20
			}
		}
		if got := checkSetOf(t, l); len(got) != 0 {
			t.Errorf("%.200v: %v", fmt.Sprint(l), got)
		}
	}
	good := []impl.Acct{{Name: "a", Stake: 10}, {Name: "b", Stake: 20}}
	for epoch, want := range map[int]int{-1: 0, 0: 2, 900: 2, 901: 0, math.MaxInt: 0, math.MinInt: 0} {
		if got := impl.SetOf(ledgerOf(epoch, good...)); len(got) != want {
			t.Errorf("epoch %d: %v", epoch, got)
		}
	}
	if got := impl.SetOf(ledgerOf(3, good[1], good[0])); len(got) != 0 {
		t.Error("accounts that are not ascending:", got)
	}
}

// Who votes changes by what orders do.
func TestSetOfChangesByOrders(t *testing.T) {
	l := ledgerOf(2, impl.Acct{Name: "a", Free: 10, Stake: 6}, impl.Acct{Name: "b", Free: 10, Stake: 4}, impl.Acct{Name: "c", Stake: 9})
	for i, x := range []struct {
		order impl.Tx
		want  string
	}{
		{stakes(3, "a", 1, 0), "a:5 c:9"}, {stakes(3, "a", 1, 1), "c:9"}, {stakes(2, "b", 1, 0), "b:5 c:9"}, {stakes(2, "a", 1, 2), "a:5 b:5 c:9"},
		{pay("a", "d", 9, 3), "a:5 b:5 c:9"}, {stakes(2, "d", 8, 0), "a:5 b:5 c:9 d:8"}, {stakes(3, "c", 9, 0), "a:5 b:5 d:8"}, {stakes(3, "c", 1, 1), "a:5 b:5 d:8"},
	} {
		l, _ = impl.Apply(l, x.order)
		if got := checkSetOf(t, l); !slices.Equal(got, valsTold(x.want)) {
			t.Errorf("behind the order %d: %v, not %s", i, got, x.want)
		}
	}
	if got := checkSetOf(t, impl.NextEpoch(impl.NextEpoch(l))); !slices.Equal(got, valsTold("a:5 b:5 d:8")) {
		t.Error("what is free again votes:", got)
	}
}

func TestWeights(t *testing.T) {
	l := valsTold("a:1 b:20 c:300 d:4000")
	for names, want := range map[string]int{
		"": 0, "a": 1, "d": 4000, "a b": 21, "b a": 21, "a b c d": 4321, "d c b a": 4321, "a d": 4001, "a a": 1, "a b a b a": 21, "d d d d": 4000, "a b c d a b c d": 4321,
		"z": 0, "a z": 1, "z z a z": 1, "aa": 0, "A": 0, "A a": 1, "0": 0, "ab c": 300, "a,b": 0, "abcdefghi d": 4000,
	} {
		if got := impl.WeightOf(l, strings.Fields(names)); got != want {
			t.Errorf("%q: %d, not %d", names, got, want)
		}
	}
	if impl.WeightOf(l, nil) != 0 || impl.WeightOf(l, []string{}) != 0 || impl.WeightOf(l, []string{"", " a", "a ", "a\x00", "\xff"}) != 0 {
		t.Error("no names, and none that is there")
	}
	if impl.WeightOf(l, slices.Repeat([]string{"a", "no", "c"}, 5000)) != 301 {
		t.Error("each of them very often")
	}
	for _, none := range [][]impl.Val{nil, {}, l[:0]} {
		if impl.WeightOf(none, []string{"a", "b", ""}) != 0 || impl.WeightOf(none, nil) != 0 {
			t.Error("what they weigh in no list")
		}
	}
}

func TestTotals(t *testing.T) {
	for s, want := range map[string]int{"": 0, "a:1": 1, "a:1 b:20 c:300 d:4000": 4321, "a:1000000": 1000000, "a:1000000 b:1": 1000001} {
		if got := impl.TotalOf(valsTold(s)); got != want {
			t.Errorf("%q: %d, not %d", s, got, want)
		}
	}
	for n := range 30 {
		l := alikeVals(n, 1000000)
		if impl.TotalOf(l) != 1000000*n || impl.WeightOf(l, namesOf(l)) != 1000000*n {
			t.Errorf("%d of the greatest weight: %d", n, impl.TotalOf(l))
		}
	}
}

// Just two thirds are no quorum; what is the least bit more is one.
func TestJustTwoThirds(t *testing.T) {
	for _, total := range []int{2, 3, 4, 5, 6, 7, 8, 9, 10, 29, 30, 31, 99, 100, 101, 299999, 300000, 300001, 999999, 1000000, 1000001, 1199998, 1199999, 1200000, 1499999, 1500000} {
		most := 2 * total / 3
		for w := max(most-2, 1); w <= min(most+2, total-1, 1000000); w++ {
			l := letteredVals(w, total-w)
			if got := impl.IsQuorum(l, []string{"a"}); got != (w > most) || !impl.SetOk(l) {
				t.Errorf("%d of %d: %v", w, total, got)
			}
			// The rest is named beside it; both together are always one.
			if !impl.IsQuorum(l, []string{"a", "b"}) || impl.IsQuorum(l, nil) || impl.IsQuorum(l, []string{"c"}) {
				t.Errorf("%d of %d: all, and none", w, total)
			}
		}
	}
	for _, x := range []struct {
		vals, names string
		want        bool
	}{
		{"a:2 b:1", "a", false}, {"a:3 b:1", "a", true}, {"a:200 b:100", "a", false}, {"a:201 b:100", "a", true}, {"a:200 b:101", "a", false}, {"a:199 b:101", "a", false}, {"a:201 b:99", "a", true},
		{"a:1 b:1 c:1", "a b", false}, {"a:1 b:1 c:1", "a b c", true}, {"a:1 b:1 c:1 d:1", "a c d", true}, {"a:1 b:1 c:1 d:1", "c d", false},
		{"a:10 b:10 c:10 d:10 e:10 f:10", "a b c d", false}, {"a:10 b:10 c:10 d:10 e:10 f:10", "b c d e f", true}, {"a:10 b:10 c:10 d:10 e:10 f:9", "a b c d", true},
		{"a:10 b:10 c:10 d:10 e:10 f:11", "a b c d", false}, {"a:10 b:10 c:10 d:10 e:10 f:11", "a b c f", true}, {"a:1000000 b:500000", "a", false}, {"a:1000000 b:499999", "a", true},
		{"a:1", "a", true}, {"a:1", "", false}, {"a:1", "b", false}, {"a:1000000", "a", true}, {"", "", false}, {"", "a", false},
	} {
		if got := impl.IsQuorum(valsTold(x.vals), strings.Fields(x.names)); got != x.want {
			t.Errorf("%q of %s: %v", x.names, x.vals, got)
		}
	}
}

// A name that is said twice, or is not in the list, makes no quorum of what is none.
func TestQuorumNamesOnceAndThere(t *testing.T) {
	l := letteredVals(10, 10, 10, 10)
	for names, want := range map[string]bool{
		"a b": false, "a b a": false, "a a a a": false, "a b a b a b": false, "a b z": false, "a b y z": false, "a b A B": false, "w x y z": false,
		"a b c": true, "c b a": true, "a a b b c": true, "z a y b x c": true, "a b c d": true, "d d c b a a": true,
	} {
		if got := impl.IsQuorum(l, strings.Fields(names)); got != want {
			t.Errorf("%q: %v", names, got)
		}
	}
}

func TestQuorumOfAllOfMany(t *testing.T) {
	for n := 1; n <= 12; n++ {
		for _, weight := range []int{1, 2, 3, 5, 1000000} {
			l := alikeVals(n, weight)
			for k := range n + 1 {
				if got := impl.IsQuorum(l, namesOf(l)[n-k:]); got != (3*k > 2*n) {
					t.Errorf("%d of %d with %d each: %v", k, n, weight, got)
				}
			}
		}
	}
}

// quorumSets: lists that are right, of few and of many, of weights alike and not.
func quorumSets() [][]impl.Val {
	l := [][]impl.Val{
		letteredVals(1), letteredVals(5), letteredVals(1, 1), letteredVals(2, 1), letteredVals(1, 2), letteredVals(1, 1, 1), letteredVals(2, 2, 2), letteredVals(1, 2, 3), letteredVals(3, 2, 1, 3),
		letteredVals(10, 10, 10, 10), letteredVals(5, 5, 5, 5, 5), letteredVals(1, 1, 1, 1, 1, 1), letteredVals(1, 1, 2, 2, 3), letteredVals(1, 2, 4, 8, 16, 32), letteredVals(100, 1, 1, 1),
		letteredVals(1000000, 1000000, 1000000), letteredVals(1000000, 1, 1), letteredVals(333333, 333333, 333334), letteredVals(7, 7, 7, 7, 7, 7, 7), alikeVals(9, 1), alikeVals(12, 1), alikeVals(12, 1000000),
	}
	r := rand.New(rand.NewSource(12))
	for range 60 {
		var weights []int
		most := []int{2, 3, 10, 1000, 1000000}[r.Intn(5)]
		for range 1 + r.Intn(8) {
			weights = append(weights, 1+r.Intn(most))
		}
		l = append(l, letteredVals(weights...))
	}
	return l
}

// The promise itself: of any two quorums of one list, what they have in common is more than a third of the weight.
func TestTwoQuorumsHaveMoreThanAThirdInCommon(t *testing.T) {
	pairs := 0
	for _, l := range quorumSets() {
		if !impl.SetOk(l) {
			t.Fatalf("not right: %v", l)
		}
		var quorums []int
		weights := make([]int, 1<<len(l))
		for mask := range weights {
			names := namesOfMask(l, mask)
			weights[mask] = impl.WeightOf(l, names)
			if impl.IsQuorum(l, names) {
				quorums = append(quorums, mask)
			}
		}
		for _, a := range quorums {
			for _, b := range quorums {
				if pairs++; 3*weights[a&b] <= impl.TotalOf(l) {
					t.Fatalf("%v: %q and %q have %d of %d in common", l, namesOfMask(l, a), namesOfMask(l, b), weights[a&b], impl.TotalOf(l))
				}
			}
		}
		if !slices.Contains(quorums, len(weights)-1) || slices.Contains(quorums, 0) {
			t.Errorf("%v: all are no quorum, or no one is", l)
		}
	}
	if pairs < 1000 {
		t.Error("too few quorums:", pairs)
	}
}

// Every subset of every list is what three times and twice make of it: so a quorum is refused to none that has it.
func TestQuorumJustIf(t *testing.T) {
	for _, l := range quorumSets() {
		for mask := range 1 << len(l) {
			w, total := 0, 0
			for i, v := range l {
				total += v.Weight
				w += v.Weight * (mask >> i & 1)
			}
			names := namesOfMask(l, mask)
			if impl.WeightOf(l, names) != w || impl.TotalOf(l) != total || impl.IsQuorum(l, names) != (3*w > 2*total) {
				t.Fatalf("%v, %q: %d of %d, %v", l, names, impl.WeightOf(l, names), impl.TotalOf(l), impl.IsQuorum(l, names))
			}
		}
	}
}

// Who is named more makes a quorum of no fewer.
func TestQuorumStaysWithMoreNames(t *testing.T) {
	r := rand.New(rand.NewSource(13))
	for _, l := range quorumSets() {
		for range 40 {
			mask := r.Intn(1 << len(l))
			more := mask | r.Intn(1<<len(l))
			if impl.IsQuorum(l, namesOfMask(l, mask)) && !impl.IsQuorum(l, append(namesOfMask(l, more), "nobody")) {
				t.Errorf("%v: %q is one, %q is none", l, namesOfMask(l, mask), namesOfMask(l, more))
			}
		}
	}
}

func TestLeaders(t *testing.T) {
	l := valsTold("a:1 b:9 c:5 d:2")
	for round, want := range map[int]string{
		0: "a", 1: "b", 2: "c", 3: "d", 4: "a", 5: "b", 7: "d", 8: "a", 9999: "d", 10000: "a", 10001: "b", math.MaxInt: "d", math.MaxInt - 3: "a",
		-1: "", -2: "", -4: "", -10000: "", math.MinInt: "", math.MinInt + 1: "",
	} {
		if got := impl.LeaderOf(l, round); got != want {
			t.Errorf("round %d: %q, not %q", round, got, want)
		}
	}
	for _, none := range [][]impl.Val{nil, {}, l[:0]} {
		for _, round := range []int{0, 1, -1, 12, math.MaxInt, math.MinInt} {
			if got := impl.LeaderOf(none, round); got != "" {
				t.Errorf("round %d of no one: %q", round, got)
			}
		}
	}
}

// In as many rounds one behind the other as there are, each leads once, in the order of the list.
func TestLeadersEachOnce(t *testing.T) {
	for n := 1; n <= 12; n++ {
		l := alikeVals(n, 3)
		for first := range 3*n + 1 {
			var led []string
			for round := first; round < first+n; round++ {
				led = append(led, impl.LeaderOf(l, round))
			}
			want := slices.Concat(namesOf(l)[first%n:], namesOf(l)[:first%n])
			if !slices.Equal(led, want) {
				t.Errorf("%d rounds from %d: %q", n, first, led)
			}
		}
		for _, round := range []int{n - 1, n, n + 1} {
			if got := impl.LeaderOf(l, round); got != l[[]int{n - 1, 0, 1 % n}[round-n+1]].Name {
				t.Errorf("round %d of %d: %q", round, n, got)
			}
		}
	}
}

// wrongSets: none of them is right, and each has weights and names still.
func wrongSets() [][]impl.Val {
	return [][]impl.Val{
		nil, valsTold("b:2 a:1"), valsTold("a:1 a:2"), valsTold("a:1 a:1 a:1"), valsTold("c:3 a:1 b:2 a:4"), valsTold("a:0"), valsTold("a:0 b:0 c:0"), valsTold("a:-1"), valsTold("a:5 b:-5"), valsTold("a:-2 b:-1"),
		valsTold("a:1000001"), valsTold("a:1000001 b:1"), valsTold("A:3 B:1"), valsTold("a-b:5 a:1"), valsTold("abcdefghi:7 b:2"), {{Name: "", Weight: 4}, {Name: "a", Weight: 1}}, {{Name: "\xff", Weight: 1}, {Name: "a b", Weight: 3}},
		alikeVals(13, 1), alikeVals(300, 1000000), {{}}, {{}, {}, {}},
	}
}

// The chapter gives no answer of its own to a list that is not right: what it weighs is added, and who leads is counted, all the same.
func TestSetsNotRight(t *testing.T) {
	for _, l := range wrongSets() {
		if impl.SetOk(l) {
			t.Errorf("right: %.200v", fmt.Sprint(l))
		}
		for _, names := range [][]string{nil, {"a"}, {"b"}, {"a", "b"}, {"b", "a", "a", "c"}, {""}, {"A"}, {"abcdefghi", "a-b"}, {"\xff"}, {"n1000", "n1012"}, manyNames(300), namesOf(l), append(namesOf(l), namesOf(l)...)} {
			checkSet(t, l, names, 0, 1, 2, 3, 11, 12, 13, 299, 300, 10000, -1, -13, math.MaxInt, math.MinInt)
		}
	}
	if got := impl.WeightOf(valsTold("c:3 a:1 b:2 a:4"), []string{"a", "z", "a"}); got != 5 {
		t.Errorf("both that stand under one name: %d", got)
	}
	if impl.WeightOf(alikeVals(300, 1000000), manyNames(301)) != 300000000 || impl.TotalOf(valsTold("a:5 b:-7")) != -2 {
		t.Error("more than there may be, and less than nothing")
	}
	if impl.LeaderOf([]impl.Val{{Name: "no name"}, {Name: ""}, {Name: "A", Weight: -1}}, 5) != "A" || impl.LeaderOf(alikeVals(13, 1), 12) != "n1012" || impl.LeaderOf(valsTold("b:1 a:1 a:1"), 4) != "a" {
		t.Error("who leads in a list that is not right")
	}
	if impl.IsQuorum(valsTold("a:0 b:0"), []string{"a", "b"}) || !impl.IsQuorum(valsTold("b:3 a:1"), []string{"b"}) || impl.IsQuorum(valsTold("b:2 a:1"), []string{"b"}) || !impl.IsQuorum(alikeVals(13, 1), manyNames(9)) || impl.IsQuorum(alikeVals(15, 1), manyNames(10)) {
		t.Error("quorums of lists that are not right")
	}
}

// Very great and very small weights: three times and twice them is more than an int holds, and still told rightly.
func TestSetsOfGreatNumbers(t *testing.T) {
	great := []int{math.MaxInt, math.MaxInt - 1, math.MinInt, math.MinInt + 1, math.MinInt + 2, math.MaxInt / 2, math.MaxInt/2 + 1, math.MaxInt / 3, math.MaxInt/3 + 1, math.MinInt / 2, math.MinInt / 3, 1 << 62, -1 << 62, 4000000000000000000, 1 << 32, -1 << 32, 7, 1, 0, -1, -2}
	for _, a := range great {
		for _, b := range great {
			for _, names := range [][]string{nil, {"a"}, {"b"}, {"a", "b"}, {"a", "a"}, {"c"}} {
				checkSet(t, letteredVals(a, b), names, a, b)
				checkSet(t, letteredVals(a), names, a)
			}
		}
	}
	for _, w := range []int{math.MaxInt, math.MaxInt - 1, math.MaxInt / 2, math.MaxInt/3 + 1, 4000000000000000000} {
		l := letteredVals(w)
		if !impl.IsQuorum(l, []string{"a"}) || impl.IsQuorum(l, nil) || impl.WeightOf(l, []string{"a"}) != w || impl.TotalOf(l) != w {
			t.Errorf("all of %d, and nothing of it: %v, %v", w, impl.IsQuorum(l, []string{"a"}), impl.IsQuorum(l, nil))
		}
	}
	third := math.MaxInt / 3
	if impl.IsQuorum(letteredVals(2*third, third), []string{"a"}) || !impl.IsQuorum(letteredVals(2*third+1, third-1), []string{"a"}) || impl.IsQuorum(letteredVals(2*third-1, third+1), []string{"a"}) {
		t.Error("just two thirds of all that an int holds")
	}
}

// anyVals picks what is often right, and often just not.
func anyVals(r *rand.Rand) []impl.Val {
	weights := []int{1, 2, 3, 5, 10, 999999, 1000000, 1000001, 0, -1, math.MaxInt, math.MinInt}
	var l []impl.Val
	for range r.Intn(7) {
		l = append(l, impl.Val{Name: anyVoter(r), Weight: weights[r.Intn(7+r.Intn(8)/7*5)]})
	}
	if r.Intn(4) > 0 {
		slices.SortFunc(l, func(a, b impl.Val) int { return strings.Compare(a.Name, b.Name) })
		l = slices.CompactFunc(l, func(a, b impl.Val) bool { return a.Name == b.Name })
	}
	return l
}

func anyVoter(r *rand.Rand) string {
	return []string{"a", "b", "c", "ab", "0", "d1", "z", "zz", "", "X"}[r.Intn(8+r.Intn(20)/19*2)]
}

func TestSetsOfAnything(t *testing.T) {
	r := rand.New(rand.NewSource(14))
	right, quorums := 0, 0
	for range 30000 {
		l := anyVals(r)
		var names []string
		for range r.Intn(9) {
			names = append(names, anyVoter(r))
		}
		checkSet(t, l, names, r.Intn(20), r.Int(), -r.Int())
		if setWanted(l) {
			right++
			if impl.IsQuorum(l, names) {
				quorums++
			}
		}
	}
	if right < 1000 || quorums < 1000 || quorums > right-1000 {
		t.Errorf("too few are right: %d, quorums %d", right, quorums)
	}
}

func TestSetOfAnything(t *testing.T) {
	r := rand.New(rand.NewSource(15))
	some := 0
	for range 20000 {
		l := ledgerOf([]int{0, 1, 899, 900, 901, -1}[r.Intn(4+r.Intn(6)/5*2)], anyAccts(r)...)
		for i := range l.Accts {
			if r.Intn(2) == 0 {
				l.Accts[i].Stake = r.Intn(11)
			}
		}
		got := checkSetOf(t, l)
		if len(got) > 0 {
			some++
		}
		if ledgerWanted(l) && impl.TotalOf(got) > impl.Wealth(l.Accts) {
			t.Fatalf("%v weighs more than there is: %v", got, l)
		}
	}
	if some < 1000 {
		t.Error("too few have anyone who votes:", some)
	}
}

// askSet asks everything of a list, and tells it by one text.
func askSet(l []impl.Val, names []string, round int) string {
	return fmt.Sprint(impl.SetOk(l), impl.WeightOf(l, names), impl.TotalOf(l), impl.IsQuorum(l, names), impl.LeaderOf(l, round))
}

func TestSetsLeaveTheirArguments(t *testing.T) {
	for i, l := range append(quorumSets(), wrongSets()...) {
		for k := range 4 {
			names := append(namesOf(l)[:len(l)*k/3:len(l)*k/3], "q", "a")
			want := askSet(slices.Clone(l), slices.Clone(names), 7+k)
			room := append(slices.Clone(l), impl.Val{Name: "a", Weight: 900}, impl.Val{Name: "q", Weight: 900}, impl.Val{Name: "zzz", Weight: 900})
			said := append(slices.Clone(names), "b", "c", "zzz")
			keptRoom, keptSaid := slices.Clone(room), slices.Clone(said)
			if got := askSet(room[:len(l)], said[:len(names)], 7+k); got != want {
				t.Errorf("%d: what lies behind the lists was read: %s, not %s", i, got, want)
			}
			if !slices.Equal(room, keptRoom) || !slices.Equal(said, keptSaid) {
				t.Errorf("%d: wrote into an argument or behind it", i)
			}
		}
	}
}

func TestSetOfLeavesItsArgument(t *testing.T) {
	for i, x := range ledgerCalls() {
		for k := range x.l.Accts {
			x.l.Accts[k].Stake += k * 3
		}
		want := setOfWanted(x.l)
		room, leaves := roomyAccts(x.l.Accts)
		for k := range room[len(x.l.Accts):] {
			room[len(x.l.Accts)+k].Stake = 50
		}
		kept, keptLeaves := cloneAccts(room), [][]impl.Leave{}
		for _, l := range leaves {
			keptLeaves = append(keptLeaves, slices.Clone(l))
		}
		got := impl.SetOf(ledgerOf(x.l.Epoch, room[:len(x.l.Accts)]...))
		if !slices.Equal(got, want) || !sameAccts(room, kept) || !slices.EqualFunc(leaves, keptLeaves, slices.Equal) {
			t.Errorf("%d: wrote into an argument or behind it, or read there: %v, not %v", i, got, want)
		}
		clear(room)
		if !slices.Equal(got, want) {
			t.Errorf("%d: the answer shares memory with an argument", i)
		}
	}
}

// Two answers share no memory, to the end of their room; no call keeps anything for another.
func TestSetsKeepNothing(t *testing.T) {
	for i, x := range ledgerCalls() {
		want := setOfWanted(x.l)
		first := impl.SetOf(x.l)
		for _, y := range ledgerCalls() {
			other := impl.SetOf(y.l)
			for at := range other[:cap(other)] {
				other[:cap(other)][at] = impl.Val{Name: "written", Weight: -9}
			}
			askSet(other, []string{"written"}, i)
		}
		if again := impl.SetOf(x.l); !slices.Equal(first, want) || !slices.Equal(again, want) {
			t.Errorf("%d: the second time something else comes: %v, %v, not %v", i, first, again, want)
		}
	}
	sets := append(quorumSets(), wrongSets()...)
	var first []string
	for i, l := range sets {
		first = append(first, askSet(l, namesOfMask(l[:min(len(l), 12)], i), i))
	}
	for i := len(sets) - 1; i >= 0; i-- {
		l := sets[i]
		if again := askSet(l, namesOfMask(l[:min(len(l), 12)], i), i); again != first[i] {
			t.Errorf("%d: the second time something else comes: %s, not %s", i, again, first[i])
		}
	}
}
