package tests

import (
	"fmt"
	"math"
	"math/big"
	"math/rand"
	"slices"
	"strings"
	"testing"

	"loop.example/g00194/impl"
)

func sameAcct(a, b impl.Acct) bool {
	return a.Name == b.Name && a.Free == b.Free && a.Nonce == b.Nonce && a.Stake == b.Stake && slices.Equal(a.Leaves, b.Leaves)
}

func sameAccts(a, b []impl.Acct) bool { return slices.EqualFunc(a, b, sameAcct) }

func cloneAccts(l []impl.Acct) []impl.Acct {
	out := slices.Clone(l)
	for i := range out {
		out[i].Leaves = slices.Clone(out[i].Leaves)
	}
	return out
}

// leavesAt: a Leave of amount at each of these epochs.
func leavesAt(amount int, at ...int) []impl.Leave {
	var l []impl.Leave
	for _, x := range at {
		l = append(l, impl.Leave{Amount: amount, At: x})
	}
	return l
}

// letteredAccts are n accounts of the names aa, ab .., each with free coins.
func letteredAccts(n int, free int) []impl.Acct {
	var l []impl.Acct
	for i := range n {
		l = append(l, impl.Acct{Name: string([]byte{'a' + byte(i/26), 'a' + byte(i%26)}), Free: free})
	}
	return l
}

// mixedAccts have all that an account may have; together they have 5+10+3+7+1+2+4+8 = 40.
func mixedAccts() []impl.Acct {
	return []impl.Acct{
		{Name: "b", Free: 5, Nonce: 2, Stake: 10, Leaves: leavesAt(3, 2)},
		{Name: "d", Free: 7},
		{Name: "e"},
		{Name: "g", Free: 0, Nonce: 10000, Stake: 1, Leaves: []impl.Leave{{Amount: 2, At: 0}, {Amount: 4, At: 7}, {Amount: 8, At: 1000}}},
	}
}

func nameWanted(s string) bool {
	return len(s) >= 1 && len(s) <= 8 && strings.Trim(s, "abcdefghijklmnopqrstuvwxyz0123456789") == ""
}

func outside(n, least, most int) bool { return n < least || n > most }

func acctWanted(a impl.Acct) bool {
	if !nameWanted(a.Name) || outside(a.Free, 0, 1000000) || outside(a.Nonce, 0, 10000) || outside(a.Stake, 0, 1000000) || len(a.Leaves) > 4 {
		return false
	}
	last := -1
	for _, x := range a.Leaves {
		if outside(x.Amount, 1, 1000000) || outside(x.At, last+1, 1000) {
			return false
		}
		last = x.At
	}
	return true
}

// sumWanted adds in numbers without a limit.
func sumWanted(l []impl.Acct) *big.Int {
	sum := new(big.Int)
	add := func(n int) { sum.Add(sum, big.NewInt(int64(n))) }
	for _, a := range l {
		add(a.Free)
		add(a.Stake)
		for _, x := range a.Leaves {
			add(x.Amount)
		}
	}
	return sum
}

func acctsWanted(l []impl.Acct) bool {
	names := []string{}
	for _, a := range l {
		if !acctWanted(a) {
			return false
		}
		names = append(names, a.Name)
	}
	sorted := slices.Clone(names)
	slices.Sort(sorted)
	return len(l) <= 12 && slices.Equal(names, slices.Compact(sorted)) && sumWanted(l).Cmp(big.NewInt(1000000)) <= 0
}

// creditWanted sorts what is there and what comes anew, and asks then whether that is right.
func creditWanted(l []impl.Acct, name string, n int) ([]impl.Acct, bool) {
	if !acctsWanted(l) || !nameWanted(name) || outside(n, 0, 1000000) {
		return l, false
	}
	out := cloneAccts(l)
	if !slices.ContainsFunc(out, func(a impl.Acct) bool { return a.Name == name }) {
		out = append(out, impl.Acct{Name: name})
	}
	slices.SortFunc(out, func(a, b impl.Acct) int { return strings.Compare(a.Name, b.Name) })
	for i := range out {
		if out[i].Name == name {
			out[i].Free += n
		}
	}
	if !acctsWanted(out) {
		return l, false
	}
	return out, true
}

func checkCredit(t *testing.T, l []impl.Acct, name string, n int) {
	t.Helper()
	want, wantOk := creditWanted(l, name, n)
	got, ok := impl.Credit(l, name, n)
	if ok != wantOk || !sameAccts(got, want) {
		t.Errorf("Credit(%v, %q, %d): %v %v, not %v %v", l, name, n, got, ok, want, wantOk)
	}
}

// refusesCredit: the list comes back as it was, and false.
func refusesCredit(t *testing.T, l []impl.Acct, name string, n int) {
	t.Helper()
	kept := cloneAccts(l)
	got, ok := impl.Credit(l, name, n)
	if ok || !sameAccts(got, kept) || !sameAccts(l, kept) {
		t.Errorf("Credit(%v, %q, %d): %v %v", kept, name, n, got, ok)
	}
}

func TestAcctRight(t *testing.T) {
	for _, a := range append(mixedAccts(), []impl.Acct{
		{Name: "a"}, {Name: "0"}, {Name: "abcdefgh"}, {Name: "z9z9z9z9"}, {Name: "00000000"},
		{Name: "a", Free: 1}, {Name: "a", Free: 999999}, {Name: "a", Free: 1000000},
		{Name: "a", Stake: 1}, {Name: "a", Stake: 1000000}, {Name: "a", Nonce: 1}, {Name: "a", Nonce: 10000},
		{Name: "a", Leaves: []impl.Leave{}}, {Name: "a", Leaves: leavesAt(1, 0)}, {Name: "a", Leaves: leavesAt(1000000, 1000)},
		{Name: "a", Leaves: leavesAt(1, 0, 1, 2, 3)}, {Name: "a", Leaves: leavesAt(1000000, 997, 998, 999, 1000)},
		// What one account has together only AcctsOk bounds.
		{Name: "a", Free: 1000000, Nonce: 10000, Stake: 1000000, Leaves: leavesAt(1000000, 0, 5, 6, 1000)},
	}...) {
		if !impl.AcctOk(a) {
			t.Errorf("not right: %v", a)
		}
	}
	if impl.MaxCoins != 1000000 || impl.MaxAccts != 12 {
		t.Error("limits:", impl.MaxCoins, impl.MaxAccts)
	}
}

// wrongAccts: each has one fault.
func wrongAccts() []impl.Acct {
	var l []impl.Acct
	for _, name := range []string{"", "A", "Z", "a b", " a", "a\n", "a\x00", "a-", "_", "é", "\xff", "abcdefghi", "123456789", strings.Repeat("a", 1000)} {
		l = append(l, impl.Acct{Name: name})
	}
	for _, n := range []int{-1, -2, -1000000, math.MinInt, math.MinInt + 1, 1000001, 1000002, 2000000, math.MaxInt, math.MaxInt - 1, 1 << 32, -1 << 32} {
		l = append(l, impl.Acct{Name: "a", Free: n}, impl.Acct{Name: "a", Stake: n}, impl.Acct{Name: "a", Nonce: n},
			impl.Acct{Name: "a", Leaves: leavesAt(n, 1)}, impl.Acct{Name: "a", Leaves: leavesAt(1, n)},
			impl.Acct{Name: "a", Leaves: append(leavesAt(1, 1, 2, 3), impl.Leave{Amount: n, At: 4})},
			impl.Acct{Name: "a", Leaves: append(leavesAt(1, 1, 2, 3), impl.Leave{Amount: 1, At: n})})
	}
	l = append(l, impl.Acct{Name: "a", Nonce: 10001}, impl.Acct{Name: "a", Leaves: leavesAt(1, 1001)}, impl.Acct{Name: "a", Leaves: leavesAt(0, 1)}, impl.Acct{Name: "a", Leaves: leavesAt(0, 0)})
	for _, at := range [][]int{{2, 2}, {0, 0}, {1000, 1000}, {2, 1}, {1, 0}, {1, 2, 2}, {1, 1, 2}, {1, 3, 2}, {1, 2, 3, 3}, {1, 2, 3, 2}, {1, 2, 3, 0}, {0, 1, 2, 3, 4}, {1, 2, 3, 4, 5, 6}} {
		l = append(l, impl.Acct{Name: "a", Leaves: leavesAt(1, at...)})
	}
	return append(l, impl.Acct{}, impl.Acct{Name: "a", Leaves: make([]impl.Leave, 1)}, impl.Acct{Name: "a", Leaves: make([]impl.Leave, 100000)})
}

func TestAcctNotRight(t *testing.T) {
	for _, a := range wrongAccts() {
		if impl.AcctOk(a) {
			t.Errorf("right: %.200v", fmt.Sprint(a))
		}
		for _, l := range [][]impl.Acct{{a}, {{Name: "0"}, a}, {a, {Name: "zz"}}} {
			if impl.AcctsOk(l) {
				t.Errorf("right together: %.200v", fmt.Sprint(l))
			}
		}
	}
}

// At whatever place one stands that is not right, they are not.
func TestAcctsOneNotRight(t *testing.T) {
	for at := range 12 {
		l := letteredAccts(12, 10)
		l[at].Nonce = 10001
		if impl.AcctsOk(l) {
			t.Errorf("the one at place %d is not seen", at)
		}
	}
}

func TestAcctsHowMany(t *testing.T) {
	if !impl.AcctsOk(nil) || !impl.AcctsOk([]impl.Acct{}) {
		t.Error("none at all are not right")
	}
	for n := range 200 {
		if impl.AcctsOk(letteredAccts(n, 1)) != (n <= 12) || impl.AcctsOk(letteredAccts(n, 0)) != (n <= 12) {
			t.Errorf("%d accounts", n)
		}
	}
}

func TestAcctsAscend(t *testing.T) {
	for _, x := range []struct {
		names string
		want  bool
	}{
		{"a", true}, {"a b", true}, {"a aa", true}, {"a aa ab b", true}, {"0 9 a z", true}, {"9 a", true}, {"a0 aa", true}, {"az b", true}, {"abcdefg abcdefgh", true},
		{"a a", false}, {"b a", false}, {"aa a", false}, {"a 9", false}, {"b az", false}, {"a b b", false}, {"a a b", false}, {"a c b", false}, {"a b a", false}, {"b c a", false},
		{"a b c d e f g h i j k l", true}, {"a b c d e f g h i j k k", false}, {"a b c d e f g h i j l k", false},
	} {
		var l []impl.Acct
		for _, name := range strings.Fields(x.names) {
			l = append(l, impl.Acct{Name: name})
		}
		if impl.AcctsOk(l) != x.want {
			t.Errorf("%s: %v", x.names, !x.want)
		}
	}
}

func TestAcctsTogether(t *testing.T) {
	many := leavesAt(250000, 1, 2, 3, 4)
	for i, l := range [][]impl.Acct{
		{{Name: "a", Free: 1000000}}, {{Name: "a", Stake: 1000000}}, {{Name: "a", Leaves: leavesAt(1000000, 3)}}, {{Name: "a", Leaves: many}},
		{{Name: "a", Free: 500000, Stake: 500000}}, {{Name: "a", Free: 1, Stake: 1, Leaves: leavesAt(499999, 1, 2)}},
		{{Name: "a", Free: 1000000}, {Name: "b"}, {Name: "c", Nonce: 10000}},
		{{Name: "a", Free: 400000}, {Name: "b", Stake: 400000}, {Name: "c", Leaves: leavesAt(100000, 1, 9)}},
		append(letteredAccts(11, 90000), impl.Acct{Name: "z", Free: 9999, Stake: 1}),
	} {
		if !impl.AcctsOk(l) || impl.Wealth(l) != 1000000 {
			t.Errorf("%d: 1000000 together: %d", i, impl.Wealth(l))
		}
		for at := range l {
			for _, more := range []func(a *impl.Acct){
				func(a *impl.Acct) { a.Free++ },
				func(a *impl.Acct) { a.Stake++ },
				func(a *impl.Acct) { a.Leaves = append([]impl.Leave{{Amount: 1, At: 0}}, a.Leaves...) },
			} {
				one := cloneAccts(l)
				more(&one[at])
				if impl.AcctsOk(one) || impl.Wealth(one) != 1000001 {
					t.Errorf("%d: one more at %d: %d", i, at, impl.Wealth(one))
				}
			}
		}
	}
	// Nonce and At are no coins.
	if !impl.AcctsOk([]impl.Acct{{Name: "a", Free: 999999, Nonce: 10000, Leaves: leavesAt(1, 1000)}}) {
		t.Error("Nonce or At counts as coins")
	}
	if impl.AcctsOk(letteredAccts(12, 1000000)) || impl.AcctsOk([]impl.Acct{{Name: "a", Free: 1000000, Stake: 1000000, Leaves: leavesAt(1000000, 1, 2, 3, 4)}}) {
		t.Error("far too many together")
	}
}

func TestAcctPlaces(t *testing.T) {
	l := mixedAccts()
	for i, a := range l {
		if got := impl.AcctAt(l, a.Name); got != i {
			t.Errorf("%q is at %d, not %d", a.Name, got, i)
		}
	}
	for _, name := range []string{"", "a", "c", "f", "h", "z", "bb", "B", "b ", "\x00", "é", "abcdefghi"} {
		if got := impl.AcctAt(l, name); got != -1 {
			t.Errorf("%q is at %d", name, got)
		}
	}
	for _, none := range [][]impl.Acct{nil, {}, l[:0]} {
		if impl.AcctAt(none, "b") != -1 || impl.AcctAt(none, "") != -1 {
			t.Error("a place in none")
		}
	}
	for i, a := range letteredAccts(12, 3) {
		if impl.AcctAt(letteredAccts(12, 3), a.Name) != i || impl.AcctAt(letteredAccts(12, 3)[:i], a.Name) != -1 {
			t.Errorf("place %d of 12", i)
		}
	}
}

// A list need not be right: of two the first counts, in whatever order they stand.
func TestAcctPlacesOfNotRight(t *testing.T) {
	l := []impl.Acct{{Name: "m"}, {Name: "b", Free: -1}, {Name: ""}, {Name: "b"}, {Name: "NO", Nonce: math.MaxInt}, {Name: ""}, {Name: "a", Leaves: make([]impl.Leave, 9)}}
	for name, want := range map[string]int{"m": 0, "b": 1, "": 2, "NO": 4, "a": 6, "no": -1, "c": -1} {
		if got := impl.AcctAt(l, name); got != want {
			t.Errorf("%q is at %d, not %d", name, got, want)
		}
	}
	many := letteredAccts(300, 5)
	for i, a := range many {
		if impl.AcctAt(many, a.Name) != i {
			t.Errorf("place %d of 300", i)
		}
	}
}

func TestWealth(t *testing.T) {
	if impl.Wealth(nil) != 0 || impl.Wealth([]impl.Acct{}) != 0 || impl.Wealth([]impl.Acct{{Name: "a", Nonce: 7}}) != 0 {
		t.Error("where there is nothing")
	}
	l := mixedAccts()
	if got := impl.Wealth(l); got != 40 {
		t.Errorf("%d, not 40", got)
	}
	for i, want := range []int{18, 7, 0, 15} {
		if got := impl.Wealth(l[i : i+1]); got != want {
			t.Errorf("the one at %d: %d, not %d", i, got, want)
		}
	}
	if got := impl.Wealth([]impl.Acct{{Free: 1, Nonce: 10, Stake: 100, Leaves: []impl.Leave{{Amount: 1000, At: 20}, {Amount: 10000, At: 30}}}, {Free: 200000}}); got != 211101 {
		t.Errorf("%d, not 211101", got)
	}
}

// The document gives Wealth no limit: what is not right is added, too, and what an int does not hold wraps round.
func TestWealthOfNotRight(t *testing.T) {
	for _, x := range []struct {
		l    []impl.Acct
		want int
	}{
		{[]impl.Acct{{Free: -5}, {Stake: -6}, {Leaves: leavesAt(-7, 1, 1)}}, -25},
		{[]impl.Acct{{Name: "b", Free: 1}, {Name: "a", Free: 2}, {Name: "b", Free: 4}, {Name: "NO", Free: 8}}, 15},
		{[]impl.Acct{{Leaves: leavesAt(3, 9, 8, 7, 6, 5, 4)}}, 18},
		{letteredAccts(300, 1000000), 300000000},
		{[]impl.Acct{{Free: math.MaxInt}}, math.MaxInt}, {[]impl.Acct{{Stake: math.MinInt}}, math.MinInt},
		{[]impl.Acct{{Free: math.MaxInt, Stake: math.MinInt}}, -1},
		{[]impl.Acct{{Free: math.MaxInt, Stake: 1}}, math.MinInt}, {[]impl.Acct{{Free: math.MinInt}, {Leaves: leavesAt(-1, 1)}}, math.MaxInt},
	} {
		if got := impl.Wealth(x.l); got != x.want {
			t.Errorf("%.200v: %d, not %d", fmt.Sprint(x.l), got, x.want)
		}
	}
}

func TestCreditToOneThatIsThere(t *testing.T) {
	for at, a := range mixedAccts() {
		for _, n := range []int{0, 1, 2, 100, 999959, 999960} {
			l := mixedAccts()
			got, ok := impl.Credit(l, a.Name, n)
			want := mixedAccts()
			want[at].Free += n
			if !ok || !sameAccts(got, want) || impl.Wealth(got) != 40+n {
				t.Errorf("%d to %q: %v %v", n, a.Name, got, ok)
			}
		}
		for _, n := range []int{999961, 999962, 1000000} {
			refusesCredit(t, mixedAccts(), a.Name, n)
		}
	}
}

func TestCreditToOneThatIsNot(t *testing.T) {
	for name, at := range map[string]int{"0": 0, "a": 0, "azzzzzzz": 0, "b0": 1, "bb": 1, "c": 1, "czzz": 1, "da": 2, "dz": 2, "f": 3, "e0": 3, "g0": 4, "ga": 4, "h": 4, "zzzzzzzz": 4} {
		for _, n := range []int{0, 1, 2, 999960} {
			got, ok := impl.Credit(mixedAccts(), name, n)
			want := slices.Insert(mixedAccts(), at, impl.Acct{Name: name, Free: n})
			if !ok || !sameAccts(got, want) || impl.AcctAt(got, name) != at || !impl.AcctsOk(got) {
				t.Errorf("%d to %q: %v %v", n, name, got, ok)
			}
		}
		for _, n := range []int{999961, 1000000} {
			refusesCredit(t, mixedAccts(), name, n)
		}
	}
}

func TestCreditToNone(t *testing.T) {
	for _, l := range [][]impl.Acct{nil, {}, mixedAccts()[:0]} {
		for _, n := range []int{0, 1, 999999, 1000000} {
			got, ok := impl.Credit(l, "a", n)
			if !ok || !sameAccts(got, []impl.Acct{{Name: "a", Free: n}}) {
				t.Errorf("%d to the first: %v %v", n, got, ok)
			}
		}
		refusesCredit(t, l, "a", 1000001)
		refusesCredit(t, l, "a", -1)
		refusesCredit(t, l, "", 1)
		refusesCredit(t, l, "A", 0)
	}
}

// A name that is given 0 has its account, and one that has nothing keeps its own.
func TestCreditOfNothing(t *testing.T) {
	empty := []impl.Acct{{Name: "b"}, {Name: "d"}}
	for _, x := range []struct{ name, want string }{{"b", "b d"}, {"d", "b d"}, {"a", "a b d"}, {"c", "b c d"}, {"e", "b d e"}} {
		got, ok := impl.Credit(empty, x.name, 0)
		var want []impl.Acct
		for _, name := range strings.Fields(x.want) {
			want = append(want, impl.Acct{Name: name})
		}
		if !ok || !sameAccts(got, want) {
			t.Errorf("0 to %q: %v %v", x.name, got, ok)
		}
	}
	got, ok := impl.Credit(empty, "a", 1000000)
	if !ok || !sameAccts(got, []impl.Acct{{Name: "a", Free: 1000000}, {Name: "b"}, {Name: "d"}}) {
		t.Errorf("those that have nothing: %v %v", got, ok)
	}
	full := []impl.Acct{{Name: "b", Free: 1000000}, {Name: "d"}}
	for _, name := range []string{"a", "b", "c", "d"} {
		checkCredit(t, full, name, 0)
		refusesCredit(t, full, name, 1)
		if _, ok := impl.Credit(full, name, 0); !ok {
			t.Errorf("0 to %q of a full list", name)
		}
	}
}

func TestCreditWhenThereAreMany(t *testing.T) {
	for n := range 13 {
		for _, name := range []string{"0", "aaa", "afa", "zz"} {
			l := letteredAccts(n, 7)
			got, ok := impl.Credit(l, name, 3)
			if ok != (n < 12) || n < 12 && len(got) != n+1 {
				t.Errorf("%q to %d others: %v %v", name, n, got, ok)
			}
			checkCredit(t, l, name, 0)
		}
		for _, a := range letteredAccts(n, 7) {
			checkCredit(t, letteredAccts(n, 7), a.Name, 3)
		}
	}
	for _, name := range []string{"0", "aaa", "afa", "zz"} {
		for _, n := range []int{0, 1, 1000000} {
			refusesCredit(t, letteredAccts(12, 7), name, n)
		}
	}
	if got, ok := impl.Credit(letteredAccts(12, 7), "al", 999916); !ok || got[11].Free != 999923 || impl.Wealth(got) != 1000000 {
		t.Errorf("to the last of 12: %v %v", got, ok)
	}
}

func TestCreditWrongAmount(t *testing.T) {
	for _, n := range []int{-1, -2, -5, -1000000, math.MinInt, math.MinInt + 1, 1000001, 1000002, math.MaxInt, math.MaxInt - 1, 1 << 32, -1 << 32} {
		// b has 5, so that a number just below 0 would leave something right.
		for _, name := range []string{"b", "d", "e", "a", "c", "z"} {
			refusesCredit(t, mixedAccts(), name, n)
		}
		refusesCredit(t, nil, "a", n)
	}
}

func TestCreditWrongName(t *testing.T) {
	for _, name := range []string{"", "B", "b ", " b", "b\n", "b\x00", "a-b", "é", "\xff", "abcdefghi", strings.Repeat("b", 1000)} {
		for _, n := range []int{0, 1, 1000000, -1} {
			refusesCredit(t, mixedAccts(), name, n)
			refusesCredit(t, nil, name, n)
		}
	}
}

func TestCreditToNotRight(t *testing.T) {
	lists := [][]impl.Acct{
		{{Name: "b"}, {Name: "a"}}, {{Name: "a"}, {Name: "a"}}, {{Name: "a", Free: 1}, {Name: "b"}, {Name: "a", Free: 2}},
		{{Name: "a", Free: 600000, Stake: 600000}}, {{Name: "a", Free: 1000000}, {Name: "b", Leaves: leavesAt(1, 1)}},
		letteredAccts(13, 0), letteredAccts(300, 5),
		// What is given would mend the first, and what wraps round would mend the second.
		{{Name: "a", Free: -1}}, {{Name: "a", Free: math.MaxInt}, {Name: "b", Free: math.MaxInt}, {Name: "c", Free: 2}},
	}
	for _, a := range wrongAccts() {
		lists = append(lists, []impl.Acct{a}, []impl.Acct{{Name: "0", Free: 4}, a, {Name: "zz", Leaves: leavesAt(2, 2)}})
	}
	for _, l := range lists {
		for _, name := range []string{"a", "0", "m", ""} {
			for _, n := range []int{0, 1, 1000000, -1, math.MinInt} {
				refusesCredit(t, l, name, n)
			}
		}
	}
}

// anyAcct picks what is often right, and often just not.
func anyAcct(r *rand.Rand) impl.Acct {
	amounts := []int{0, 0, 1, 2, 3, 250000, 499999, 500000, 999999, 1000000, 1000001, -1, math.MaxInt, math.MinInt}
	pick := func(l []int, usual int) int {
		if r.Intn(3) > 0 {
			return l[r.Intn(usual)]
		}
		return l[r.Intn(len(l))]
	}
	a := impl.Acct{Name: []string{"a", "b", "c", "ab", "0", "d1", "z", "zz", "", "X"}[r.Intn(8+r.Intn(20)/18*2)]}
	a.Free, a.Stake, a.Nonce = pick(amounts, 5), pick(amounts, 5), pick([]int{0, 1, 9999, 10000, 10001, -1}, 4)
	at := r.Intn(3)
	for range r.Intn(7) * r.Intn(2) {
		a.Leaves = append(a.Leaves, impl.Leave{Amount: pick(amounts[2:], 4), At: at})
		at += pick([]int{1, 2, 497, 499, 0, -1}, 2)
	}
	return a
}

func anyAccts(r *rand.Rand) []impl.Acct {
	var l []impl.Acct
	for range r.Intn(6) {
		l = append(l, anyAcct(r))
	}
	if r.Intn(4) > 0 {
		slices.SortFunc(l, func(a, b impl.Acct) int { return strings.Compare(a.Name, b.Name) })
		l = slices.CompactFunc(l, func(a, b impl.Acct) bool { return a.Name == b.Name })
	}
	return l
}

func TestAcctsOfAnything(t *testing.T) {
	r := rand.New(rand.NewSource(7))
	right, together := 0, 0
	for range 30000 {
		l := anyAccts(r)
		for _, a := range l {
			if impl.AcctOk(a) != acctWanted(a) {
				t.Fatalf("AcctOk(%v): %v", a, !acctWanted(a))
			}
			if acctWanted(a) {
				right++
			}
		}
		if impl.AcctsOk(l) != acctsWanted(l) {
			t.Fatalf("AcctsOk(%v): %v", l, !acctsWanted(l))
		}
		if acctsWanted(l) && len(l) > 1 {
			together++
		}
		low := new(big.Int).And(sumWanted(l), new(big.Int).SetUint64(math.MaxUint64)).Uint64()
		if impl.Wealth(l) != int(low) {
			t.Fatalf("Wealth(%v): %d", l, impl.Wealth(l))
		}
		checkCredit(t, l, anyAcct(r).Name, []int{0, 1, 2, 1000, 499999, 500000, 999999, 1000000, 1000001, -1}[r.Intn(10)])
	}
	if right < 1000 || together < 1000 {
		t.Errorf("too few are right: %d, together %d", right, together)
	}
}

// The promise itself: what is given is there, it is all that is more, and the others are as they were.
func TestWhatIsGivenIsThere(t *testing.T) {
	r := rand.New(rand.NewSource(8))
	for range 200 {
		l := mixedAccts()[:r.Intn(5)]
		for range 30 {
			name := []string{"a", "b", "bb", "c", "d", "e", "f", "g", "h", "i", "j", "k", "l", "m"}[r.Intn(14)]
			n := r.Intn(2+r.Intn(2)*200000) * r.Intn(3)
			got, ok := impl.Credit(l, name, n)
			free, others := 0, len(l)
			if at := impl.AcctAt(l, name); at >= 0 {
				free, others = l[at].Free, others-1
			}
			if fits := impl.Wealth(l)+n <= 1000000 && others < 12; ok != fits {
				t.Fatalf("%d to %q of %v: %v", n, name, l, ok)
			}
			if !ok {
				if !sameAccts(got, l) {
					t.Fatalf("%d to %q of %v: %v", n, name, l, got)
				}
				continue
			}
			if at := impl.AcctAt(got, name); at < 0 || got[at].Free != free+n || len(got) != others+1 {
				t.Fatalf("%d to %q of %v: %v", n, name, l, got)
			}
			if impl.Wealth(got) != impl.Wealth(l)+n || !impl.AcctsOk(got) {
				t.Fatalf("%d to %q of %v: together %d", n, name, l, impl.Wealth(got))
			}
			for _, a := range l {
				if at := impl.AcctAt(got, a.Name); a.Name != name && (at < 0 || !sameAcct(got[at], a)) {
					t.Fatalf("%d to %q of %v: %q changed: %v", n, name, l, a.Name, got)
				}
			}
			l = got
		}
	}
}

// roomyAccts have spare room behind the list, and behind each list of Leaves, in which something lies.
func roomyAccts(l []impl.Acct) ([]impl.Acct, [][]impl.Leave) {
	room := append(cloneAccts(l), impl.Acct{Name: "behind", Free: 77}, impl.Acct{Name: "more", Free: 88})
	var leaves [][]impl.Leave
	for i := range room {
		whole := append(slices.Clone(room[i].Leaves), impl.Leave{Amount: 55, At: 5}, impl.Leave{Amount: 66, At: 6})
		room[i].Leaves = whole[:len(room[i].Leaves)]
		leaves = append(leaves, whole)
	}
	return room, leaves
}

// creditCalls: lists, names and amounts that are taken, and that are refused for each reason.
func creditCalls() []struct {
	l    []impl.Acct
	name string
	n    int
} {
	wrong := append(mixedAccts(), impl.Acct{Name: "g", Leaves: leavesAt(1, 3, 2, 1, 1, 1)})
	return []struct {
		l    []impl.Acct
		name string
		n    int
	}{
		{mixedAccts(), "b", 3}, {mixedAccts(), "g", 0}, {mixedAccts(), "a", 3}, {mixedAccts(), "h", 0}, {mixedAccts(), "f", 1}, {nil, "a", 1},
		{mixedAccts(), "b", -1}, {mixedAccts(), "b", 1000001}, {mixedAccts(), "b", 1000000}, {mixedAccts(), "c", 1000000}, {mixedAccts(), "C", 1}, {mixedAccts(), "", 1},
		{wrong, "b", 1}, {wrong, "a", 0}, {letteredAccts(12, 3), "zz", 1}, {letteredAccts(13, 3), "aa", 1}, {nil, "", 1},
	}
}

func TestAcctsLeaveTheirArguments(t *testing.T) {
	for i, x := range creditCalls() {
		room, leaves := roomyAccts(x.l)
		kept, keptLeaves := cloneAccts(room), [][]impl.Leave{}
		for _, l := range leaves {
			keptLeaves = append(keptLeaves, slices.Clone(l))
		}
		l := room[:len(x.l)]
		impl.AcctsOk(l)
		impl.AcctAt(l, x.name)
		impl.Wealth(l)
		for _, a := range l {
			impl.AcctOk(a)
		}
		got, ok := impl.Credit(l, x.name, x.n)
		want, wantOk := creditWanted(x.l, x.name, x.n)
		if ok != wantOk || !sameAccts(got, want) {
			t.Errorf("%d: what lies behind the lists was read: %v %v", i, got, ok)
		}
		if !sameAccts(room, kept) || !slices.EqualFunc(leaves, keptLeaves, slices.Equal) {
			t.Errorf("%d: wrote into an argument or behind it", i)
		}
		for k := range room {
			room[k] = impl.Acct{}
			clear(leaves[k])
		}
		if !sameAccts(got, want) {
			t.Errorf("%d: the answer shares memory with an argument", i)
		}
	}
}

func TestAcctsReadNothingBehindTheList(t *testing.T) {
	room, _ := roomyAccts(mixedAccts())
	if impl.AcctAt(room[:4], "behind") != -1 || impl.AcctAt(room[:0], "b") != -1 || impl.Wealth(room[:4]) != 40 || !impl.AcctsOk(room[:4]) {
		t.Error("what lies behind the list was read")
	}
}

// No two lists of one answer share memory: what is written to the end of the room of each changes no other one.
func TestAcctsAnswerSharesNothing(t *testing.T) {
	for i, x := range creditCalls() {
		kept := cloneAccts(x.l)
		got, _ := impl.Credit(x.l, x.name, x.n)
		for k := range got {
			before := cloneAccts(got)
			whole := got[k].Leaves[:cap(got[k].Leaves)]
			for at := range whole {
				whole[at] = impl.Leave{Amount: -9, At: -9}
			}
			before[k].Leaves = slices.Clone(got[k].Leaves)
			if !sameAccts(got, before) || !sameAccts(x.l, kept) {
				t.Errorf("%d: the Leaves of the account at %d are shared", i, k)
			}
		}
		whole := got[:cap(got)]
		for at := range whole {
			whole[at] = impl.Acct{Name: "written"}
		}
		if !sameAccts(x.l, kept) {
			t.Errorf("%d: the list is handed out", i)
		}
	}
}

// Two accounts of one list of Leaves come back with two.
func TestAcctsSharedLeavesComeApart(t *testing.T) {
	same := leavesAt(2, 1, 2)
	for _, l := range [][]impl.Acct{
		{{Name: "a", Leaves: same}, {Name: "b", Leaves: same}, {Name: "c", Leaves: same[:1]}},
		{{Name: "b", Leaves: same}, {Name: "a", Leaves: same}},
	} {
		for _, name := range []string{"a", "b", "x", ""} {
			got, _ := impl.Credit(l, name, 1)
			at := impl.AcctAt(got, "a")
			got[at].Leaves[0].Amount = 99
			if got[impl.AcctAt(got, "b")].Leaves[0].Amount != 2 || same[0].Amount != 2 {
				t.Errorf("%q: the Leaves are shared", name)
			}
		}
	}
}

func TestAcctsKeepNothing(t *testing.T) {
	l := mixedAccts()
	first, _ := impl.Credit(l, "c", 4)
	kept := cloneAccts(first)
	for _, x := range creditCalls() {
		got, _ := impl.Credit(x.l, x.name, x.n)
		for k := range got {
			clear(got[k].Leaves)
			got[k] = impl.Acct{}
		}
	}
	again, ok := impl.Credit(l, "c", 4)
	if !ok || !sameAccts(first, kept) || !sameAccts(again, kept) {
		t.Errorf("the second time something else comes: %v, %v", first, again)
	}
	if _, ok := impl.Credit(letteredAccts(12, 1), "zz", 1); ok {
		t.Error("a 13th is taken")
	}
	if got, ok := impl.Credit(letteredAccts(11, 1), "zz", 1); !ok || len(got) != 12 {
		t.Error("what was refused is kept")
	}
}
