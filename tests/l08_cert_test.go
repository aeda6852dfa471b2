package tests

import (
	"fmt"
	"math"
	"math/rand"
	"slices"
	"strings"
	"testing"

	"loop.example/g00194/impl"
)

func qcOf(round, block int, who string) impl.Qc {
	return impl.Qc{Round: round, Block: block, Who: strings.Fields(who)}
}

func tcOf(round int, who string, highs ...int) impl.Tc {
	return impl.Tc{Round: round, Who: strings.Fields(who), Highs: highs}
}

// told reads words of two numbers and a name: "3/7/a" is 3, 7 and a.
func told(s string, take func(round, what int, who string)) {
	for _, word := range strings.Fields(s) {
		var round, what int
		var who string
		if _, err := fmt.Sscanf(strings.ReplaceAll(word, "/", " "), "%d %d %s", &round, &what, &who); err != nil {
			panic(err)
		}
		take(round, what, who)
	}
}

// votesTold: "3/7/a" is a vote of a in the round 3 for the block 7.
func votesTold(s string) []impl.Vote {
	var l []impl.Vote
	told(s, func(round, block int, who string) { l = append(l, impl.Vote{Round: round, Block: block, Who: who}) })
	return l
}

// gonesTold: "3/2/a" is that a left the round 3, and knew a certificate of the round 2.
func gonesTold(s string) []impl.Gone {
	var l []impl.Gone
	told(s, func(round, high int, who string) { l = append(l, impl.Gone{Round: round, High: high, Who: who}) })
	return l
}

func votesBy(round, block int, names []string) []impl.Vote {
	var l []impl.Vote
	for _, name := range names {
		l = append(l, impl.Vote{Round: round, Block: block, Who: name})
	}
	return l
}

func gonesBy(round, high int, names []string) []impl.Gone {
	var l []impl.Gone
	for _, name := range names {
		l = append(l, impl.Gone{Round: round, High: high, Who: name})
	}
	return l
}

func sameQc(a, b impl.Qc) bool {
	return a.Round == b.Round && a.Block == b.Block && slices.Equal(a.Who, b.Who)
}

func sameTc(a, b impl.Tc) bool {
	return a.Round == b.Round && slices.Equal(a.Who, b.Who) && slices.Equal(a.Highs, b.Highs)
}

// signersWanted: as they stand they are sorted, without two alike, and striking out who is in the list leaves no one.
func signersWanted(l []impl.Val, who []string) bool {
	sorted := slices.Clone(who)
	slices.Sort(sorted)
	if len(who) > 20 || !slices.Equal(slices.Compact(sorted), who) {
		return false
	}
	strangers := slices.DeleteFunc(sorted, func(s string) bool { return nameWanted(s) && slices.Contains(namesOf(l), s) })
	return len(strangers) == 0 && quorumWanted(l, who)
}

func qcWanted(l []impl.Val, q impl.Qc) bool {
	if q.Round == 0 {
		return q.Block == -1 && len(q.Who) == 0
	}
	return !outside(q.Round, 1, 10000) && !outside(q.Block, 0, 100000) && signersWanted(l, q.Who)
}

func tcWanted(l []impl.Val, x impl.Tc) bool {
	if x.Round == 0 {
		return len(x.Who) == 0 && len(x.Highs) == 0
	}
	for _, high := range x.Highs {
		if high < 0 || high >= x.Round {
			return false
		}
	}
	return !outside(x.Round, 1, 10000) && len(x.Highs) == len(x.Who) && signersWanted(l, x.Who)
}

func highWanted(x impl.Tc) int {
	sorted := slices.Clone(x.Highs)
	slices.Sort(sorted)
	if len(sorted) == 0 {
		return 0
	}
	return sorted[len(sorted)-1]
}

// gatherQcWanted goes through the votes, and strikes out of the list's names those without one.
func gatherQcWanted(l []impl.Val, votes []impl.Vote, round, block int) (impl.Qc, bool) {
	counted := map[string]int{}
	for _, v := range votes {
		if v.Round == round && v.Block == block {
			counted[v.Who]++
		}
	}
	who := slices.DeleteFunc(namesOf(l), func(s string) bool { return counted[s] == 0 })
	q := impl.Qc{Round: round, Block: block, Who: who}
	if round == 0 || !qcWanted(l, q) {
		return impl.Qc{}, false
	}
	return q, true
}

func gatherTcWanted(l []impl.Val, gones []impl.Gone, round int) (impl.Tc, bool) {
	highest := map[string]int{}
	for _, g := range gones {
		if before, there := highest[g.Who]; g.Round == round && (!there || before < g.High) {
			highest[g.Who] = g.High
		}
	}
	x := impl.Tc{Round: round}
	x.Who = slices.DeleteFunc(namesOf(l), func(s string) bool { _, there := highest[s]; return !there })
	for _, name := range x.Who {
		x.Highs = append(x.Highs, highest[name])
	}
	if round == 0 || !tcWanted(l, x) {
		return impl.Tc{}, false
	}
	return x, true
}

func checkQc(t *testing.T, l []impl.Val, q impl.Qc) bool {
	t.Helper()
	got := impl.QcOk(l, q)
	if got != qcWanted(l, q) {
		t.Errorf("QcOk(%.300v, %.300v): %v", fmt.Sprint(l), fmt.Sprintf("%+v", q), got)
	}
	return got
}

func checkTc(t *testing.T, l []impl.Val, x impl.Tc) bool {
	t.Helper()
	got := impl.TcOk(l, x)
	if got != tcWanted(l, x) {
		t.Errorf("TcOk(%.300v, %.300v): %v", fmt.Sprint(l), fmt.Sprintf("%+v", x), got)
	}
	if got := impl.HighOf(x); got != highWanted(x) {
		t.Errorf("HighOf(%.300v): %d, not %d", fmt.Sprint(x), got, highWanted(x))
	}
	return got
}

func checkGatherQc(t *testing.T, l []impl.Val, votes []impl.Vote, round, block int) (impl.Qc, bool) {
	t.Helper()
	got, ok := impl.GatherQc(l, votes, round, block)
	if want, wantOk := gatherQcWanted(l, votes, round, block); !sameQc(got, want) || ok != wantOk {
		t.Errorf("GatherQc(%.300v, %.300v, %d, %d): %v %v, not %v %v", fmt.Sprint(l), fmt.Sprint(votes), round, block, got, ok, want, wantOk)
	}
	if ok != impl.QcOk(l, got) {
		t.Errorf("GatherQc(%.300v, %.300v, %d, %d): %v %v, but right: %v", fmt.Sprint(l), fmt.Sprint(votes), round, block, got, ok, impl.QcOk(l, got))
	}
	return got, ok
}

func checkGatherTc(t *testing.T, l []impl.Val, gones []impl.Gone, round int) (impl.Tc, bool) {
	t.Helper()
	got, ok := impl.GatherTc(l, gones, round)
	if want, wantOk := gatherTcWanted(l, gones, round); !sameTc(got, want) || ok != wantOk {
		t.Errorf("GatherTc(%.300v, %.300v, %d): %v %v, not %v %v", fmt.Sprint(l), fmt.Sprint(gones), round, got, ok, want, wantOk)
	}
	if ok && !impl.TcOk(l, got) || ok == (got.Round == 0) {
		t.Errorf("GatherTc(%.300v, %.300v, %d): %v %v, right: %v", fmt.Sprint(l), fmt.Sprint(gones), round, got, ok, impl.TcOk(l, got))
	}
	return got, ok
}

func refusesGatherQc(t *testing.T, l []impl.Val, votes []impl.Vote, round, block int) {
	t.Helper()
	if got, ok := checkGatherQc(t, l, votes, round, block); ok || !sameQc(got, impl.Qc{}) {
		t.Errorf("GatherQc(%.300v, %.300v, %d, %d): %v %v", fmt.Sprint(l), fmt.Sprint(votes), round, block, got, ok)
	}
}

func refusesGatherTc(t *testing.T, l []impl.Val, gones []impl.Gone, round int) {
	t.Helper()
	if got, ok := checkGatherTc(t, l, gones, round); ok || !sameTc(got, impl.Tc{}) {
		t.Errorf("GatherTc(%.300v, %.300v, %d): %v %v", fmt.Sprint(l), fmt.Sprint(gones), round, got, ok)
	}
}

// fourVals: three of them are a quorum, two are none.
func fourVals() []impl.Val { return letteredVals(10, 10, 10, 10) }

func greatNumbers() []int {
	return []int{math.MaxInt, math.MaxInt - 1, math.MinInt, math.MinInt + 1, 1 << 32, 1<<32 + 1, -1 << 32, 1 << 62, 1000000, 65536, 65537, -10000, -100000, -2}
}

func TestQcRight(t *testing.T) {
	l := fourVals()
	for _, who := range []string{"a b c", "a b d", "a c d", "b c d", "a b c d"} {
		for _, round := range []int{1, 2, 9999, 10000} {
			for _, block := range []int{0, 1, 4, 99999, 100000} {
				if !checkQc(t, l, qcOf(round, block, who)) || !checkTc(t, l, tcOf(round, who, make([]int, len(strings.Fields(who)))...)) {
					t.Errorf("not right: %q in the round %d, block %d", who, round, block)
				}
			}
		}
	}
	for _, who := range []string{"", "a", "d", "a b", "c d"} {
		if checkQc(t, l, qcOf(3, 4, who)) || checkTc(t, l, tcOf(3, who, make([]int, len(strings.Fields(who)))...)) {
			t.Errorf("no quorum, and right: %q", who)
		}
	}
}

// What signed must stand in the list, once, and in order, whatever it weighs.
func TestSignersNotRight(t *testing.T) {
	l := fourVals()
	for _, who := range []string{
		"a b c z", "0 a b c", "a b bb c", "a b c d e", "b a c", "a c b", "d c b a", "a b c a", "a a b c", "a b b c", "a b c c", "a b c d d", "a b c D", "A a b c", "a b c c-d", "a b c cdefghijk", "w x y z", "a b cc", "aa b c",
	} {
		if checkQc(t, l, qcOf(3, 4, who)) || checkTc(t, l, tcOf(3, who, make([]int, len(strings.Fields(who)))...)) {
			t.Errorf("right: %q", who)
		}
	}
	for _, name := range noNames() {
		for at := range 4 {
			who := slices.Insert([]string{"a", "b", "c"}, at, name)
			sorted := slices.Sorted(slices.Values(who))
			for _, names := range [][]string{who, sorted} {
				if checkQc(t, l, impl.Qc{Round: 3, Block: 4, Who: names}) || checkTc(t, l, impl.Tc{Round: 3, Who: names, Highs: make([]int, 4)}) {
					t.Errorf("right: %.100q", names)
				}
				// Also where such a one stands in the list, and weighs.
				withIt := append(fourVals(), impl.Val{Name: name, Weight: 90})
				if checkQc(t, withIt, impl.Qc{Round: 3, Block: 4, Who: names}) || checkTc(t, withIt, impl.Tc{Round: 3, Who: names, Highs: make([]int, 4)}) {
					t.Errorf("right: %.100q", names)
				}
			}
		}
	}
}

// The root's is right whoever votes; it is the only one of the round 0, and of the block -1.
func TestQcOfTheRoot(t *testing.T) {
	lists := append(quorumSets(), wrongSets()...)
	for _, l := range lists {
		for _, root := range []impl.Qc{{Block: -1}, {Block: -1, Who: []string{}}, {Block: -1, Who: namesOf(fourVals())[:0]}} {
			if !checkQc(t, l, root) {
				t.Errorf("the root's is not right of %.200v", fmt.Sprint(l))
			}
		}
		for _, round := range append(greatNumbers(), 1, -1, 2, 10000, 10001) {
			if checkQc(t, l, impl.Qc{Round: round, Block: -1}) || checkQc(t, l, impl.Qc{Round: round, Block: -1, Who: namesOf(l)}) {
				t.Errorf("the block -1 of the round %d is right of %.200v", round, fmt.Sprint(l))
			}
		}
		for _, block := range append(greatNumbers(), 0, 1, -2, 100000, 100001) {
			if checkQc(t, l, impl.Qc{Block: block}) || checkQc(t, l, impl.Qc{Block: block, Who: namesOf(l)}) && len(l) > 0 {
				t.Errorf("the block %d of the round 0 is right of %.200v", block, fmt.Sprint(l))
			}
		}
		for _, who := range [][]string{{""}, {"a"}, {"z"}, {"a", "b"}, append(namesOf(l), "zzz")} {
			if checkQc(t, l, impl.Qc{Block: -1, Who: who}) {
				t.Errorf("the root's with %q is right of %.200v", who, fmt.Sprint(l))
			}
		}
	}
	if checkQc(t, fourVals(), impl.Qc{}) || checkQc(t, nil, impl.Qc{}) || checkQc(t, fourVals(), qcOf(0, -1, "a b c")) || checkQc(t, fourVals(), qcOf(0, 0, "a b c d")) {
		t.Error("what is not the root's is right in its round")
	}
}

func TestQcRoundsAndBlocks(t *testing.T) {
	l, who := fourVals(), "a b c"
	for round, want := range map[int]bool{-1: false, 0: false, 1: true, 2: true, 9999: true, 10000: true, 10001: false, 10002: false} {
		if checkQc(t, l, qcOf(round, 4, who)) != want || checkTc(t, l, tcOf(round, who, 0, 0, 0)) != want {
			t.Errorf("the round %d", round)
		}
	}
	for block, want := range map[int]bool{-2: false, -1: false, 0: true, 1: true, 99999: true, 100000: true, 100001: false, 100002: false} {
		if checkQc(t, l, qcOf(3, block, who)) != want {
			t.Errorf("the block %d", block)
		}
	}
	for _, n := range greatNumbers() {
		if checkQc(t, l, qcOf(n, 4, who)) || checkTc(t, l, tcOf(n, who, 0, 0, 0)) {
			t.Errorf("the round %d is right", n)
		}
		if !outside(n, 0, 100000) {
			continue
		}
		if checkQc(t, l, qcOf(3, n, who)) || checkQc(t, l, qcOf(n, n, who)) {
			t.Errorf("the block %d is right", n)
		}
	}
}

// None has no round, no name and no High: with any one of them it is another, and not right.
func TestTcThatIsNone(t *testing.T) {
	for _, l := range append(quorumSets(), wrongSets()...) {
		for _, none := range []impl.Tc{{}, {Who: []string{}, Highs: []int{}}, {Who: namesOf(fourVals())[:0], Highs: []int{7}[:0]}} {
			if !checkTc(t, l, none) || impl.HighOf(none) != 0 {
				t.Errorf("none is not right of %.200v", fmt.Sprint(l))
			}
		}
		for _, who := range [][]string{{""}, {"a"}, {"z"}, {"a", "b"}, append(namesOf(l), "zzz")} {
			if checkTc(t, l, impl.Tc{Who: who}) || checkTc(t, l, impl.Tc{Who: who, Highs: make([]int, len(who))}) {
				t.Errorf("without a round, with %q, it is right of %.200v", who, fmt.Sprint(l))
			}
		}
		for _, highs := range [][]int{{0}, {-1}, {1}, {0, 0}, make([]int, len(l)+1)} {
			if checkTc(t, l, impl.Tc{Highs: highs}) {
				t.Errorf("without a round, with %v, it is right of %.200v", highs, fmt.Sprint(l))
			}
		}
		if impl.SetOk(l) && (checkTc(t, l, impl.Tc{Round: 1}) || checkTc(t, l, impl.Tc{Round: -1}) || checkTc(t, l, impl.Tc{Round: 10000}) || checkTc(t, l, impl.Tc{Who: namesOf(l), Highs: make([]int, len(l))})) {
			t.Errorf("a round alone, or all but a round, is right of %v", l)
		}
	}
}

func TestTcHighs(t *testing.T) {
	l := fourVals()
	for _, round := range []int{1, 2, 3, 9999, 10000} {
		for high, want := range map[int]bool{-2: false, -1: false, 0: true, round - 1: true, round: false, round + 1: false, math.MaxInt: false, math.MinInt: false} {
			for at := range 3 {
				highs := make([]int, 3)
				highs[at] = high
				if checkTc(t, l, tcOf(round, "a c d", highs...)) != want {
					t.Errorf("the round %d, a High of %d at %d", round, high, at)
				}
			}
			if checkTc(t, l, tcOf(round, "a b c d", high, high, high, high)) != want {
				t.Errorf("the round %d, all Highs %d", round, high)
			}
		}
	}
	for n := range 12 {
		if checkTc(t, l, tcOf(3, "a b c", make([]int, n)...)) != (n == 3) || checkTc(t, l, tcOf(3, "a b c d", make([]int, n)...)) != (n == 4) || checkTc(t, l, tcOf(3, "a b", make([]int, n)...)) {
			t.Errorf("%d Highs", n)
		}
	}
	// Highs in any order, alike or not.
	for _, highs := range [][]int{{0, 1, 2}, {2, 1, 0}, {2, 2, 2}, {0, 2, 0}} {
		if !checkTc(t, l, tcOf(3, "b c d", highs...)) {
			t.Errorf("not right: %v", highs)
		}
	}
}

// Just two thirds of the weight sign nothing; what is the least bit more does.
func TestCertsOfJustTwoThirds(t *testing.T) {
	for _, total := range []int{2, 3, 4, 5, 6, 30, 31, 99, 100, 101, 299999, 300000, 300001, 999999, 1000000, 1000001, 1500000} {
		most := 2 * total / 3
		for w := max(most-1, 1); w <= min(most+1, total-1, 1000000); w++ {
			l, want := letteredVals(w, total-w), w > most
			if checkQc(t, l, qcOf(1, 0, "a")) != want || checkTc(t, l, tcOf(1, "a", 0)) != want {
				t.Errorf("%d of %d: not %v", w, total, want)
			}
			_, voted := checkGatherQc(t, l, votesTold("1/0/a 1/1/b 2/0/b"), 1, 0)
			_, left := checkGatherTc(t, l, gonesTold("1/0/a 2/0/b"), 1)
			if voted != want || left != want {
				t.Errorf("%d of %d: gathered %v, %v", w, total, voted, left)
			}
		}
	}
	for k, want := range []bool{false, false, false, true, true} {
		names := namesOf(fourVals())[:k]
		_, voted := checkGatherQc(t, fourVals(), votesBy(3, 4, names), 3, 4)
		_, left := checkGatherTc(t, fourVals(), gonesBy(3, 1, names), 3)
		if voted != want || left != want {
			t.Errorf("%d of four: %v, %v", k, voted, left)
		}
	}
}

func TestHighOf(t *testing.T) {
	for _, x := range []struct {
		highs []int
		want  int
	}{
		{nil, 0}, {[]int{}, 0}, {[]int{9, 8}[:0], 0}, {[]int{0}, 0}, {[]int{7}, 7}, {[]int{1, 2, 3}, 3}, {[]int{3, 2, 1}, 3}, {[]int{1, 3, 2}, 3}, {[]int{2, 2}, 2}, {[]int{0, 0, 9999}, 9999}, {[]int{1, 2, 9}[:2], 2},
		// Of a Tc that is not right, too, it is the greatest of those that are there.
		{[]int{-1}, -1}, {[]int{-5, -3, -9}, -3}, {[]int{-1, 0}, 0}, {[]int{math.MinInt}, math.MinInt}, {[]int{math.MinInt, math.MaxInt, 0}, math.MaxInt}, {[]int{math.MaxInt, math.MaxInt - 1}, math.MaxInt},
	} {
		for _, c := range []impl.Tc{{Highs: x.highs}, tcOf(3, "a b c", x.highs...), tcOf(-1, "b a", x.highs...), tcOf(10001, "", x.highs...)} {
			if got := impl.HighOf(c); got != x.want || got != highWanted(c) {
				t.Errorf("%v: %d, not %d", c, got, x.want)
			}
		}
	}
	many := make([]int, 5000)
	for i := range many {
		many[i] = i * 7919 % 5003
	}
	if got := impl.HighOf(impl.Tc{Highs: many}); got != slices.Max(many) {
		t.Error("of five thousand:", got)
	}
}

func TestGatherQc(t *testing.T) {
	l := fourVals()
	votes := votesTold("1/4/d 1/5/a 2/4/b 1/4/a 3/4/c 1/4/z 2/9/d 1/4/c 2/9/a 2/9/b 5/9/c 1/5/b")
	for _, x := range []struct {
		round, block int
		who          string
	}{
		{1, 4, "a c d"}, {2, 9, "a b d"}, {1, 5, ""}, {2, 4, ""}, {3, 4, ""}, {5, 9, ""}, {1, 9, ""}, {4, 1, ""}, {9, 2, ""}, {4, 4, ""}, {0, 0, ""}, {0, -1, ""}, {0, 4, ""}, {1, -1, ""},
	} {
		got, ok := checkGatherQc(t, l, votes, x.round, x.block)
		want := impl.Qc{}
		if x.who != "" {
			want = qcOf(x.round, x.block, x.who)
		}
		if ok != (x.who != "") || !sameQc(got, want) {
			t.Errorf("the round %d, the block %d: %v %v", x.round, x.block, got, ok)
		}
	}
	votes = append(votes, votesTold("1/5/c 1/4/b")...)
	if got, ok := checkGatherQc(t, l, votes, 1, 4); !ok || !sameQc(got, qcOf(1, 4, "a b c d")) {
		t.Error("all of them:", got, ok)
	}
	if got, ok := checkGatherQc(t, l, votes, 1, 5); !ok || !sameQc(got, qcOf(1, 5, "a b c")) {
		t.Error("those who voted for another, too:", got, ok)
	}
}

// What is gathered is in the order of the list, in whatever order the votes came.
func TestGatherInTheOrderOfTheList(t *testing.T) {
	l := valsTold("0:3 9:3 a:3 ab:3 b:3")
	r := rand.New(rand.NewSource(21))
	for range 200 {
		names := namesOf(l)
		r.Shuffle(len(names), func(i, j int) { names[i], names[j] = names[j], names[i] })
		names = names[:4]
		want := slices.Sorted(slices.Values(names))
		q, ok := checkGatherQc(t, l, votesBy(7, 2, names), 7, 2)
		if !ok || !slices.Equal(q.Who, want) {
			t.Errorf("%q: %v %v", names, q, ok)
		}
		var gones []impl.Gone
		for _, name := range names {
			gones = append(gones, impl.Gone{Round: 7, High: slices.Index(want, name), Who: name})
		}
		if x, ok := checkGatherTc(t, l, gones, 7); !ok || !slices.Equal(x.Who, want) || !slices.Equal(x.Highs, []int{0, 1, 2, 3}) {
			t.Errorf("%v: %v %v", gones, x, ok)
		}
	}
}

// Who signs several times counts once; who is not in the list, or is no name, not at all.
func TestGatherOnceAndThere(t *testing.T) {
	l := fourVals()
	for votes, want := range map[string]string{
		"3/4/a 3/4/a 3/4/a": "", "3/4/a 3/4/b 3/4/a 3/4/b": "", "3/4/a 3/4/b 3/5/c": "", "3/4/a 3/4/b 2/4/c 4/4/d": "", "3/4/a 3/4/b 3/4/z": "", "3/4/x 3/4/y 3/4/z": "", "3/4/a 3/4/b 3/4/C 3/4/D": "", "3/4/a 3/4/b 3/4/cd": "",
		"3/4/a 3/4/b 3/4/a 3/4/c": "a b c", "3/4/c 3/4/c 3/4/b 3/4/b 3/4/a 3/4/a": "a b c", "3/5/a 3/4/a 3/4/b 3/5/b 3/4/d": "a b d", "3/4/z 3/4/d 3/4/A 3/4/c 3/4/y 3/4/b 3/4/abcdefghi": "b c d", "2/4/a 3/4/a 3/4/b 4/4/b 3/4/c 3/3/c": "a b c",
	} {
		q, voted := checkGatherQc(t, l, votesTold(votes), 3, 4)
		if voted != (want != "") || strings.Join(q.Who, " ") != want {
			t.Errorf("%q: %v %v", votes, q, voted)
		}
		var gones []impl.Gone
		for _, v := range votesTold(votes) {
			gones = append(gones, impl.Gone{Round: v.Round*100 + v.Block, High: 1, Who: v.Who})
		}
		x, left := checkGatherTc(t, l, gones, 304)
		if left != (want != "") || strings.Join(x.Who, " ") != want {
			t.Errorf("%q, as leavings: %v %v", votes, x, left)
		}
	}
	for _, name := range append(noNames(), "z", "aa", "e") {
		signers := []string{"a", name, "b"}
		refusesGatherQc(t, l, votesBy(3, 4, signers), 3, 4)
		refusesGatherTc(t, l, gonesBy(3, 1, signers), 3)
		q, voted := checkGatherQc(t, l, votesBy(3, 4, append(signers, "d")), 3, 4)
		x, left := checkGatherTc(t, l, gonesBy(3, 1, append(signers, "d")), 3)
		if !voted || !left || !slices.Equal(q.Who, []string{"a", "b", "d"}) || !slices.Equal(x.Who, q.Who) {
			t.Errorf("%.100q beside a quorum: %v, %v", name, q, x)
		}
	}
}

// One who votes for two blocks of a round helps both, and each of them needs its own quorum.
func TestGatherOfOneWhoVotesTwice(t *testing.T) {
	l := fourVals()
	votes := votesTold("3/4/a 3/4/b 3/5/c 3/5/b 3/5/d")
	refusesGatherQc(t, l, votes, 3, 4)
	if q, ok := checkGatherQc(t, l, votes, 3, 5); !ok || !sameQc(q, qcOf(3, 5, "b c d")) {
		t.Error("the one for which there are three:", q, ok)
	}
	votes = append(votes, votesTold("3/4/c")...)
	first, ok := checkGatherQc(t, l, votes, 3, 4)
	second, ok2 := checkGatherQc(t, l, votes, 3, 5)
	if !ok || !ok2 || !sameQc(first, qcOf(3, 4, "a b c")) || !sameQc(second, qcOf(3, 5, "b c d")) {
		t.Error("two of them voted for both:", first, second)
	}
}

func TestGatherTc(t *testing.T) {
	l := fourVals()
	gones := gonesTold("3/1/a 3/2/a 3/0/a 2/1/c 3/0/b 4/3/b 3/1/d 3/1/d 5/4/c 3/2/z 4/1/a 4/2/d 4/0/d")
	for _, x := range []struct {
		round int
		want  impl.Tc
	}{
		{3, tcOf(3, "a b d", 2, 0, 1)}, {4, tcOf(4, "a b d", 1, 3, 2)}, {2, impl.Tc{}}, {5, impl.Tc{}}, {1, impl.Tc{}}, {0, impl.Tc{}}, {-1, impl.Tc{}}, {6, impl.Tc{}},
	} {
		got, ok := checkGatherTc(t, l, gones, x.round)
		if ok != (x.want.Round > 0) || !sameTc(got, x.want) || impl.HighOf(got) != max(x.round-1, 0)*min(x.want.Round, 1) {
			t.Errorf("the round %d: %v %v, its High %d", x.round, got, ok, impl.HighOf(got))
		}
	}
	if got, ok := checkGatherTc(t, l, append(gones, gonesTold("3/0/c 3/1/b")...), 3); !ok || !sameTc(got, tcOf(3, "a b c d", 2, 1, 0, 1)) {
		t.Error("all of them:", got, ok)
	}
}

// Of one who left several times the greatest High counts, in whatever order they came, and whatever the others are.
func TestGatherTcGreatestHigh(t *testing.T) {
	l := fourVals()
	for _, highs := range [][]int{{0, 1, 2, 8}, {8, 2, 1, 0}, {1, 8, 0, 8}, {8}, {8, 8}, {-1, 8}, {8, -9}, {math.MinInt, 8, -1}} {
		gones := gonesTold("9/0/a 9/3/d 8/7/b 10/9/b 10/9/a")
		for _, high := range highs {
			gones = append(gones, impl.Gone{Round: 9, High: high, Who: "b"})
		}
		if x, ok := checkGatherTc(t, l, gones, 9); !ok || !sameTc(x, tcOf(9, "a b d", 0, 8, 3)) || impl.HighOf(x) != 8 {
			t.Errorf("%v: %v %v", highs, x, ok)
		}
	}
	for _, highs := range [][]int{{9}, {0, 9}, {9, 0}, {10, 8}, {math.MaxInt, 1}, {-1}, {-1, -2}, {math.MinInt}} {
		gones := gonesTold("9/0/a 9/3/d")
		for _, high := range highs {
			gones = append(gones, impl.Gone{Round: 9, High: high, Who: "b"})
		}
		refusesGatherTc(t, l, gones, 9)
		// Also where the others are a quorum without that one: all who left are in it.
		refusesGatherTc(t, l, append(gones, gonesTold("9/1/c")...), 9)
		// One who is not in the list may tell what it likes.
		for i := range gones[2:] {
			gones[2+i].Who = "z"
		}
		if x, ok := checkGatherTc(t, l, append(gones, gonesTold("9/1/c")...), 9); !ok || !sameTc(x, tcOf(9, "a c d", 0, 1, 3)) {
			t.Errorf("%v of one who is not in the list: %v %v", highs, x, ok)
		}
	}
}

// Without votes, leavings or a list there is nothing to gather, not even the root's or none.
func TestGatherNothing(t *testing.T) {
	for _, l := range append(quorumSets(), nil, []impl.Val{}, fourVals()[:0]) {
		for _, round := range []int{0, 1, 2, 10000, 10001, -1} {
			for _, block := range []int{-1, 0, 1, 100000, 100001, -2} {
				refusesGatherQc(t, l, nil, round, block)
				refusesGatherQc(t, l, []impl.Vote{}, round, block)
				refusesGatherQc(t, l, votesBy(3, 4, namesOf(l)), round, block)
			}
			refusesGatherTc(t, l, nil, round)
			refusesGatherTc(t, l, []impl.Gone{}, round)
			refusesGatherTc(t, l, gonesBy(3, 1, namesOf(l)), round)
		}
	}
	for _, none := range [][]impl.Val{nil, {}, fourVals()[:0]} {
		refusesGatherQc(t, none, votesTold("3/4/a 3/4/b 3/4/c 3/4/d"), 3, 4)
		refusesGatherTc(t, none, gonesTold("3/1/a 3/1/b 3/1/c 3/1/d"), 3)
		if checkQc(t, none, qcOf(3, 4, "a b c")) || checkQc(t, none, qcOf(3, 4, "")) || checkTc(t, none, tcOf(3, "a", 1)) || checkTc(t, none, tcOf(3, "")) {
			t.Error("right without anyone who votes")
		}
	}
}

// Also where all of the list voted so: a round and a block must be as the chapter wants them.
func TestGatherRoundsAndBlocks(t *testing.T) {
	l := fourVals()
	names := namesOf(l)
	for _, round := range append(greatNumbers(), -1, 0, 1, 2, 9999, 10000, 10001) {
		for _, block := range append(greatNumbers(), -1, 0, 1, 99999, 100000, 100001) {
			want := !outside(round, 1, 10000) && !outside(block, 0, 100000)
			q, ok := checkGatherQc(t, l, votesBy(round, block, names), round, block)
			if ok != want || want && !sameQc(q, impl.Qc{Round: round, Block: block, Who: names}) {
				t.Errorf("the round %d, the block %d: %v %v", round, block, q, ok)
			}
		}
		for _, high := range []int{-1, 0, round - 1, round} {
			want := !outside(round, 1, 10000) && !outside(high, 0, round-1)
			x, ok := checkGatherTc(t, l, gonesBy(round, high, names), round)
			if ok != want || want && !sameTc(x, impl.Tc{Round: round, Who: names, Highs: slices.Repeat([]int{high}, 4)}) {
				t.Errorf("the round %d, all Highs %d: %v %v", round, high, x, ok)
			}
		}
	}
	refusesGatherQc(t, l, votesBy(0, -1, names), 0, -1)
	refusesGatherQc(t, l, votesBy(0, 0, names), 0, 0)
	refusesGatherTc(t, l, gonesBy(0, 0, names), 0)
	refusesGatherTc(t, l, gonesBy(0, -1, names), 0)
}

// The promise itself: whoever of a list votes for a block, its certificate is of just these, and is there just if they are a quorum.
func TestACertificateIsOfThoseWhoVoted(t *testing.T) {
	gathered := 0
	for _, l := range quorumSets() {
		for mask := range 1 << len(l) {
			names := namesOfMask(l, mask)
			others := namesOfMask(l, ^mask)
			votes := slices.Concat(votesBy(5, 8, others), votesBy(5, 7, names), votesBy(6, 7, others), votesBy(5, 7, []string{"nobody"}))
			q, ok := impl.GatherQc(l, votes, 5, 7)
			if ok != impl.IsQuorum(l, names) || ok && !sameQc(q, impl.Qc{Round: 5, Block: 7, Who: names}) || !ok && !sameQc(q, impl.Qc{}) || ok && !impl.QcOk(l, q) {
				t.Fatalf("%v: %q voted: %v %v", l, names, q, ok)
			}
			gones := slices.Concat(gonesBy(4, 3, others), gonesBy(5, 2, names), gonesBy(6, 2, others), gonesBy(5, 4, []string{"nobody"}))
			x, left := impl.GatherTc(l, gones, 5)
			if left != ok || left && !sameTc(x, impl.Tc{Round: 5, Who: names, Highs: slices.Repeat([]int{2}, len(names))}) || !left && !sameTc(x, impl.Tc{}) || left && !impl.TcOk(l, x) {
				t.Fatalf("%v: %q left: %v %v", l, names, x, left)
			}
			if ok {
				gathered++
				// Each votes once a round here: then no other block of the round has a certificate.
				if other, ok := impl.GatherQc(l, votes, 5, 8); ok {
					t.Fatalf("%v: two certificates of one round: %v, %v", l, q, other)
				}
			}
		}
	}
	if gathered < 1000 {
		t.Error("too few certificates:", gathered)
	}
}

// Two certificates of one round are of more than a third of the weight, that signed both.
func TestTwoCertificatesOfOneRound(t *testing.T) {
	r := rand.New(rand.NewSource(22))
	pairs := 0
	for range 4000 {
		l := quorumSets()[r.Intn(22)]
		var votes []impl.Vote
		for _, name := range namesOf(l) {
			for block := range 2 {
				if r.Intn(8) > 0 {
					votes = append(votes, impl.Vote{Round: 1, Block: block, Who: name})
				}
			}
		}
		p, ok := checkGatherQc(t, l, votes, 1, 0)
		q, ok2 := checkGatherQc(t, l, votes, 1, 1)
		if !ok || !ok2 {
			continue
		}
		pairs++
		both := slices.DeleteFunc(slices.Clone(p.Who), func(s string) bool { return !slices.Contains(q.Who, s) })
		if 3*impl.WeightOf(l, both) <= impl.TotalOf(l) {
			t.Fatalf("%v: %v and %v", l, p, q)
		}
	}
	if pairs < 500 {
		t.Error("too few pairs:", pairs)
	}
}

func TestCertsHowManyNames(t *testing.T) {
	for n := range 30 {
		// More than twelve are no right list, but the chapter takes them up to as many as may be named.
		l := alikeVals(n, 5)
		want := n >= 1 && n <= 20
		if checkQc(t, l, impl.Qc{Round: 1, Block: 0, Who: namesOf(l)}) != want || checkTc(t, l, impl.Tc{Round: 1, Who: namesOf(l), Highs: make([]int, n)}) != want {
			t.Errorf("%d names: not %v", n, want)
		}
		q, voted := checkGatherQc(t, l, votesBy(1, 0, namesOf(l)), 1, 0)
		x, left := checkGatherTc(t, l, gonesBy(1, 0, namesOf(l)), 1)
		if voted != want || left != want || len(q.Who) != len(x.Who) || want && len(q.Who) != n {
			t.Errorf("%d who signed: %v, %v", n, q, x)
		}
	}
	l := alikeVals(22, 5)
	if q, ok := checkGatherQc(t, l, votesBy(1, 0, manyNames(20)), 1, 0); !ok || len(q.Who) != 20 {
		t.Error("twenty of twenty-two:", q, ok)
	}
	refusesGatherQc(t, l, votesBy(1, 0, manyNames(21)), 1, 0)
}

// The chapter gives no answer of its own to a list that is not right: it is taken as it stands.
func TestCertsOfListsNotRight(t *testing.T) {
	for _, l := range wrongSets() {
		for _, names := range [][]string{nil, {"a"}, {"b"}, {"a", "b"}, {"a", "b", "c"}, {"b", "a"}, {"a", "a"}, {""}, {"A", "B"}, {"\xff"}, manyNames(9), manyNames(13), manyNames(300), namesOf(l)} {
			for _, round := range []int{0, 1, 10000, 10001} {
				checkQc(t, l, impl.Qc{Round: round, Block: 0, Who: names})
				checkTc(t, l, impl.Tc{Round: round, Who: names, Highs: make([]int, len(names))})
				checkGatherQc(t, l, votesBy(round, 0, names), round, 0)
				checkGatherTc(t, l, gonesBy(round, 0, names), round)
			}
			refusesGatherQc(t, l, nil, 0, -1)
			refusesGatherTc(t, l, nil, 0)
		}
	}
	unsorted := valsTold("b:3 a:3 c:3")
	if !checkQc(t, unsorted, qcOf(1, 0, "a b c")) || checkQc(t, unsorted, qcOf(1, 0, "b a c")) {
		t.Error("names must be ascending, the list of them need not")
	}
	// What is gathered in the order of such a list is not ascending, so it is not right.
	refusesGatherQc(t, unsorted, votesBy(1, 0, []string{"a", "b", "c"}), 1, 0)
	refusesGatherTc(t, unsorted, gonesBy(1, 0, []string{"a", "b", "c"}), 1)
	twice := valsTold("a:3 b:1 b:1 c:1")
	if !checkQc(t, twice, qcOf(1, 0, "a b")) {
		t.Error("each of two of one name weighs")
	}
	refusesGatherQc(t, twice, votesTold("1/0/a 1/0/b 1/0/c"), 1, 0)
	refusesGatherTc(t, twice, gonesTold("1/0/a 1/0/b 1/0/c"), 1)
	if q, ok := checkGatherQc(t, valsTold("a:9 b:1 b:1 c:1"), votesTold("1/0/c 1/0/a"), 1, 0); !ok || !sameQc(q, qcOf(1, 0, "a c")) {
		t.Error("those who stand there once voted alone:", q, ok)
	}
}

// Very great weights: what signed is held against all of it rightly, as in chapter 7.
func TestCertsOfGreatWeights(t *testing.T) {
	third := math.MaxInt / 3
	for _, x := range []struct {
		l    []impl.Val
		want bool
	}{
		{letteredVals(math.MaxInt), true}, {letteredVals(math.MaxInt - 1), true}, {letteredVals(2*third, third), false}, {letteredVals(2*third+1, third-1), true}, {letteredVals(2*third-1, third+1), false},
		{letteredVals(math.MinInt), false}, {letteredVals(math.MinInt, 1), false}, {letteredVals(0), false}, {letteredVals(1, math.MaxInt-1), false},
	} {
		_, voted := checkGatherQc(t, x.l, votesTold("1/0/a"), 1, 0)
		_, left := checkGatherTc(t, x.l, gonesTold("1/0/a"), 1)
		if voted != x.want || left != x.want || checkQc(t, x.l, qcOf(1, 0, "a")) != x.want || checkTc(t, x.l, tcOf(1, "a", 0)) != x.want {
			t.Errorf("%v: not %v", x.l, x.want)
		}
	}
}

func TestGatherOfVeryMany(t *testing.T) {
	l := alikeVals(12, 1000000)
	votes := slices.Repeat(votesTold("3/4/a 3/5/n1000 2/4/n1001 3/4/n1002"), 5000)
	gones := slices.Repeat(gonesTold("3/1/a 2/1/n1000 4/1/n1001 3/1/n1002 3/2/n1002"), 5000)
	refusesGatherQc(t, l, votes, 3, 4)
	refusesGatherTc(t, l, gones, 3)
	votes = append(votes, votesBy(3, 4, namesOf(l)[3:11])...)
	gones = append(gones, gonesBy(3, 0, namesOf(l)[3:11])...)
	q, voted := checkGatherQc(t, l, votes, 3, 4)
	x, left := checkGatherTc(t, l, gones, 3)
	if !voted || !left || !slices.Equal(q.Who, namesOf(l)[2:11]) || !slices.Equal(x.Who, q.Who) || x.Highs[0] != 2 || impl.HighOf(x) != 2 {
		t.Error("nine of twelve:", q, x)
	}
}

// pick takes one of these, more often one of the first few.
func pick(r *rand.Rand, often int, l ...int) int {
	if r.Intn(12) > 0 {
		return l[r.Intn(often)]
	}
	return l[r.Intn(len(l))]
}

func anyRound(r *rand.Rand) int {
	return pick(r, 2, 1, 2, 0, 3, 10000, 10001, -1, math.MaxInt, math.MinInt)
}

func anyBlock(r *rand.Rand) int {
	return pick(r, 2, 0, 1, -1, 100000, 100001, -2, math.MaxInt, math.MinInt)
}

func anyHigh(r *rand.Rand) int {
	return pick(r, 2, 0, 0, 1, 2, -1, 9999, 10000, math.MaxInt, math.MinInt)
}

func TestCertsOfAnything(t *testing.T) {
	r := rand.New(rand.NewSource(23))
	qcs, tcs := 0, 0
	for range 30000 {
		l := anyVals(r)
		var who []string
		for range r.Intn(9) {
			who = append(who, anyVoter(r))
		}
		if r.Intn(3) > 0 {
			who = namesOfMask(l, r.Int()|r.Int()|r.Int())
		}
		if r.Intn(4) > 0 {
			slices.Sort(who)
			who = slices.Compact(who)
		}
		highs := []int{}
		for range len(who) + pick(r, 1, 0, 1, 2) {
			highs = append(highs, anyHigh(r))
		}
		if checkQc(t, l, impl.Qc{Round: anyRound(r), Block: anyBlock(r), Who: who}) {
			qcs++
		}
		if checkTc(t, l, impl.Tc{Round: anyRound(r), Who: who, Highs: highs}) {
			tcs++
		}
	}
	if qcs < 1000 || tcs < 1000 {
		t.Errorf("too few are right: %d and %d", qcs, tcs)
	}
}

func TestGatherOfAnything(t *testing.T) {
	r := rand.New(rand.NewSource(24))
	qcs, tcs := 0, 0
	for range 30000 {
		l := anyVals(r)
		var votes []impl.Vote
		var gones []impl.Gone
		for range r.Intn(40) {
			votes = append(votes, impl.Vote{Round: anyRound(r), Block: anyBlock(r), Who: anyVoter(r)})
			gones = append(gones, impl.Gone{Round: anyRound(r), High: anyHigh(r), Who: anyVoter(r)})
		}
		if _, ok := checkGatherQc(t, l, votes, anyRound(r), anyBlock(r)); ok {
			qcs++
		}
		if _, ok := checkGatherTc(t, l, gones, anyRound(r)); ok {
			tcs++
		}
	}
	if qcs < 1000 || tcs < 1000 {
		t.Errorf("too few are gathered: %d and %d", qcs, tcs)
	}
}

// A certCall is all that chapter 8 can be asked of some arguments.
type certCall struct {
	l            []impl.Val
	q            impl.Qc
	x            impl.Tc
	votes        []impl.Vote
	gones        []impl.Gone
	round, block int
}

func certCalls() []certCall {
	root, none := impl.Qc{Block: -1}, impl.Tc{}
	votes, gones := votesTold("3/4/d 3/5/c 3/4/a 2/4/c 3/4/b 3/4/b"), gonesTold("3/2/d 3/1/a 2/0/c 3/0/b 3/2/a")
	return []certCall{
		{fourVals(), qcOf(3, 4, "a b c"), tcOf(3, "a b c d", 0, 2, 1, 0), votes, gones, 3, 4},
		{fourVals(), qcOf(3, 4, "a b"), tcOf(3, "a b c", 0, 2), votes[:3], gones[:2], 3, 4},
		{fourVals(), qcOf(3, 4, "c b a"), tcOf(3, "b a c", 9, 0, -1), votes, gones, 2, 5},
		{fourVals(), root, none, nil, nil, 0, -1},
		{fourVals(), qcOf(0, -1, "a b c"), tcOf(0, "a b c", 0, 0, 0), votesBy(0, -1, namesOf(fourVals())), gonesBy(0, 0, namesOf(fourVals())), 0, -1},
		{fourVals(), qcOf(10001, 4, "a b c d"), tcOf(10001, "a b c d", 0, 0, 0, 0), votesBy(10001, 4, namesOf(fourVals())), gonesBy(10001, 0, namesOf(fourVals())), 10001, 4},
		{valsTold("a:2 b:1 c:7"), qcOf(1, 0, "b c"), tcOf(1, "b c", 0, 0), votesTold("1/0/c 1/0/b"), gonesTold("1/0/c 1/0/b"), 1, 0},
		{valsTold("b:2 a:1 c:7"), qcOf(1, 0, "b c"), tcOf(1, "b c", 0, 0), votesTold("1/0/c 1/0/b 1/0/a"), gonesTold("1/0/c 1/0/b 1/0/a"), 1, 0},
		{valsTold("a:2 a:1 c:7"), qcOf(1, 0, "a c"), tcOf(1, "a c", 0, 0), votesTold("1/0/c 1/0/a"), gonesTold("1/0/c 1/0/a"), 1, 0},
		{alikeVals(12, 9), impl.Qc{Round: 9, Block: 9, Who: manyNames(12)}, impl.Tc{Round: 9, Who: manyNames(12), Highs: make([]int, 12)}, votesBy(9, 9, manyNames(12)), gonesBy(9, 8, manyNames(12)), 9, 9},
		{nil, root, none, votes, gones, 3, 4},
	}
}

// ask asks everything, and tells it by one text.
func (c certCall) ask() string {
	q, voted := impl.GatherQc(c.l, c.votes, c.round, c.block)
	x, left := impl.GatherTc(c.l, c.gones, c.round)
	return fmt.Sprintf("%v %v %d, %+v %v, %+v %v", impl.QcOk(c.l, c.q), impl.TcOk(c.l, c.x), impl.HighOf(c.x), q, voted, x, left)
}

func (c certCall) wanted() string {
	q, voted := gatherQcWanted(c.l, c.votes, c.round, c.block)
	x, left := gatherTcWanted(c.l, c.gones, c.round)
	return fmt.Sprintf("%v %v %d, %+v %v, %+v %v", qcWanted(c.l, c.q), tcWanted(c.l, c.x), highWanted(c.x), q, voted, x, left)
}

// roomy lays what would change an answer behind each list, in its spare room.
func (c certCall) roomy() certCall {
	c.l = append(slices.Clone(c.l), impl.Val{Name: "a", Weight: 900}, impl.Val{Name: "zz", Weight: 900})
	c.q.Who = append(slices.Clone(c.q.Who), "zz", "a")
	c.x.Who = append(slices.Clone(c.x.Who), "zz", "a")
	c.x.Highs = append(slices.Clone(c.x.Highs), 77, -1)
	for _, name := range []string{"a", "b", "c", "d", "zz"} {
		c.votes = append(slices.Clone(c.votes), impl.Vote{Round: c.round, Block: c.block, Who: name})
		c.gones = append(slices.Clone(c.gones), impl.Gone{Round: c.round, High: max(c.round, 1) - 1, Who: name})
	}
	return c
}

// cutTo is c with lists as long as those of d.
func (c certCall) cutTo(d certCall) certCall {
	c.l, c.votes, c.gones = c.l[:len(d.l)], c.votes[:len(d.votes)], c.gones[:len(d.gones)]
	c.q.Who, c.x.Who, c.x.Highs = c.q.Who[:len(d.q.Who)], c.x.Who[:len(d.x.Who)], c.x.Highs[:len(d.x.Highs)]
	return c
}

func TestCertsLeaveTheirArguments(t *testing.T) {
	for i, c := range certCalls() {
		// Both are made ahead of the first call: it could write into what they are made of.
		room, kept := c.roomy(), c.roomy()
		want := c.wanted()
		if got := c.ask(); got != want {
			t.Errorf("%d: %s, not %s", i, got, want)
		}
		if got := room.cutTo(c).ask(); got != want {
			t.Errorf("%d: what lies behind the lists was read: %s, not %s", i, got, want)
		}
		if fmt.Sprintf("%+v", room) != fmt.Sprintf("%+v", kept) {
			t.Errorf("%d: wrote into an argument or behind it: %+v, not %+v", i, room, kept)
		}
	}
}

// scribble writes over a certificate, to the end of its lists' room.
func scribble(q impl.Qc, x impl.Tc) {
	for _, who := range [][]string{q.Who, x.Who} {
		for at := range who[:cap(who)] {
			who[:cap(who)][at] = "written"
		}
	}
	for at := range x.Highs[:cap(x.Highs)] {
		x.Highs[:cap(x.Highs)][at] = -99
	}
}

// What is answered shares no memory with an argument, nor with another answer; no call keeps anything for another.
func TestCertsKeepNothing(t *testing.T) {
	for i, c := range certCalls() {
		room, kept := c.roomy(), c.roomy()
		want := c.ask()
		cut := room.cutTo(c)
		q, voted := impl.GatherQc(cut.l, cut.votes, cut.round, cut.block)
		x, left := impl.GatherTc(cut.l, cut.gones, cut.round)
		wantQ, wantX := impl.Qc{Round: q.Round, Block: q.Block, Who: slices.Clone(q.Who)}, impl.Tc{Round: x.Round, Who: slices.Clone(x.Who), Highs: slices.Clone(x.Highs)}
		for _, other := range append(certCalls(), c) {
			p, _ := impl.GatherQc(other.l, other.votes, other.round, other.block)
			y, _ := impl.GatherTc(other.l, other.gones, other.round)
			scribble(p, y)
			other.ask()
		}
		if !sameQc(q, wantQ) || !sameTc(x, wantX) {
			t.Errorf("%d: two answers share memory: %v, %v", i, q, x)
		}
		clear(room.l)
		clear(room.votes)
		clear(room.gones)
		if !sameQc(q, wantQ) || !sameTc(x, wantX) || voted != (q.Round > 0) || left != (x.Round > 0) {
			t.Errorf("%d: an answer shares memory with an argument: %v, %v", i, q, x)
		}
		again := c.roomy()
		q, _ = impl.GatherQc(again.cutTo(c).l, again.votes[:len(c.votes)], c.round, c.block)
		x, _ = impl.GatherTc(again.cutTo(c).l, again.gones[:len(c.gones)], c.round)
		scribble(q, x)
		if fmt.Sprintf("%+v", again) != fmt.Sprintf("%+v", kept) || c.ask() != want {
			t.Errorf("%d: what is written into an answer is seen elsewhere: %s, not %s", i, c.ask(), want)
		}
	}
}
