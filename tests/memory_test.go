package tests

import (
	"cmp"
	"encoding/binary"
	"fmt"
	"hash/maphash"
	"reflect"
	"slices"
	"testing"
)

// sameValue: the same by all that stands in them, where an empty list and nil are alike.
func sameValue(a, b any) bool { return sameParts(reflect.ValueOf(a), reflect.ValueOf(b)) }

func sameParts(a, b reflect.Value) bool {
	switch a.Kind() {
	case reflect.Struct:
		for i := range a.NumField() {
			if !sameParts(a.Field(i), b.Field(i)) {
				return false
			}
		}
		return true
	case reflect.Slice:
		if a.Len() != b.Len() {
			return false
		}
		for i := range a.Len() {
			if !sameParts(a.Index(i), b.Index(i)) {
				return false
			}
		}
		return true
	case reflect.Interface:
		return a.Elem().Type() == b.Elem().Type() && sameParts(a.Elem(), b.Elem())
	}
	return a.Equal(b)
}

// apartFrom is x in memory of its own.
func apartFrom[T any](x T) T { return ownMemory(reflect.ValueOf(&x).Elem(), 0).Interface().(T) }

// withRoom is x in memory of its own, with something in the spare room behind each list: what is there already, once more, and a zero.
func withRoom[T any](x T) T { return ownMemory(reflect.ValueOf(&x).Elem(), 2).Interface().(T) }

func ownMemory(v reflect.Value, spare int) reflect.Value {
	out := reflect.New(v.Type()).Elem()
	switch v.Kind() {
	case reflect.Struct:
		for i := range v.NumField() {
			out.Field(i).Set(ownMemory(v.Field(i), spare))
		}
	case reflect.Slice:
		n := v.Len()
		list := reflect.MakeSlice(v.Type(), n+spare, n+spare)
		for i := range n {
			list.Index(i).Set(ownMemory(v.Index(i), spare))
		}
		if n > 0 && spare > 0 {
			list.Index(n).Set(ownMemory(v.Index(0), spare))
		}
		out.Set(list.Slice(0, n))
	case reflect.Interface:
		out.Set(ownMemory(v.Elem(), spare))
	default:
		out.Set(v)
	}
	return out
}

// memoryPrint is a number of all that stands in x, each list as long as its room: of what was written into, or behind, it is another one.
func memoryPrint(x any) uint64 {
	var h maphash.Hash
	h.SetSeed(memorySeed)
	addPrint(&h, reflect.ValueOf(x))
	return h.Sum64()
}

var memorySeed = maphash.MakeSeed()

func addPrint(h *maphash.Hash, v reflect.Value) {
	switch v.Kind() {
	case reflect.Struct:
		for i := range v.NumField() {
			addPrint(h, v.Field(i))
		}
	case reflect.Slice:
		addNumber(h, uint64(v.Len()))
		whole := v.Slice(0, v.Cap())
		for i := range whole.Len() {
			addPrint(h, whole.Index(i))
		}
	case reflect.String:
		addNumber(h, uint64(v.Len()))
		h.WriteString(v.String())
	case reflect.Bool:
		maphash.WriteComparable(h, v.Bool())
	default:
		addNumber(h, uint64(v.Int()))
	}
}

func addNumber(h *maphash.Hash, n uint64) {
	var b [8]byte
	binary.LittleEndian.PutUint64(b[:], n)
	h.Write(b[:])
}

// A room is the memory of one list, to the end of its spare room.
type room struct{ from, to uintptr }

func roomsOf(v reflect.Value, l []room) []room {
	switch v.Kind() {
	case reflect.Struct:
		for i := range v.NumField() {
			l = roomsOf(v.Field(i), l)
		}
	case reflect.Slice:
		if size := uintptr(v.Cap()) * v.Type().Elem().Size(); size > 0 {
			l = append(l, room{v.Pointer(), v.Pointer() + size})
		}
		for i := range v.Len() {
			l = roomsOf(v.Index(i), l)
		}
	case reflect.Interface:
		l = roomsOf(v.Elem(), l)
	}
	return l
}

// sharesMemory: what two lists have in common, of these answers or of one of them and an argument; nothing when all are apart.
func sharesMemory(answers, args []any) string {
	var own, given []room
	for _, a := range answers {
		own = roomsOf(reflect.ValueOf(a), own)
	}
	for _, a := range args {
		given = roomsOf(reflect.ValueOf(a), given)
	}
	slices.SortFunc(own, func(a, b room) int { return cmp.Compare(a.from, b.from) })
	for i := 1; i < len(own); i++ {
		if own[i].from < own[i-1].to {
			return fmt.Sprintf("two lists of one answer: %x", own[i])
		}
	}
	for _, g := range given {
		at, _ := slices.BinarySearchFunc(own, g.from, func(r room, from uintptr) int { return cmp.Compare(r.to, from+1) })
		if at < len(own) && own[at].from < g.to {
			return fmt.Sprintf("an answer and an argument: %x", g)
		}
	}
	return ""
}

// scribbleOver writes over each list of these answers, to the end of its room.
func scribbleOver(answers []any) {
	for _, a := range answers {
		v := reflect.New(reflect.TypeOf(a)).Elem()
		v.Set(reflect.ValueOf(a))
		scribbleLists(v)
	}
}

func scribbleLists(v reflect.Value) {
	switch v.Kind() {
	case reflect.Struct:
		for i := range v.NumField() {
			scribbleLists(v.Field(i))
		}
	case reflect.Slice:
		whole := v.Slice(0, v.Cap())
		for i := range whole.Len() {
			scribbleLists(whole.Index(i))
			whole.Index(i).SetZero()
		}
	}
}

// A keptCall is something that is asked, with its arguments, and what is wanted of it.
type keptCall interface {
	ask() []any
	wanted() []any
	String() string
}

// callAsked asks, and holds the answers against what is wanted, and against the conventions.
func callAsked[C keptCall](t *testing.T, c C) []any {
	t.Helper()
	args := withRoom(c)
	whole := memoryPrint(args)
	got, want := args.ask(), c.wanted()
	if memoryPrint(args) != whole {
		t.Errorf("%v: wrote into an argument, or behind it", c)
	}
	if shared := sharesMemory(got, []any{args}); shared != "" {
		t.Errorf("%v: memory is shared: %s", c, shared)
	}
	for i := range want {
		if !sameValue(got[i], want[i]) {
			t.Errorf("%v\n  answers %.2000s\n  not %.2000s", c, fmt.Sprintf("%+v", got[i]), fmt.Sprintf("%+v", want[i]))
		}
	}
	return got
}

// keepNothing: what is written into an answer is seen nowhere else, and no call keeps anything for another.
func keepNothing(t *testing.T, calls []keptCall) {
	t.Helper()
	for i, c := range calls {
		args := withRoom(c)
		whole, want := memoryPrint(args), c.wanted()
		first := args.ask()
		scribbleOver(calls[(i+1)%len(calls)].ask())
		scribbleOver(args.ask())
		if !sameValue(first, want) {
			t.Errorf("%v: two answers share memory", c)
		}
		scribbleOver(first)
		if memoryPrint(args) != whole || !sameValue(args.ask(), want) {
			t.Errorf("%v: what is written into an answer is seen elsewhere", c)
		}
		second := args.ask()
		scribbleOver([]any{args})
		if !sameValue(second, want) {
			t.Errorf("%v: an answer shares memory with an argument", c)
		}
	}
}

// The looks at memory see what they are for.
func TestMemoryIsSeen(t *testing.T) {
	type list struct {
		L []int
		T []string
	}
	x := list{L: []int{1, 2, 3}, T: []string{"a"}}
	if !sameValue(x, apartFrom(x)) || !sameValue(x, withRoom(x)) || !sameValue(list{L: []int{}}, list{}) || sameValue(x, list{L: x.L}) || sameValue(x, list{L: []int{1, 2, 4}, T: x.T}) {
		t.Error("which are the same")
	}
	if sharesMemory([]any{apartFrom(x), withRoom(x)}, []any{x, x}) != "" {
		t.Error("what is apart is seen as one")
	}
	for what, answers := range map[string][]any{"the whole": {x}, "a piece": {list{L: x.L[1:2]}}, "the room alone": {list{L: x.L[:0]}}, "the end": {list{L: x.L[2:]}}, "texts": {list{T: x.T}}, "within a list": {[]list{{}, {L: x.L[1:]}}}} {
		if sharesMemory(answers, []any{x}) == "" || sharesMemory(append(answers, answers...), nil) == "" {
			t.Errorf("what is shared is not seen: %s", what)
		}
	}
	room := withRoom(x)
	whole := memoryPrint(room)
	if l := room.L[:cap(room.L)]; len(l) != 5 || l[3] != 1 || cap(room.T) != 3 || memoryPrint(room) != whole || memoryPrint(apartFrom(x)) == whole {
		t.Error("the spare room:", room)
	}
	_ = append(room.L, 99)
	if memoryPrint(room) == whole || !sameValue(room, x) {
		t.Error("what is written behind a list is not seen")
	}
	answer := apartFrom(x)
	scribbleOver([]any{answer})
	if !sameValue(answer, list{L: make([]int, 3), T: []string{""}}) {
		t.Error("not written over:", answer)
	}
}
