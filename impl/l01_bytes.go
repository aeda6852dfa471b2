package impl

const MaxNum = 1000000000

const (
	maxNameBytes = 8
	maxNames     = 20
	maxNamesRead = 100
	// Five groups hold every number up to MaxNum; a sixth one either passes it or is a needless 0.
	maxGroups = 5
)

// A reader reads one part behind the other, and is asked once, at the end, whether all of them were there.
type reader struct {
	b  []byte
	at int
	ok bool
}

func PutNum(b []byte, n int) []byte { return putNums(b, n) }

func GetNum(b []byte, at int) (int, int, bool) {
	folded, next, ok := groupsAt(b, at)
	if !ok || folded > 2*MaxNum {
		return 0, 0, false
	}
	return unfold(folded), next, true
}

func PutText(b []byte, s string) []byte { return putTexts(b, s) }

func GetText(b []byte, at int) (string, int, bool) {
	size, next, ok := GetNum(b, at)
	if !ok || size < 0 || size > len(b)-next {
		return "", 0, false
	}
	return string(b[next : next+size]), next + size, true
}

func PutNames(b []byte, l []string) []byte {
	return putTexts(putNums(b, len(l)), l...)
}

func GetNames(b []byte, at int) ([]string, int, bool) {
	count, next, ok := GetNum(b, at)
	if !ok || count < 0 || count > maxNamesRead {
		return nil, 0, false
	}
	var l []string
	for range count {
		s, behind, ok := GetText(b, next)
		if !ok {
			return nil, 0, false
		}
		l, next = append(l, s), behind
	}
	return l, next, true
}

func NameOk(s string) bool {
	if len(s) < 1 || len(s) > maxNameBytes {
		return false
	}
	for i := range len(s) {
		if !isNameByte(s[i]) {
			return false
		}
	}
	return true
}

func NamesOk(l []string) bool {
	if len(l) > maxNames {
		return false
	}
	for i, s := range l {
		if !NameOk(s) || i > 0 && l[i-1] >= s {
			return false
		}
	}
	return true
}

func putNums(b []byte, ns ...int) []byte {
	out := copied(b)
	for _, n := range ns {
		out = appendNum(out, n)
	}
	return out
}

func putTexts(b []byte, texts ...string) []byte {
	out := copied(b)
	for _, s := range texts {
		out = append(appendNum(out, len(s)), s...)
	}
	return out
}

// copied keeps the caller's bytes, and the spare room behind them, out of what is appended to.
func copied(b []byte) []byte {
	return append([]byte{}, b...)
}

// appendNum may write behind b: it is for bytes that the call made itself.
func appendNum(b []byte, n int) []byte {
	left := fold(n)
	for left >= 128 {
		b = append(b, byte(left%128+128))
		left /= 128
	}
	return append(b, byte(left))
}

// fold keeps the sign in the lowest bit, so that a small number below 0 is short, too.
func fold(n int) int {
	n = min(max(n, -MaxNum), MaxNum)
	if n < 0 {
		return -2*n - 1
	}
	return 2 * n
}

func unfold(folded int) int {
	if folded%2 == 1 {
		return -(folded + 1) / 2
	}
	return folded / 2
}

func groupsAt(b []byte, at int) (int, int, bool) {
	if at < 0 || at >= len(b) {
		return 0, 0, false
	}
	sum, unit := 0, 1
	for i, c := range b[at:min(at+maxGroups, len(b))] {
		sum += int(c%128) * unit
		unit *= 128
		if c < 128 {
			// A last group of 0 would give one number a second form.
			return sum, at + i + 1, i == 0 || c > 0
		}
	}
	return 0, 0, false
}

func isNameByte(c byte) bool {
	return c >= 'a' && c <= 'z' || c >= '0' && c <= '9'
}

func readerAt(b []byte, at int) reader {
	return reader{b: b, at: at, ok: true}
}

func (r *reader) num() int {
	if !r.ok {
		return 0
	}
	n, next, ok := GetNum(r.b, r.at)
	r.at, r.ok = next, ok
	return n
}

func (r *reader) text() string {
	if !r.ok {
		return ""
	}
	s, next, ok := GetText(r.b, r.at)
	r.at, r.ok = next, ok
	return s
}

func (r *reader) names() []string {
	if !r.ok {
		return nil
	}
	l, next, ok := GetNames(r.b, r.at)
	r.at, r.ok = next, ok
	return l
}

// count is a number of parts that come behind it; a greater one than can be right ends the reading, for as many parts would be gone through.
func (r *reader) count(most int) int {
	n := r.num()
	if !within(n, 0, most) {
		r.ok = false
		return 0
	}
	return n
}
