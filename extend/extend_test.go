package extend

import (
	"math"
	"slices"
	"strings"
	"testing"

	"analemma/api"
)

// zeros tells n bytes 0.
func zeros(n int) string { return strings.Repeat("\x00", n) }

// text tells n bytes that differ from their neighbours.
func text(n int) string {
	b := make([]byte, n)
	for i := range b {
		b[i] = byte(i*37 + n)
	}
	return string(b)
}

// draws hands on numbers of 64 bits, the same ones each time.
func draws() func() uint64 {
	state := uint64(88172645463325252)
	return func() uint64 {
		state ^= state << 13
		state ^= state >> 7
		state ^= state << 17
		return state
	}
}

// head tells the four bytes that are ahead of a field's body.
func head(kind, length int) string {
	return string([]byte{byte(kind / 256), byte(kind % 256), byte(length / 256), byte(length % 256)})
}

// bytesOf tells the bytes of fields and a MAC, whether they may be or not.
func bytesOf(l []Field, mac string) string {
	s := ""
	for _, f := range l {
		s += head(f.Type, len(f.Body)+4) + f.Body
	}
	return s + mac
}

// walked tells what the chapter tells of s: the first field, and then what is behind it.
func walked(s string) ([]Field, string, bool) {
	if len(s) <= 24 {
		return nil, s, slices.Contains([]int{0, 4, 20, 24}, len(s))
	}
	length := 256*int(s[2]) + int(s[3])
	if length < 16 || length%4 != 0 || length > len(s) {
		return nil, "", false
	}
	l, mac, ok := walked(s[length:])
	return append([]Field{{256*int(s[0]) + int(s[1]), s[4:length]}}, l...), mac, ok
}

// checkWalk holds what Walk answers of s against what it should.
func checkWalk(t *testing.T, s string, l []Field, mac string, fault api.Errno) {
	t.Helper()
	fields, rest, e := Walk(s)
	if !slices.Equal(fields, l) || rest != mac || e != fault {
		t.Errorf("Walk(%.200x), of %d bytes = %d fields, %x, %d, not %d, %x, %d", s, len(s), len(fields), rest, e, len(l), mac, fault)
	}
}

// checkWalked holds what Walk answers of s against what the chapter tells of it.
func checkWalked(t *testing.T, s string) {
	t.Helper()
	if l, mac, ok := walked(s); ok {
		checkWalk(t, s, l, mac, api.OK)
	} else {
		checkWalk(t, s, nil, "", api.ErrForm)
	}
}

// P6.1: up to 24 bytes there is no field, whatever they say; of all their numbers a MAC has 0, 4, 20 or 24.
func TestWalkMAC(t *testing.T) {
	for n := range 25 {
		for _, s := range []string{text(n), zeros(n), (head(1, n) + text(n))[:n], (head(1, 16) + text(n))[:n], strings.Repeat("\xff", n)} {
			if n == 0 || n == 4 || n == 20 || n == 24 {
				checkWalk(t, s, nil, s, api.OK)
			} else {
				checkWalk(t, s, nil, "", api.ErrForm)
			}
		}
	}
}

// P6.1: fields, in order, and the MAC: their Types and lengths have the higher byte first.
func TestWalk(t *testing.T) {
	for _, x := range []struct {
		s   string
		l   []Field
		mac string
	}{
		{"\x00\x01\x00\x1c" + text(24), []Field{{1, text(24)}}, ""},
		{"\x01\x02\x00\x1c" + text(24), []Field{{0x102, text(24)}}, ""},
		{"\xff\xff\x00\x1c" + text(24) + "\x00\x00\x00\x07", []Field{{65535, text(24)}}, "\x00\x00\x00\x07"},
		{"\x00\x00\x00\x10" + text(12) + text(20), []Field{{0, text(12)}}, text(20)},
		{"\x80\x00\x00\x10" + zeros(12) + zeros(24), []Field{{32768, zeros(12)}}, zeros(24)},
		{"\x00\x03\x01\x04" + text(256), []Field{{3, text(256)}}, ""},
		{"\x00\x03\xff\xfc" + text(65528) + text(4), []Field{{3, text(65528)}}, text(4)},
		{"\x00\x09\x00\x10" + text(12) + "\x00\x08\x00\x1c" + text(24), []Field{{9, text(12)}, {8, text(24)}}, ""},
		{"\x00\x02\x00\x14" + text(16) + "\x00\x02\x00\x14" + text(16) + "\x00\x01\x00\x10" + zeros(12) + text(24), []Field{{2, text(16)}, {2, text(16)}, {1, zeros(12)}}, text(24)},
		// What is left here would be a field, if it were not short enough to be a MAC.
		{"\x00\x02\x00\x1c" + zeros(24) + "\x00\x05\x00\x14" + text(16), []Field{{2, zeros(24)}}, "\x00\x05\x00\x14" + text(16)},
		{"\x00\x02\x00\x1c" + zeros(24) + "\x00\x05\x00\x18" + text(20), []Field{{2, zeros(24)}}, "\x00\x05\x00\x18" + text(20)},
	} {
		checkWalk(t, x.s, x.l, x.mac, api.OK)
	}
}

// P6.1: of all lengths that a field may tell those are ErrForm that are below 16, not a multiple of 4, or more than is left.
func TestWalkLength(t *testing.T) {
	for _, left := range []int{25, 26, 28, 29, 32, 36, 40, 44, 48, 52, 100, 256, 300} {
		for length := range 400 {
			checkWalked(t, head(7, length)+zeros(left-4))
			checkWalked(t, head(7, length)+strings.Repeat(head(2, 16), left)[:left-4])
			checkWalked(t, head(9, 20)+text(16)+head(7, length)+zeros(left-4))
		}
	}
	far := zeros(70000)
	for length := range 1 << 16 {
		s := head(7, length) + far[:length&^3+24]
		if length < 16 || length%4 != 0 {
			checkWalk(t, s, nil, "", api.ErrForm)
		} else {
			checkWalk(t, s[:length+20], []Field{{7, s[4:length]}}, far[:20], api.OK)
			checkWalk(t, s[:length+19], nil, "", api.ErrForm)
		}
		if t.Failed() {
			return
		}
	}
}

// P6.1: what is left behind the last field is ErrForm, unless it is as long as a MAC is, or a field goes on.
func TestWalkLeft(t *testing.T) {
	field := head(1, 16) + text(12)
	for n := range 25 {
		s := field + zeros(n)
		switch {
		case n == 20 || n == 24:
			checkWalk(t, s, []Field{{1, text(12)}}, zeros(n), api.OK)
		// Here there is no field: all of it is a MAC.
		case n == 4 || n == 8:
			checkWalk(t, s, nil, s, api.OK)
		default:
			checkWalk(t, s, nil, "", api.ErrForm)
		}
		long := head(2, 28) + text(24) + zeros(n)
		if n == 0 || n == 4 || n == 20 || n == 24 {
			checkWalk(t, long, []Field{{2, text(24)}}, zeros(n), api.OK)
		} else {
			checkWalk(t, long, nil, "", api.ErrForm)
		}
		checkWalk(t, field+field+zeros(24)+zeros(n+1), nil, "", api.ErrForm)
	}
}

// P6.1, R2: a fault in any field leaves nothing of those ahead of it.
func TestWalkLate(t *testing.T) {
	for n := range 6 {
		good := strings.Repeat(head(1, 32)+text(28), n)
		for _, bad := range []string{head(2, 12) + zeros(40), head(2, 30) + zeros(40), head(2, 48) + zeros(43), head(2, 15) + zeros(21), head(2, 65535) + zeros(41), head(2, 0) + zeros(21), zeros(25), zeros(8), zeros(1), zeros(16)} {
			checkWalk(t, good+bad, nil, "", api.ErrForm)
		}
	}
}

// P6.1: as many fields as there are.
func TestWalkMany(t *testing.T) {
	var l []Field
	for n := range 400 {
		l = append(l, Field{n * 163, text(12 + n%9*4)})
	}
	checkWalk(t, bytesOf(l, text(20)), l, text(20), api.OK)
	checkWalk(t, bytesOf(l, text(21)), nil, "", api.ErrForm)
}

// P6.1: fields are told till nobody asks on, and from the first one on each time.
func TestFieldsTillNobodyAsks(t *testing.T) {
	l := []Field{{1, text(24)}, {2, text(28)}, {3, text(32)}}
	fields := fieldsOf(bytesOf(l, text(4)))
	for n := range 4 {
		asked := 0
		for f, behind := range fields {
			if asked == n {
				break
			}
			if f != l[asked] || behind != bytesOf(l[asked+1:], text(4)) {
				t.Errorf("the field %d is %v, and %x behind it", asked, f, behind)
			}
			asked++
		}
		if asked != n {
			t.Errorf("%d fields, not %d", asked, n)
		}
	}
}

// drawn tells bytes that are fields and a MAC, or nearly so.
func drawn(draw func() uint64) string {
	s := ""
	for range draw() % 4 {
		length := 4 * int(draw()%12)
		if draw()%8 == 0 {
			length += int(draw()%9) - 4
		}
		length = max(length, 0)
		s += head(int(draw()%(1<<16)), length) + text(max(length-4, 0))
	}
	mac := 4 * int(draw()%7)
	if draw()%8 == 0 {
		mac++
	}
	return s + text(mac)
}

// P6.1, P6.4: of all bytes what the chapter tells; and what was walked is joined to the same bytes.
func TestWalkedComesBack(t *testing.T) {
	draw := draws()
	good := 0
	for range 50000 {
		s := drawn(draw)
		checkWalked(t, s)
		l, mac, fault := Walk(s)
		if fault == api.OK {
			good++
			if same, e := Join(l, mac); same != s || e != api.OK {
				t.Errorf("%x comes back as %x, %d", s, same, e)
			}
		}
		if t.Failed() {
			return
		}
	}
	if good < 5000 || good > 45000 {
		t.Errorf("%d of 50000 could be walked: too few or too many to tell", good)
	}
	for _, s := range []string{"", text(4), text(20), text(24), head(5, 65532) + text(65528), head(65535, 65532) + text(65528) + head(0, 16) + zeros(12) + text(24)} {
		l, mac, _ := Walk(s)
		if same, e := Join(l, mac); same != s || e != api.OK {
			t.Errorf("%d bytes come back as %d, %d", len(s), len(same), e)
		}
	}
}

// checkJoin holds what Join answers against what it should.
func checkJoin(t *testing.T, l []Field, mac string, s string, fault api.Errno) {
	t.Helper()
	if is, e := Join(l, mac); is != s || e != fault {
		t.Errorf("Join of %d fields, and %x = %.200x, %d, not %.200x, %d", len(l), mac, is, e, s, fault)
	}
}

// P6.2: field by field, and mac.
func TestJoin(t *testing.T) {
	checkJoin(t, nil, "", "", api.OK)
	checkJoin(t, []Field{}, "", "", api.OK)
	checkJoin(t, nil, "\x01\x02\x03\x04", "\x01\x02\x03\x04", api.OK)
	checkJoin(t, nil, text(20), text(20), api.OK)
	checkJoin(t, nil, text(24), text(24), api.OK)
	checkJoin(t, []Field{{1, text(24)}}, "", "\x00\x01\x00\x1c"+text(24), api.OK)
	checkJoin(t, []Field{{0x8003, text(256)}}, text(4), "\x80\x03\x01\x04"+text(256)+text(4), api.OK)
	checkJoin(t, []Field{{0, zeros(12)}}, zeros(20), "\x00\x00\x00\x10"+zeros(32), api.OK)
	checkJoin(t, []Field{{65535, text(65528)}}, "", "\xff\xff\xff\xfc"+text(65528), api.OK)
	checkJoin(t, []Field{{9, text(12)}, {8, text(16)}, {9, text(12)}}, text(24), "\x00\x09\x00\x10"+text(12)+"\x00\x08\x00\x14"+text(16)+"\x00\x09\x00\x10"+text(12)+text(24), api.OK)
}

// P6.2: ErrArg of a Type that may not be, in any field.
func TestJoinType(t *testing.T) {
	for _, kind := range []int{-1, 65536, 65537, -65536, 1 << 17, 1 << 32, math.MinInt, math.MaxInt, math.MinInt32, 0, 1, 255, 256, 65534, 65535} {
		bad := Field{kind, text(24)}
		good := Field{1, text(24)}
		for _, l := range [][]Field{{bad}, {bad, good}, {good, bad}, {good, bad, good}} {
			if kind >= 0 && kind <= 65535 {
				checkJoin(t, l, "", bytesOf(l, ""), api.OK)
			} else {
				checkJoin(t, l, "", "", api.ErrArg)
			}
		}
	}
}

// P6.2: ErrArg of a Body that has not 12 to 65528 bytes, or not a multiple of 4.
func TestJoinBody(t *testing.T) {
	sizes := []int{65519, 65520, 65524, 65527, 65528, 65529, 65530, 65531, 65532, 65533, 65536, 65540, 65548, 65552, 1 << 17, 1<<17 + 12, 1<<17 + 16}
	for n := range 300 {
		sizes = append(sizes, n)
	}
	for _, n := range sizes {
		good := Field{3, text(28)}
		for _, l := range [][]Field{{{2, text(n)}}, {{2, zeros(n)}, good}, {good, {2, zeros(n)}}} {
			if n >= 12 && n <= 65528 && n%4 == 0 {
				checkJoin(t, l, text(24), bytesOf(l, text(24)), api.OK)
			} else {
				checkJoin(t, l, text(24), "", api.ErrArg)
			}
		}
	}
}

// P6.2: ErrArg of a mac that has not 0, 4, 20 or 24 bytes, even of one that would itself be a field.
func TestJoinMAC(t *testing.T) {
	for n := range 100 {
		for _, mac := range []string{text(n), zeros(n), (head(1, n) + text(n))[:n], (head(1, 28) + text(n))[:n]} {
			for _, l := range [][]Field{nil, {{1, text(24)}}, {{1, text(24)}, {2, text(24)}}} {
				if n == 0 || n == 4 || n == 20 || n == 24 {
					checkJoin(t, l, mac, bytesOf(l, mac), api.OK)
				} else {
					checkJoin(t, l, mac, "", api.ErrArg)
				}
			}
		}
	}
	checkJoin(t, nil, head(1, 28)+text(24), "", api.ErrArg)
	checkJoin(t, nil, text(5000), "", api.ErrArg)
}

// P6.2: ErrArg, where the last field and mac are 24 bytes at most: Walk tells them as a MAC, or not at all.
func TestJoinShort(t *testing.T) {
	checkJoin(t, []Field{{1, text(12)}}, "", "", api.ErrArg)
	checkJoin(t, []Field{{1, text(16)}}, "", "", api.ErrArg)
	checkJoin(t, []Field{{1, text(20)}}, "", "", api.ErrArg)
	checkJoin(t, []Field{{1, text(12)}}, text(4), "", api.ErrArg)
	checkJoin(t, []Field{{1, text(16)}}, text(4), "", api.ErrArg)
	checkJoin(t, []Field{{1, text(24)}, {1, text(16)}}, text(4), "", api.ErrArg)
	checkJoin(t, []Field{{1, text(20)}}, text(4), bytesOf([]Field{{1, text(20)}}, text(4)), api.OK)
	for _, ahead := range [][]Field{nil, {{4, text(12)}}, {{4, text(16)}, {5, text(12)}}, {{4, text(24)}, {5, text(20)}}} {
		for body := 12; body <= 40; body += 4 {
			for _, mac := range []int{0, 4, 20, 24} {
				l := append(slices.Clone(ahead), Field{1, text(body)})
				if 4+body+mac > 24 {
					checkJoin(t, l, text(mac), bytesOf(l, text(mac)), api.OK)
				} else {
					checkJoin(t, l, text(mac), "", api.ErrArg)
				}
			}
		}
	}
}

// P6.2: what is joined is walked to the same fields and the same MAC.
func TestJoinedIsWalked(t *testing.T) {
	draw := draws()
	for range 20000 {
		var l []Field
		for range draw() % 5 {
			l = append(l, Field{int(draw() % (1 << 16)), text(4 * int(3+draw()%10))})
		}
		mac := text([]int{0, 4, 20, 24}[draw()%4])
		s, fault := Join(l, mac)
		if fault != api.OK {
			if other, rest, e := Walk(bytesOf(l, mac)); e == api.OK && rest == mac && slices.Equal(other, l) {
				t.Fatalf("Join(%v, %x) = %d", l, mac, fault)
			}
			continue
		}
		checkWalk(t, s, l, mac, api.OK)
		if t.Failed() {
			return
		}
	}
}

// R3: the list that is handed in is neither changed nor kept, nor is what lies behind it; what Walk answers is new each time.
func TestListsAreTheirOwn(t *testing.T) {
	whole := []Field{{1, text(24)}, {2, text(28)}, {3, text(32)}, {-4, "behind"}}
	before := slices.Clone(whole)
	s, _ := Join(whole[:2], text(4))
	if !slices.Equal(whole, before) {
		t.Errorf("Join changed its list to %v", whole)
	}
	whole[0] = Field{}
	if s != bytesOf(before[:2], text(4)) {
		t.Error("Join kept its list")
	}
	l, _, _ := Walk(s)
	l[0] = Field{9, "other"}
	checkWalk(t, s, before[:2], text(4), api.OK)
}

// ref tells four letters as a reference, the first one highest.
func ref(s string) uint32 {
	return uint32(s[0])<<24 | uint32(s[1])<<16 | uint32(s[2])<<8 | uint32(s[3])
}

// P6.3: a server of the stratum 0 says no, by a code or another; no other one does, whatever its reference is.
func TestKiss(t *testing.T) {
	if None != 0 || Deny != 1 || Rstr != 2 || Rate != 3 || Else != 4 {
		t.Error("the codes have other numbers")
	}
	for s, code := range map[string]int{
		"DENY": 1, "RSTR": 2, "RATE": 3,
		"INIT": 4, "STEP": 4, "DENI": 4, "deny": 4, "rstr": 4, "rate": 4, "Rate": 4, "YNED": 4, "ETAR": 4, "RTSR": 4, "ENYD": 4,
		"\x00DEN": 4, "DEN\x00": 4, "RAT\x00": 4, "\x00\x00\x00\x00": 4, "\x00\x00\x00\x01": 4, "\x00\x00\x00\x03": 4, "\xff\xff\xff\xff": 4, "\x7f\x00\x00\x01": 4,
	} {
		if is := Kiss(0, ref(s)); is != code {
			t.Errorf("Kiss(0, %q) = %d, not %d", s, is, code)
		}
		for _, stratum := range []int{1, 2, 15, 16, 255, 256, -1, 1 << 32, math.MinInt, math.MaxInt} {
			if is := Kiss(stratum, ref(s)); is != 0 {
				t.Errorf("Kiss(%d, %q) = %d, not 0", stratum, s, is)
			}
		}
	}
	for _, s := range []string{"DENY", "RSTR", "RATE"} {
		for bit := range 32 {
			if is := Kiss(0, ref(s)^1<<bit); is != 4 {
				t.Errorf("Kiss of %q but for one bit = %d, not 4", s, is)
			}
		}
	}
}

// P6.3: four bytes, up to the first byte 0, each that can't be seen as ?.
func TestName(t *testing.T) {
	for s, name := range map[string]string{
		"DENY": "DENY", "a~!z": "a~!z", "????": "????",
		"\x00\x00\x00\x00": "", "GPS\x00": "GPS", "A\x00\x00\x00": "A", "A\x00BC": "A", "AB\x00C": "AB", "\x00ABC": "", "\x00\x00\x00A": "",
		"    ": "????", "A BC": "A?BC", "\x7f\x00\x00\x01": "?", "\x7f\x80\x81\xff": "????", "\x01\x1f\x20\x21": "???!", "\x7d\x7e\x7f\x80": "}~??", "\n\x00\n\x00": "?", "caf\xe9": "caf?",
	} {
		if is := Name(ref(s)); is != name {
			t.Errorf("Name of %q = %q, not %q", s, is, name)
		}
	}
	for n := range 256 {
		c := byte(n)
		letter := "?"
		if c >= 0x21 && c <= 0x7e {
			letter = string([]byte{c})
		}
		should := [4]string{letter + "bcd", "a" + letter + "cd", "ab" + letter + "d", "abc" + letter}
		if c == 0 {
			should = [4]string{"", "a", "ab", "abc"}
		}
		for i := range 4 {
			b := []byte("abcd")
			b[i] = c
			if is := Name(ref(string(b))); is != should[i] {
				t.Errorf("Name of %q = %q, not %q", b, is, should[i])
			}
		}
	}
}

// R5: what is told once is told again, whatever was told between.
func TestSameAgain(t *testing.T) {
	draw := draws()
	for range 2000 {
		s, n := drawn(draw), uint32(draw())
		l, mac, fault := Walk(s)
		code, name := Kiss(0, n), Name(n)
		Walk(drawn(draw))
		Kiss(0, ref("DENY"))
		Name(^n)
		checkWalk(t, s, l, mac, fault)
		if Kiss(0, n) != code || Name(n) != name {
			t.Fatalf("of %x other things are told", n)
		}
	}
}
