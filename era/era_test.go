package era

import (
	"math"
	"math/big"
	"testing"

	"analemma/api"
)

const (
	top    = api.Max
	least  = math.MinInt64
	second = api.Second
	half   = 1 << 63
	last   = math.MaxUint64
	round  = 1 << 32
	far    = 1 << 62
)

// many tells as many numbers of 64 bits, of all lengths, the same ones each time.
func many(n int) []uint64 {
	var l []uint64
	state := uint64(88172645463325252)
	for i := range n {
		state ^= state << 13
		state ^= state >> 7
		state ^= state << 17
		l = append(l, state>>(i*7%64))
	}
	return l
}

// stamps are times about which seconds and eras turn, and others.
func stamps() []uint64 {
	l := []uint64{0, last, half}
	for k := range 64 {
		bit := uint64(1) << k
		for d := range uint64(3) {
			l = append(l, bit+d, bit-d, -bit+d, -bit-d)
		}
	}
	return append(l, many(400)...)
}

// numbers are the stamps' bits as numbers with a sign, and some about which rounding turns.
func numbers() []int64 {
	var l []int64
	for _, a := range stamps() {
		l = append(l, int64(a))
	}
	for i, a := range many(2000) {
		l = append(l, int64(a), -int64(a), int64(a)>>(i%16)<<(i%16))
	}
	return l
}

// rounds are seconds about which a round of 2^32 turns, and others.
func rounds() []uint32 {
	l := []uint32{0, 1, 2, 3, 1<<31 - 2, 1<<31 - 1, 1 << 31, 1<<31 + 1, math.MaxUint32 - 1, math.MaxUint32}
	for _, a := range many(60) {
		l = append(l, uint32(a), uint32(a>>32))
	}
	return l
}

// big64 tells a stamp as a whole number of any length.
func big64(a uint64) *big.Int { return new(big.Int).SetUint64(a) }

// era is 2^64, by which stamps go round.
func era() *big.Int { return new(big.Int).Lsh(big.NewInt(1), 64) }

// shorter tells a - b, the shorter way round: from -Max to Max, half an era counting as -Max.
func shorter(a, b uint64) int64 {
	gap := new(big.Int).Sub(big64(a), big64(b))
	if gap.Cmp(big64(half)) >= 0 {
		gap.Sub(gap, era())
	}
	if gap.Cmp(big.NewInt(least)) < 0 {
		gap.Add(gap, era())
	}
	if new(big.Int).Abs(gap).Cmp(big64(half)) == 0 {
		return -top
	}
	return gap.Int64()
}

// P4.1: a - b, the shorter way round; half an era is -Max, whichever of both is ahead.
func TestDiff(t *testing.T) {
	for _, x := range []struct {
		a, b uint64
		is   int64
	}{
		{0, 0, 0},
		{last, last, 0},
		{7, 5, 2},
		{5, 7, -2},
		{5, last - 4, 10},
		{last - 4, 5, -10},
		{0, last, 1},
		{last, 0, -1},
		{half - 1, 0, top},
		{half, 0, -top},
		{half + 1, 0, -top},
		{half + 2, 0, -top + 1},
		{0, half - 1, -top},
		{0, half, -top},
		{0, half + 1, top},
		{half + 5, 5, -top},
		{5, half + 5, -top},
		{half + 3*second, 3*second + 1, top},
		{4 * second, second, 3 * second},
		{second, last - second + 1, 2 * second},
		{half + second, 0, -top + second - 1},
		{half + 1<<31, 0, -top + 1<<31 - 1},
	} {
		if is := Diff(x.a, x.b); is != x.is {
			t.Errorf("Diff(%d, %d) = %d, not %d", x.a, x.b, is, x.is)
		}
	}
	for _, a := range stamps() {
		for _, b := range stamps() {
			if is := Diff(a, b); is != shorter(a, b) {
				t.Fatalf("Diff(%d, %d) = %d, not %d", a, b, is, shorter(a, b))
			}
		}
	}
}

// P4.1: a and d, as it goes round.
func TestPlus(t *testing.T) {
	for _, x := range []struct {
		a  uint64
		d  int64
		is uint64
	}{
		{0, 0, 0},
		{5, 3, 8},
		{5, -3, 2},
		{5, -10, last - 4},
		{last - 4, 10, 5},
		{last, 1, 0},
		{0, -1, last},
		{0, top, half - 1},
		{0, -top, half + 1},
		{0, least, half},
		{half, least, 0},
		{half + 9, top, 8},
		{last, least, half - 1},
		{7 * second, -second, 6 * second},
	} {
		if is := Plus(x.a, x.d); is != x.is {
			t.Errorf("Plus(%d, %d) = %d, not %d", x.a, x.d, is, x.is)
		}
	}
	all := numbers()
	for _, a := range stamps() {
		for _, d := range all {
			should := new(big.Int).Add(big64(a), big.NewInt(d))
			if is := Plus(a, d); is != should.Mod(should, era()).Uint64() {
				t.Fatalf("Plus(%d, %d) = %d, not %d", a, d, is, should)
			}
		}
	}
}

// P4.1: whole seconds, and the rest.
func TestSeconds(t *testing.T) {
	for _, x := range []struct {
		a           uint64
		whole, rest uint32
	}{
		{0, 0, 0},
		{1, 0, 1},
		{second - 1, 0, math.MaxUint32},
		{second, 1, 0},
		{second + 1, 1, 1},
		{3*second + second/2, 3, 1 << 31},
		{half, 1 << 31, 0},
		{half - 1, 1<<31 - 1, math.MaxUint32},
		{last - second + 1, math.MaxUint32, 0},
		{last, math.MaxUint32, math.MaxUint32},
	} {
		if whole, rest := Seconds(x.a); whole != x.whole || rest != x.rest {
			t.Errorf("Seconds(%d) = %d, %d", x.a, whole, rest)
		}
	}
	for _, a := range stamps() {
		if whole, rest := Seconds(a); uint64(whole) != a/second || uint64(rest) != a%second {
			t.Fatalf("Seconds(%d) = %d, %d", a, whole, rest)
		}
	}
}

// P4.2: 2^-16 seconds, rounded up; nothing below 0, nothing above what has room.
func TestShort(t *testing.T) {
	for a, is := range map[int64]uint32{
		0: 0, -1: 0, -second: 0, -top: 0, least: 0,
		1: 1, 2: 1, 1<<16 - 1: 1, 1 << 16: 1, 1<<16 + 1: 2, 2 << 16: 2, 2<<16 + 1: 3,
		second: 1 << 16, second + 1: 1<<16 + 1, second - 1: 1 << 16, second / 2: 1 << 15,
		1<<48 - 2<<16:     math.MaxUint32 - 1,
		1<<48 - 2<<16 + 1: math.MaxUint32,
		1<<48 - 1<<16:     math.MaxUint32,
		1<<48 - 1<<16 + 1: math.MaxUint32,
		1<<48 - 1:         math.MaxUint32,
		1 << 48:           math.MaxUint32,
		1<<48 + 1:         math.MaxUint32,
		1<<48 + 5<<16:     math.MaxUint32,
		1 << 49:           math.MaxUint32,
		1 << 62:           math.MaxUint32,
		top - 1<<16:       math.MaxUint32,
		top:               math.MaxUint32,
	} {
		if Short(a) != is {
			t.Errorf("Short(%d) = %d, not %d", a, Short(a), is)
		}
	}
	for _, a := range numbers() {
		up := new(big.Int).Add(big.NewInt(max(a, 0)), big.NewInt(1<<16-1))
		up.Rsh(up, 16)
		should := uint32(math.MaxUint32)
		if up.Cmp(big.NewInt(math.MaxUint32)) < 0 {
			should = uint32(up.Uint64())
		}
		if Short(a) != should {
			t.Fatalf("Short(%d) = %d, not %d", a, Short(a), should)
		}
	}
}

// P4.2: n times 2^-16 seconds, of which there is always room for all.
func TestLong(t *testing.T) {
	for n, is := range map[uint32]int64{
		0: 0, 1: 1 << 16, 2: 2 << 16, 1 << 15: second / 2, 1 << 16: second, 1<<16 + 1: second + 1<<16,
		1 << 31: 1 << 47, math.MaxUint32 - 1: 1<<48 - 2<<16, math.MaxUint32: 1<<48 - 1<<16,
	} {
		if Long(n) != is {
			t.Errorf("Long(%d) = %d, not %d", n, Long(n), is)
		}
	}
	for _, n := range rounds() {
		if Long(n) != int64(n)*65536 {
			t.Fatalf("Long(%d) = %d", n, Long(n))
		}
	}
}

// P4.3: the nearest number that goes round to sec, of two the lesser one; about counts as 2^62 at most, either way.
func TestNear(t *testing.T) {
	for _, x := range []struct {
		sec   uint32
		about int64
		is    int64
	}{
		{0, 0, 0},
		{5, 0, 5},
		{5, 3, 5},
		{5, 9, 5},
		{5, -3, 5},
		{math.MaxUint32, 0, -1},
		{math.MaxUint32, round, round - 1},
		{0, math.MaxUint32, round},
		{0, -1, 0},
		{5, round, round + 5},
		{5, 3*round - 100, 3*round + 5},
		{5, -3*round - 100, -3*round + 5},
		{1<<31 - 1, 0, 1<<31 - 1},
		{1 << 31, 0, -1 << 31},
		{1<<31 + 1, 0, -1<<31 + 1},
		{1 << 31, 1, 1 << 31},
		{1 << 31, -1, -1 << 31},
		{0, 1 << 31, 0},
		{0, 1<<31 - 1, 0},
		{0, 1<<31 + 1, round},
		{0, -1 << 31, -round},
		{0, -1<<31 + 1, 0},
		{0, -1<<31 - 1, -round},
		{7, 7*round + 7 + 1<<31, 7*round + 7},
		{7, -7*round + 7 - 1<<31, -8*round + 7},
		{0, far, far},
		{0, far + 1, far},
		{0, far + round, far},
		{0, top, far},
		{9, top, far + 9},
		{1 << 31, far, far - 1<<31},
		{1 << 31, top, far - 1<<31},
		{math.MaxUint32, top, far - 1},
		{1<<31 - 1, top, far + 1<<31 - 1},
		{0, -far, -far},
		{0, -far - 1, -far},
		{0, -far - round, -far},
		{0, least, -far},
		{9, least, -far + 9},
		{1 << 31, least, -far - 1<<31},
		{1<<31 - 1, least, -far + 1<<31 - 1},
		{math.MaxUint32, least, -far - 1},
		{0, far - 1, far},
		{5, far - round, far - round + 5},
	} {
		if is := Near(x.sec, x.about); is != x.is {
			t.Errorf("Near(%d, %d) = %d, not %d", x.sec, x.about, is, x.is)
		}
	}
	all := rounds()
	for _, about := range numbers() {
		for _, sec := range all {
			if is := Near(sec, about); is != nearest(sec, about) {
				t.Fatalf("Near(%d, %d) = %d, not %d", sec, about, is, nearest(sec, about))
			}
		}
	}
}

// nearest goes through the numbers that go round to sec, from below about to above it.
func nearest(sec uint32, about int64) int64 {
	if about < -far {
		about = -far
	}
	if about > far {
		about = far
	}
	first := about/round*round + int64(sec) - 2*round
	best := first
	for n := first; n <= first+4*round; n += round {
		if away(n, about) < away(best, about) {
			best = n
		}
	}
	return best
}

// away tells how far both are from each other.
func away(a, b int64) int64 {
	return max(a, b) - min(a, b)
}

// P4.4: the least k for which 2^k seconds are not below a.
func TestPrecision(t *testing.T) {
	for a, k := range map[int64]int{
		least: -32, -top: -32, -second: -32, -1: -32, 0: -32, 1: -32, 2: -31, 3: -30, 4: -30, 5: -29,
		second / 2: -1, second/2 + 1: 0, second - 1: 0, second: 0, second + 1: 1, 2 * second: 1, 2*second + 1: 2, 3 * second: 2,
		1<<61 + 1: 30, 1<<62 - 1: 30, 1 << 62: 30, 1<<62 + 1: 31, top - 1: 31, top: 31,
	} {
		if Precision(a) != k {
			t.Errorf("Precision(%d) = %d, not %d", a, Precision(a), k)
		}
	}
	for _, a := range numbers() {
		should := -32
		for should < 31 && new(big.Int).Lsh(big.NewInt(1), uint(should+32)).Cmp(big.NewInt(a)) < 0 {
			should++
		}
		if Precision(a) != should {
			t.Fatalf("Precision(%d) = %d, not %d", a, Precision(a), should)
		}
	}
}

// P4.5: what is put to a stamp is its Diff, if it is less than half an era.
func TestDiffIsWhatIsPut(t *testing.T) {
	all := numbers()
	for _, a := range stamps() {
		for _, d := range all {
			if d != least && Diff(Plus(a, d), a) != d {
				t.Fatalf("Diff of %d and %d is %d", d, a, Diff(Plus(a, d), a))
			}
		}
		if Diff(Plus(a, least), a) != -top {
			t.Fatalf("half an era behind %d is %d", a, Diff(Plus(a, least), a))
		}
	}
}

// P4.5: Short is below what it is of at its end alone, and never by as much as one of its own; what is short comes back.
func TestLongComesBack(t *testing.T) {
	for _, a := range numbers() {
		n := Short(a)
		if n < math.MaxUint32 && Long(n) < a {
			t.Fatalf("Short(%d) = %d is less", a, n)
		}
		if n > 0 && Long(n-1) >= a {
			t.Fatalf("Short(%d) = %d is not the least one", a, n)
		}
	}
	for _, n := range rounds() {
		if Short(Long(n)) != n {
			t.Fatalf("%d comes back as %d", n, Short(Long(n)))
		}
	}
}

// R5: what is told once is told again, whatever was told between.
func TestSameAgain(t *testing.T) {
	tell := func(a uint64) [8]int64 {
		whole, rest := Seconds(a)
		return [8]int64{
			Diff(a, 5), int64(Plus(a, -5)), int64(Short(int64(a))), Long(uint32(a)),
			int64(whole), int64(rest), Near(uint32(a), int64(a>>7)), int64(Precision(int64(a))),
		}
	}
	for _, a := range stamps() {
		first := tell(a)
		tell(^a)
		if tell(a) != first {
			t.Fatalf("of %d other things are told", a)
		}
	}
}
