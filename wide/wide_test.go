package wide

import (
	"math/big"
	"testing"
)

const top = 1<<64 - 1

// number is one of 128 bits, as all calls tell it.
type number struct{ hi, lo uint64 }

// edges are the numbers about which carries, guesses and bits turn.
func edges() []uint64 {
	l := []uint64{0, 1, 2, 3, 5, 6, 7, 10, 99, 100, 1e9, 1e19, 0xaaaaaaaaaaaaaaaa, 0x5555555555555555}
	for _, k := range []int{8, 16, 31, 32, 33, 48, 62, 63} {
		bit := uint64(1) << k
		l = append(l, bit-1, bit, bit+1, top-bit, top-bit+1)
	}
	return append(l, top-2, top-1, top)
}

// many tells as many numbers, of all lengths, the same ones each time.
func many(n int) []uint64 {
	var l []uint64
	state := uint64(88172645463325252)
	for i := range n {
		state ^= state << 13
		state ^= state >> 7
		state ^= state << 17
		l = append(l, state>>(i*7%64))
	}
	return l
}

// pairs tells numbers of 128 bits: all pairs of edges, and some others.
func pairs() []number {
	var l []number
	for _, hi := range edges() {
		for _, lo := range edges() {
			l = append(l, number{hi, lo})
		}
	}
	others := many(4000)
	for i := 0; i < len(others); i += 2 {
		l = append(l, number{others[i], others[i+1]})
	}
	return l
}

func wideOf(hi, lo uint64) *big.Int {
	n := new(big.Int).Lsh(new(big.Int).SetUint64(hi), 64)
	return n.Add(n, new(big.Int).SetUint64(lo))
}

func of(n uint64) *big.Int { return new(big.Int).SetUint64(n) }

// P1.1: the product is whole, whatever its length.
func TestMul(t *testing.T) {
	for _, x := range []struct{ a, b, hi, lo uint64 }{
		{0, 0, 0, 0},
		{0, top, 0, 0},
		{1, top, 0, top},
		{6, 7, 0, 42},
		{1 << 63, 6, 3, 0},
		{1 << 32, 1 << 32, 1, 0},
		{1<<32 - 1, 1<<32 + 1, 0, top},
		{top, 2, 1, top - 1},
		{top, top, top - 1, 1},
	} {
		if hi, lo := Mul(x.a, x.b); hi != x.hi || lo != x.lo {
			t.Errorf("Mul(%d, %d) = %d, %d", x.a, x.b, hi, lo)
		}
	}
	for _, x := range pairs() {
		hi, lo := Mul(x.hi, x.lo)
		if wideOf(hi, lo).Cmp(new(big.Int).Mul(of(x.hi), of(x.lo))) != 0 {
			t.Fatalf("Mul(%d, %d) = %d, %d", x.hi, x.lo, hi, lo)
		}
	}
}

// P1.1: the sum, without its 129th bit, which is told.
func TestPlus(t *testing.T) {
	for _, x := range []struct {
		a, b, sum number
		more      bool
	}{
		{number{0, 0}, number{0, 0}, number{0, 0}, false},
		{number{1, 2}, number{3, 4}, number{4, 6}, false},
		{number{1, top}, number{2, 1}, number{4, 0}, false},
		{number{top, 0}, number{0, top}, number{top, top}, false},
		{number{top, 0}, number{1, 0}, number{0, 0}, true},
		{number{top, top}, number{0, 1}, number{0, 0}, true},
		{number{top, top}, number{top, top}, number{top, top - 1}, true},
		{number{0, 1<<32 - 1}, number{0, 1}, number{0, 1 << 32}, false},
	} {
		hi, lo, more := Plus(x.a.hi, x.a.lo, x.b.hi, x.b.lo)
		if (number{hi, lo}) != x.sum || more != x.more {
			t.Errorf("Plus(%v, %v) = %d, %d, %v", x.a, x.b, hi, lo, more)
		}
	}
	all := pairs()
	for i, x := range all {
		for _, y := range []number{all[len(all)-1-i], x, {0, 1}, {top, top}} {
			checkPlus(t, x, y)
		}
	}
}

func checkPlus(t *testing.T, x, y number) {
	t.Helper()
	hi, lo, more := Plus(x.hi, x.lo, y.hi, y.lo)
	told := wideOf(hi, lo)
	if more {
		told.Add(told, new(big.Int).Lsh(big.NewInt(1), 128))
	}
	if told.Cmp(new(big.Int).Add(wideOf(x.hi, x.lo), wideOf(y.hi, y.lo))) != 0 {
		t.Fatalf("Plus(%v, %v) = %d, %d, %v", x, y, hi, lo, more)
	}
}

// P1.1: the higher part comes first; what is the same is not below.
func TestLess(t *testing.T) {
	for _, x := range []struct {
		a, b number
		is   bool
	}{
		{number{0, 0}, number{0, 0}, false},
		{number{1, 9}, number{2, 0}, true},
		{number{2, 0}, number{1, 9}, false},
		{number{1, 1}, number{1, 2}, true},
		{number{1, 2}, number{1, 1}, false},
		{number{1, 2}, number{1, 2}, false},
		{number{0, top}, number{1, 0}, true},
		{number{top, top}, number{top, top}, false},
	} {
		if is := Less(x.a.hi, x.a.lo, x.b.hi, x.b.lo); is != x.is {
			t.Errorf("Less(%v, %v) = %v", x.a, x.b, is)
		}
	}
	all := pairs()
	for i, x := range all {
		y := all[len(all)-1-i]
		if is := Less(x.hi, x.lo, y.hi, y.lo); is != (wideOf(x.hi, x.lo).Cmp(wideOf(y.hi, y.lo)) < 0) {
			t.Fatalf("Less(%v, %v) = %v", x, y, is)
		}
	}
}

// P1.2: the quotient and the rest, or nothing where hi is not below d.
func TestDiv(t *testing.T) {
	for _, x := range []struct {
		hi, lo, d, q, r uint64
		is              bool
	}{
		{0, 0, 1, 0, 0, true},
		{0, 43, 6, 7, 1, true},
		{0, 7, 9, 0, 7, true},
		{0, top, 1, top, 0, true},
		{1, 0, 2, 1 << 63, 0, true},
		{1, 1, 1 << 63, 2, 1, true},
		{top - 1, top, top, top, top - 1, true},
		{0, 1, 0, 0, 0, false},
		{0, 0, 0, 0, 0, false},
		{top, top, 0, 0, 0, false},
		{1, 0, 1, 0, 0, false},
		{5, 0, 5, 0, 0, false},
		{6, 1, 5, 0, 0, false},
		{top, top, top, 0, 0, false},
		// Here guesses of a half are too great: by one and one, none and two, two and none.
		{0x80000000, 0, 1<<63 + 1, 0xffffffff, 0x7fffffff00000001, true},
		{0xffffffff, 0, 0x80000000ffffffff, 0x1fffffffa, 0x7fffffffa, true},
		{1 << 63, 0, 0x80000000ffffffff, 0xfffffffe00000005, 0x7ffffff900000005, true},
	} {
		q, r, is := Div(x.hi, x.lo, x.d)
		if q != x.q || r != x.r || is != x.is {
			t.Errorf("Div(%d, %d, %d) = %d, %d, %v", x.hi, x.lo, x.d, q, r, is)
		}
	}
	for _, x := range pairs() {
		for _, d := range append(edges(), x.hi, x.hi+1, x.lo, x.hi^x.lo, x.hi|1<<63) {
			checkDiv(t, x, d)
		}
	}
}

// checkDiv holds P1.2, and the first half of P1.4, for one number and one divisor.
func checkDiv(t *testing.T, x number, d uint64) {
	t.Helper()
	q, r, is := Div(x.hi, x.lo, d)
	if is != (x.hi < d) {
		t.Fatalf("Div(%v, %d) answers %v", x, d, is)
	}
	if !is {
		if q != 0 || r != 0 {
			t.Fatalf("Div(%v, %d) = %d, %d, where there is nothing", x, d, q, r)
		}
		return
	}
	back := new(big.Int).Mul(of(q), of(d))
	if back.Add(back, of(r)).Cmp(wideOf(x.hi, x.lo)) != 0 || r >= d {
		t.Fatalf("Div(%v, %d) = %d, %d", x, d, q, r)
	}
}

// P1.3: the root is the greatest one.
func TestSqrt(t *testing.T) {
	for _, x := range []struct{ hi, lo, root uint64 }{
		{0, 0, 0},
		{0, 1, 1},
		{0, 2, 1},
		{0, 3, 1},
		{0, 4, 2},
		{0, 99, 9},
		{0, 100, 10},
		{0, top, 1<<32 - 1},
		{1, 0, 1 << 32},
		{1, 1, 1 << 32},
		{4, 0, 1 << 33},
		{1 << 62, 0, 1 << 63},
		{top - 1, 0, top - 1},
		{top - 1, 1, top},
		{top, top, top},
	} {
		if root := Sqrt(x.hi, x.lo); root != x.root {
			t.Errorf("Sqrt(%d, %d) = %d", x.hi, x.lo, root)
		}
	}
	for _, x := range pairs() {
		if root := Sqrt(x.hi, x.lo); new(big.Int).Sqrt(wideOf(x.hi, x.lo)).Cmp(of(root)) != 0 {
			t.Fatalf("Sqrt(%v) = %d", x, root)
		}
	}
}

// P1.3: what is one below a square has a root that is one less.
func TestSqrtAtSquares(t *testing.T) {
	for _, n := range append(edges(), many(2000)...) {
		if n == 0 {
			continue
		}
		hi, lo := Mul(n, n)
		if root := Sqrt(hi, lo); root != n {
			t.Fatalf("the root of the square of %d is %d", n, root)
		}
		below := wideOf(hi, lo)
		below.Sub(below, big.NewInt(1))
		low := new(big.Int).And(below, of(top)).Uint64()
		high := new(big.Int).Rsh(below, 64).Uint64()
		if root := Sqrt(high, low); root != n-1 {
			t.Fatalf("the root below the square of %d is %d", n, root)
		}
	}
}

// P1.3: how many bits there are, less one.
func TestLog(t *testing.T) {
	if k := Log(0); k != -1 {
		t.Errorf("Log(0) = %d", k)
	}
	for k := range 64 {
		bit := uint64(1) << k
		for _, n := range []uint64{bit, bit | 1, bit | (bit - 1)} {
			if Log(n) != k {
				t.Errorf("Log(%d) = %d", n, Log(n))
			}
		}
	}
	for _, n := range append(edges(), many(2000)...) {
		if Log(n) != of(n).BitLen()-1 {
			t.Errorf("Log(%d) = %d", n, Log(n))
		}
	}
}

// P1.4: what is divided is the quotient times the divisor, and the rest, by the calls of this layer alone.
func TestDivComesBack(t *testing.T) {
	for _, x := range pairs() {
		for _, d := range []uint64{x.hi + 1, top, x.hi | 1<<63, x.hi | 1} {
			q, r, is := Div(x.hi, x.lo, d)
			if !is {
				continue
			}
			ph, pl := Mul(q, d)
			hi, lo, more := Plus(ph, pl, 0, r)
			if hi != x.hi || lo != x.lo || more || r >= d {
				t.Fatalf("Div(%v, %d) = %d, %d does not come back", x, d, q, r)
			}
		}
	}
}

// P1.4: roots and quotients do not fall when what they are of rises.
func TestRise(t *testing.T) {
	all := pairs()
	for i, x := range all {
		y := all[len(all)-1-i]
		if Less(y.hi, y.lo, x.hi, x.lo) {
			x, y = y, x
		}
		if Sqrt(x.hi, x.lo) > Sqrt(y.hi, y.lo) {
			t.Fatalf("the root falls from %v to %v", x, y)
		}
		for _, d := range edges() {
			q, _, is := Div(x.hi, x.lo, d)
			p, _, too := Div(y.hi, y.lo, d)
			if too && (!is || q > p) {
				t.Fatalf("the quotient by %d falls from %v to %v", d, x, y)
			}
		}
	}
}
