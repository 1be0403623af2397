package fix

import (
	"math"
	"math/big"
	"slices"
	"testing"

	"analemma/api"
)

const (
	top    = api.Max
	second = api.Second
	least  = math.MinInt64
)

// edges are the numbers about which what is cut, what is rounded and what is a root turn, with both signs.
func edges() []int64 {
	l := []int64{0, least}
	for _, x := range []int64{1, 2, 3, 5, 7, 10, 1e9, 3037000499, 3037000500, top - 2, top - 1, top} {
		l = append(l, x, -x)
	}
	for _, k := range []int{15, 16, 30, 31, 32, 33, 46, 47, 48, 61, 62} {
		bit := int64(1) << k
		l = append(l, bit-1, bit, bit+1, -bit-1, -bit, -bit+1)
	}
	return l
}

// many tells as many numbers, of all lengths and both signs, the same ones each time.
func many(n int) []int64 {
	var l []int64
	state := uint64(88172645463325252)
	for i := range n {
		state ^= state << 13
		state ^= state >> 7
		state ^= state << 17
		l = append(l, int64(state)>>(i*7%64))
	}
	return l
}

// ofTwo calls f with all pairs of edges, and of some others.
func ofTwo(f func(a, b int64)) {
	for _, a := range edges() {
		for _, b := range edges() {
			f(a, b)
		}
	}
	others := many(4000)
	for i := 0; i < len(others); i += 2 {
		f(others[i], others[i+1])
	}
}

// pair is two numbers, and what a call answers of them.
type pair struct{ a, b, is int64 }

// checkPairs holds a call against answers that are written out, and against whole numbers of any length.
func checkPairs(t *testing.T, call func(a, b int64) int64, examples []pair, whole func(a, b *big.Int) *big.Int) {
	t.Helper()
	for _, x := range examples {
		if is := call(x.a, x.b); is != x.is {
			t.Errorf("of %d, %d: %d, not %d", x.a, x.b, is, x.is)
		}
	}
	ofTwo(func(a, b int64) {
		if is, should := call(a, b), cutOf(whole(big.NewInt(a), big.NewInt(b))); is != should {
			t.Fatalf("of %d, %d: %d, not %d", a, b, is, should)
		}
	})
}

// cutOf cuts a whole number of any length.
func cutOf(n *big.Int) int64 {
	if n.Cmp(big.NewInt(top)) > 0 {
		return top
	}
	if n.Cmp(big.NewInt(-top)) < 0 {
		return -top
	}
	return n.Int64()
}

// floor tells a by b, which is not 0, rounded down.
func floor(a, b *big.Int) *big.Int {
	if b.Sign() < 0 {
		a, b = new(big.Int).Neg(a), new(big.Int).Neg(b)
	}
	return new(big.Int).Div(a, b)
}

// times tells a times 2^n.
func times(a *big.Int, n uint) *big.Int {
	return new(big.Int).Lsh(a, n)
}

// P2.1: a + b, cut.
func TestAdd(t *testing.T) {
	checkPairs(t, Add, []pair{
		{0, 0, 0},
		{1, 2, 3},
		{5, -7, -2},
		{top, 0, top},
		{top, 1, top},
		{top - 1, 1, top},
		{top, top, top},
		{-top, -1, -top},
		{-top, -top, -top},
		{least, 0, -top},
		{0, least, -top},
		{least, 1, -top},
		{least, 2, -top + 1},
		{least, least, -top},
		{least, top, -1},
	}, func(a, b *big.Int) *big.Int { return new(big.Int).Add(a, b) })
}

// P2.1: a - b, cut; the least number has an opposite here.
func TestSub(t *testing.T) {
	checkPairs(t, Sub, []pair{
		{0, 0, 0},
		{1, 2, -1},
		{5, -7, 12},
		{0, top, -top},
		{-1, top, -top},
		{-2, top, -top},
		{1, -top, top},
		{0, least, top},
		{-1, least, top},
		{-2, least, top - 1},
		{1, least, top},
		{least, 0, -top},
		{least, -1, -top},
		{least, least, 0},
		{least, top, -top},
		{top, least, top},
	}, func(a, b *big.Int) *big.Int { return new(big.Int).Sub(a, b) })
}

// P2.1: the distance from 0, cut.
func TestAbs(t *testing.T) {
	for _, x := range []struct{ a, is int64 }{
		{0, 0}, {1, 1}, {-1, 1}, {second, second}, {-second, second}, {top, top}, {-top, top}, {least, top},
	} {
		if is := Abs(x.a); is != x.is {
			t.Errorf("Abs(%d) = %d", x.a, is)
		}
	}
	for _, a := range append(edges(), many(2000)...) {
		if is := Abs(a); is != cutOf(new(big.Int).Abs(big.NewInt(a))) {
			t.Fatalf("Abs(%d) = %d", a, is)
		}
	}
}

// P2.1: a times b, by 2^32, rounded down and cut.
func TestMul(t *testing.T) {
	checkPairs(t, Mul, []pair{
		{0, 0, 0},
		{0, least, 0},
		{second, second, second},
		{3 * second, second / 2, 3 * second / 2},
		{-3 * second, second / 2, -3 * second / 2},
		{1, 1, 0},
		{-1, 1, -1},
		{1, -1, -1},
		{-1, -1, 0},
		{-1, second - 1, -1},
		{-1, second, -1},
		{-1, second + 1, -2},
		{top, second, top},
		{top, second + 1, top},
		{top, -second, -top},
		{top, -second - 1, -top},
		{least, second, -top},
		{least, -second, top},
		{least, 1, -second / 2},
		{top, top, top},
		{top, least, -top},
		{least, least, top},
		{1 << 47, 1 << 47, 1 << 62},
		{1 << 48, 1 << 47, top},
		{1 << 48, -1 << 47, -top},
	}, func(a, b *big.Int) *big.Int {
		return floor(new(big.Int).Mul(a, b), big.NewInt(second))
	})
}

// P2.1: a times 2^32, by b, rounded down and cut; by 0 the end on a's side.
func TestDiv(t *testing.T) {
	checkPairs(t, Div, []pair{
		{second, 0, top},
		{1, 0, top},
		{top, 0, top},
		{-1, 0, -top},
		{least, 0, -top},
		{0, 0, 0},
		{0, -1, 0},
		{0, least, 0},
		{6 * second, 3 * second, 2 * second},
		{second, 3 * second, second / 3},
		{-second, 3 * second, -second/3 - 1},
		{second, -3 * second, -second/3 - 1},
		{-second, -3 * second, second / 3},
		{1, top, 0},
		{-1, top, -1},
		{1, least, -1},
		{-1, least, 0},
		{top, second, top},
		{top, second - 1, top},
		{-top, second - 1, -top},
		{top, 1, top},
		{top, -1, -top},
		{least, 1, -top},
		{least, -1, top},
		{least, second, -top},
		{least, -second, top},
		{least, least, second},
		{top, least, -second},
		{least, top, -second - 1},
		{1<<31 - 1, 1, top - (second - 1)},
		{1 << 31, 1, top},
		{1 << 31, -1, -top},
	}, func(a, b *big.Int) *big.Int {
		if b.Sign() == 0 {
			return new(big.Int).Mul(big.NewInt(top), big.NewInt(int64(a.Sign())))
		}
		return floor(times(a, 32), b)
	})
}

// P2.2: a times 2^n, rounded down and cut; n counts as 1000 at most, either way.
func TestShift(t *testing.T) {
	for _, x := range []struct {
		a  int64
		n  int
		is int64
	}{
		{3, 0, 3},
		{3, 1, 6},
		{3, -1, 1},
		{-3, -1, -2},
		{-4, -1, -2},
		{-3, 4, -48},
		{1, 62, 1 << 62},
		{1, 63, top},
		{-1, 62, -1 << 62},
		{-1, 63, -top},
		{2, 62, top},
		{1<<31 - 1, 32, top - (second - 1)},
		{least, 0, -top},
		{least, 1, -top},
		{least, -1, -1 << 62},
		{least, -63, -1},
		{least, -64, -1},
		{top, -62, 1},
		{top, -63, 0},
		{-top, -63, -1},
		{-1, -1, -1},
		{0, 1000, 0},
		{0, -1000, 0},
	} {
		if is := Shift(x.a, x.n); is != x.is {
			t.Errorf("Shift(%d, %d) = %d, not %d", x.a, x.n, is, x.is)
		}
	}
	for _, a := range append(edges(), many(300)...) {
		for n := -130; n <= 130; n++ {
			checkShift(t, a, n, n)
		}
		for _, n := range []int{999, 1000, 1001, 1 << 31, 1 << 32, 1<<32 + 1, math.MaxInt - 1, math.MaxInt} {
			checkShift(t, a, n, 1000)
			checkShift(t, a, -n, -1000)
		}
		checkShift(t, a, math.MinInt, -1000)
	}
}

// checkShift holds Shift by n against what it should count as.
func checkShift(t *testing.T, a int64, n, as int) {
	t.Helper()
	whole := times(big.NewInt(a), uint(max(as, 0)))
	should := cutOf(floor(whole, times(big.NewInt(1), uint(max(-as, 0)))))
	if is := Shift(a, n); is != should {
		t.Fatalf("Shift(%d, %d) = %d, not %d", a, n, is, should)
	}
}

// P2.2: 2^n seconds.
func TestPow(t *testing.T) {
	for n, is := range map[int]int64{
		0: second, 1: 2 * second, 4: 16 * second, 30: 1 << 62, 31: top, 32: top, 64: top, 1000: top, math.MaxInt: top,
		-1: second / 2, -31: 2, -32: 1, -33: 0, -64: 0, -1000: 0, math.MinInt: 0,
	} {
		if Pow(n) != is {
			t.Errorf("Pow(%d) = %d", n, Pow(n))
		}
	}
	for n := -1100; n <= 1100; n++ {
		if Pow(n) != Shift(second, n) {
			t.Errorf("Pow(%d) = %d", n, Pow(n))
		}
	}
}

// P2.2: the greatest k for which 2^k seconds are not above a.
func TestLog(t *testing.T) {
	for a, k := range map[int64]int{
		1: -32, 2: -31, 3: -31, second - 1: -1, second: 0, second + 1: 0, 2*second - 1: 0, 2 * second: 1, top: 30,
		0: -33, -1: -33, -second: -33, -top: -33, least: -33,
	} {
		if Log(a) != k {
			t.Errorf("Log(%d) = %d", a, Log(a))
		}
	}
	for _, a := range append(edges(), many(2000)...) {
		k := Log(a)
		if a <= 0 {
			if k != -33 {
				t.Fatalf("Log(%d) = %d", a, k)
			}
			continue
		}
		// 2^31 seconds are cut to Max, which is above no a.
		if k < -32 || k > 30 || Pow(k) > a || k < 30 && Pow(k+1) <= a {
			t.Fatalf("Log(%d) = %d", a, k)
		}
	}
}

// P2.2: the root of a times 2^32, rounded down; 0 of what is below 0.
func TestSqrt(t *testing.T) {
	for a, is := range map[int64]int64{
		0: 0, 1: 1 << 16, 2: 92681, 4: 1 << 17, second: second, 4 * second: 2 * second, second / 4: second / 2, 2 * second: 6074000999,
		top: 199032864766430, 1 << 62: 1 << 47, 1<<62 - 1: 1<<47 - 1,
		-1: 0, -second: 0, -top: 0, least: 0,
	} {
		if Sqrt(a) != is {
			t.Errorf("Sqrt(%d) = %d", a, Sqrt(a))
		}
	}
	for _, a := range append(edges(), many(2000)...) {
		should := new(big.Int).Sqrt(times(big.NewInt(max(a, 0)), 32))
		if is := Sqrt(a); is != should.Int64() {
			t.Fatalf("Sqrt(%d) = %d, not %d", a, is, should)
		}
	}
}

// P2.2: low goes ahead of high, where high is below it; what is told is cut all the same.
func TestClamp(t *testing.T) {
	for _, x := range []struct{ a, low, high, is int64 }{
		{5, 0, 10, 5},
		{-1, 0, 10, 0},
		{0, 0, 10, 0},
		{10, 0, 10, 10},
		{11, 0, 10, 10},
		{5, 5, 5, 5},
		{0, 10, -10, 10},
		{10, 10, -10, -10},
		{11, 10, -10, -10},
		{9, 10, -10, 10},
		{least, least, top, -top},
		{least, -top, top, -top},
		{0, least, least, -top},
		{0, top, top, top},
		{top, least, top, top},
		{least, 3, 2, 3},
	} {
		if is := Clamp(x.a, x.low, x.high); is != x.is {
			t.Errorf("Clamp(%d, %d, %d) = %d", x.a, x.low, x.high, is)
		}
	}
	ofTwo(func(low, high int64) {
		for _, a := range []int64{low, high, 0, least, top, low/2 + high/2} {
			should := a
			if a < low {
				should = low
			} else if a > high {
				should = high
			}
			if is := Clamp(a, low, high); is != cutOf(big.NewInt(should)) {
				t.Fatalf("Clamp(%d, %d, %d) = %d", a, low, high, is)
			}
		}
	})
}

// lists tells lists of all kinds: none, one, ones whose sum has no room in 64 bits, others.
func lists() [][]int64 {
	l := [][]int64{
		nil, {}, edges(),
		slices.Repeat([]int64{top}, 1000), slices.Repeat([]int64{-top}, 1000), slices.Repeat([]int64{least}, 1000),
		slices.Repeat([]int64{top, least}, 501), slices.Repeat([]int64{least, top, -1}, 300),
	}
	for _, x := range edges() {
		l = append(l, []int64{x}, []int64{x, 0, 0}, []int64{x, x + 1}, []int64{x, x, 1})
	}
	all := many(3000)
	for i := 1; i < 75; i++ {
		l = append(l, all[i*i/2:i*i/2+i])
	}
	return l
}

// meanOf tells the mean of whole numbers of any length, rounded down and cut; 0 of none.
func meanOf(l []int64) int64 {
	if len(l) == 0 {
		return 0
	}
	all := new(big.Int)
	for _, x := range l {
		all.Add(all, big.NewInt(x))
	}
	return cutOf(floor(all, big.NewInt(int64(len(l)))))
}

// P2.3: the sum as it is, by how many there are, rounded down.
func TestMean(t *testing.T) {
	for _, x := range []struct {
		l  []int64
		is int64
	}{
		{nil, 0},
		{[]int64{}, 0},
		{[]int64{7}, 7},
		{[]int64{1, 2}, 1},
		{[]int64{-1, -2}, -2},
		{[]int64{-1, 0}, -1},
		{[]int64{-1, 0, 0, 0, 0, 0, 0}, -1},
		{[]int64{1, 1, 0}, 0},
		{[]int64{-3, 3}, 0},
		{[]int64{top}, top},
		{[]int64{least}, -top},
		{[]int64{least, least, least}, -top},
		{[]int64{top, top, top}, top},
		{[]int64{top, top, top, -top, -top}, top / 5},
		{[]int64{top, top, -top, -top}, 0},
		{[]int64{top, least}, -1},
		{[]int64{top, 1, least, 0}, 0},
		{[]int64{least, least, 2}, -top/3*2 - 1},
	} {
		if is := Mean(x.l); is != x.is {
			t.Errorf("Mean(%v) = %d, not %d", x.l, is, x.is)
		}
	}
	for _, l := range lists() {
		if is := Mean(l); is != meanOf(l) {
			t.Fatalf("Mean(%v) = %d, not %d", l, is, meanOf(l))
		}
	}
}

// P2.3: the root of the mean of the squares, each of which is cut.
func TestRoot(t *testing.T) {
	for _, x := range []struct {
		l  []int64
		is int64
	}{
		{nil, 0},
		{[]int64{}, 0},
		{[]int64{0, 0}, 0},
		{[]int64{second}, second},
		{[]int64{-second}, second},
		{[]int64{3 * second, -3 * second}, 3 * second},
		{[]int64{7 * second, second}, 5 * second},
		{[]int64{1}, 0},
		{[]int64{1 << 16}, 1 << 16},
		{[]int64{1<<16 - 1}, 0},
		{[]int64{1 << 16, 0}, 0},
		{[]int64{top}, 199032864766430},
		{[]int64{least, top, -top}, 199032864766430},
		{[]int64{top, 0}, 140737488355327},
	} {
		if is := Root(x.l); is != x.is {
			t.Errorf("Root(%v) = %d, not %d", x.l, is, x.is)
		}
	}
	for _, l := range lists() {
		var squares []int64
		for _, x := range l {
			square := new(big.Int).Mul(big.NewInt(x), big.NewInt(x))
			squares = append(squares, cutOf(floor(square, big.NewInt(second))))
		}
		should := new(big.Int).Sqrt(times(big.NewInt(meanOf(squares)), 32)).Int64()
		if is := Root(l); is != should {
			t.Fatalf("Root(%v) = %d, not %d", l, is, should)
		}
	}
}

// R3, R5: lists stay as they are, also behind their length, and what is told once is told again.
func TestListsStay(t *testing.T) {
	for _, call := range []func([]int64) int64{Mean, Root} {
		whole := []int64{5 * second, -second, top, least, 9}
		before := slices.Clone(whole)
		first := call(whole[:3])
		if call(edges()); call(whole[:3]) != first {
			t.Error("what is told hangs on what was told ahead of it")
		}
		if !slices.Equal(whole, before) {
			t.Errorf("the list became %v", whole)
		}
	}
}

// P2.4: what is of more is no less.
func TestRise(t *testing.T) {
	others := edges()
	ofTwo(func(a, b int64) {
		a, b = min(a, b), max(a, b)
		if Sqrt(a) > Sqrt(b) {
			t.Fatalf("Sqrt falls from %d to %d", a, b)
		}
		for _, x := range others {
			if Add(a, x) > Add(b, x) || Add(x, a) > Add(x, b) {
				t.Fatalf("Add of %d falls from %d to %d", x, a, b)
			}
			if x >= 0 && (Mul(a, x) > Mul(b, x) || Mul(x, a) > Mul(x, b)) {
				t.Fatalf("Mul of %d falls from %d to %d", x, a, b)
			}
			if x > 0 && Div(a, x) > Div(b, x) {
				t.Fatalf("Div by %d falls from %d to %d", x, a, b)
			}
		}
		for _, n := range []int{math.MinInt, -1000, -64, -63, -33, -1, 0, 1, 31, 62, 63, 64, 1000, math.MaxInt} {
			if Shift(a, n) > Shift(b, n) {
				t.Fatalf("Shift by %d falls from %d to %d", n, a, b)
			}
		}
	})
}

// P2.4: no answer is the least int64.
func TestNeverLeast(t *testing.T) {
	ofTwo(func(a, b int64) {
		answers := []int64{
			Add(a, b), Sub(a, b), Abs(a), Mul(a, b), Div(a, b), Shift(a, int(b)), Shift(a, int(b%70)), Pow(int(a)), Sqrt(a),
			Clamp(a, b, b), Clamp(b, a, b), Clamp(a, least, b), Mean([]int64{a, b}), Mean([]int64{a, a, a}), Root([]int64{a, b}),
		}
		if slices.Contains(answers, least) {
			t.Fatalf("of %d, %d: %v", a, b, answers)
		}
	})
}
