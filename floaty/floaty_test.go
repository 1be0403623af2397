package floaty

import (
	"math"
	"math/big"
	"slices"
	"testing"

	"analemma/api"
)

const (
	top    = api.Max
	least  = math.MinInt64
	second = api.Second
	tooFar = 1 << 31

	tiny     = math.SmallestNonzeroFloat64
	greatest = math.MaxFloat64
	normal   = 0x1p-1022
)

var (
	nan    = math.NaN()
	above  = math.Inf(1)
	below  = math.Inf(-1)
	signed = math.Copysign(0, -1)
)

// nans are numbers that are none, by other bits each: with a sign and without, quiet and not.
func nans() []float64 {
	var l []float64
	for _, bits := range []uint64{0x7ff8000000000001, 0x7ff8000000000000, 0x7ff0000000000001, 0x7fffffffffffffff} {
		l = append(l, math.Float64frombits(bits), math.Float64frombits(bits|1<<63))
	}
	return append(l, nan)
}

// finite are numbers about which kinds, rounding and limits turn, with both signs.
func finite() []float64 {
	var l []float64
	for _, x := range []float64{
		0, tiny, 2 * tiny, normal, math.Nextafter(normal, 0), 0x1p-64, 0x1p-33, 0x1p-32, 0x1.8p-32, 0.001, 0.1, 0.5, 1, 1.5, math.Pi, 10, 16, 3600, 1e5, 1e9,
		0x1p20, 0x1p20 + 0x1p-32, 0x1p21 - 0x1p-32, tooFar - 1, tooFar - 0.5, tooFar, tooFar + 1, 0x1p32, 0x1p52, 0x1p53, 0x1p63, 0x1p64, 1e300, greatest,
	} {
		l = append(l, x, math.Copysign(x, -1), math.Nextafter(x, 0), -math.Nextafter(x, 0))
		if x < greatest {
			l = append(l, math.Nextafter(x, above), -math.Nextafter(x, above))
		}
	}
	return append(l, many(3000)...)
}

// bitsOf tells as many numbers of 64 bits, the same ones each time.
func bitsOf(n int) []uint64 {
	var l []uint64
	state := uint64(88172645463325252)
	for range n {
		state ^= state << 13
		state ^= state >> 7
		state ^= state << 17
		l = append(l, state)
	}
	return l
}

// many tells as many finite numbers: some of any bits, most of them about the size of seconds.
func many(n int) []float64 {
	var l []float64
	for i, bits := range bitsOf(n) {
		if i%4 > 0 {
			// Exponents from -36 to 35.
			bits = bits&^(0x7ff<<52) | uint64(1023-36+i%72)<<52
		}
		if f := math.Float64frombits(bits); !math.IsNaN(f) && !math.IsInf(f, 0) {
			l = append(l, f)
		}
	}
	return l
}

// wholes tells numbers of 2^-32 seconds of all lengths, with both signs, those at which rounding turns among them.
func wholes() []int64 {
	l := []int64{0, least, -top, top}
	for k := range 63 {
		bit := int64(1) << k
		for d := int64(-3); d <= 3; d++ {
			l = append(l, bit+d, -bit-d)
		}
	}
	for i, bits := range bitsOf(3000) {
		l = append(l, int64(bits)>>(i%64))
	}
	return l
}

// floorOf tells f times 2^32, rounded down, by whole numbers of any length.
func floorOf(f float64) *big.Int {
	r := new(big.Rat).SetFloat64(f)
	r.Mul(r, new(big.Rat).SetInt64(second))
	return new(big.Int).Div(r.Num(), r.Denom())
}

// same tells whether both are the same number, bit by bit.
func same(a, b float64) bool {
	return math.Float64bits(a) == math.Float64bits(b)
}

// told is what Of and Within answer.
type told struct {
	a int64
	e api.Errno
}

func of(f float64) told {
	a, e := Of(f)
	return told{a, e}
}

func within(f, low, high float64) told {
	a, e := Within(f, low, high)
	return told{a, e}
}

// ok and bad tell what is answered of a number that has room, and of one that has an error.
func ok(a int64) told      { return told{a, api.OK} }
func bad(e api.Errno) told { return told{0, e} }

// P3.1: no number is 0, whatever its bits are.
func TestKindOfNaN(t *testing.T) {
	for _, f := range nans() {
		if Kind(f) != 0 {
			t.Errorf("Kind of bits %x = %d", math.Float64bits(f), Kind(f))
		}
	}
}

// P3.1: each kind, and the numbers at its ends.
func TestKind(t *testing.T) {
	for _, x := range []struct {
		f    float64
		kind int
	}{
		{above, 1}, {below, 2}, {0, 3}, {signed, 4},
		{tiny, 5}, {normal, 5}, {0.5, 5}, {1, 5}, {greatest, 5}, {tooFar, 5},
		{-tiny, 6}, {-normal, 6}, {-0.5, 6}, {-1, 6}, {-greatest, 6}, {-tooFar, 6},
	} {
		if Kind(x.f) != x.kind {
			t.Errorf("Kind(%g) = %d, not %d", x.f, Kind(x.f), x.kind)
		}
	}
	for _, f := range finite() {
		if f > 0 && Kind(f) != 5 || f < 0 && Kind(f) != 6 {
			t.Fatalf("Kind(%g) = %d", f, Kind(f))
		}
	}
}

// P3.2: what is no number, what is infinite, and what has no room is an error, and tells nothing else.
func TestOfErrors(t *testing.T) {
	for _, f := range nans() {
		if of(f) != bad(api.ErrNaN) {
			t.Errorf("Of of bits %x = %v", math.Float64bits(f), of(f))
		}
	}
	for _, f := range []float64{above, below} {
		if of(f) != bad(api.ErrInf) {
			t.Errorf("Of(%g) = %v", f, of(f))
		}
	}
	for _, f := range []float64{tooFar, math.Nextafter(tooFar, above), tooFar + 1, 0x1p32, 0x1p63, 0x1p64, 1e300, greatest} {
		if of(f) != bad(api.ErrRange) || of(-f) != bad(api.ErrRange) {
			t.Errorf("Of of %g = %v, of its negative one %v", f, of(f), of(-f))
		}
	}
}

// P3.2: as many 2^-32 seconds, rounded down.
func TestOf(t *testing.T) {
	for _, x := range []struct {
		f float64
		a int64
	}{
		{0, 0}, {signed, 0},
		{1, second}, {-1, -second}, {0.5, second / 2}, {-0.5, -2147483648}, {1.5, 3 * second / 2},
		{0x1p-32, 1}, {-0x1p-32, -1}, {0x1.8p-32, 1}, {-0x1.8p-32, -2}, {0x1p-33, 0}, {-0x1p-33, -1},
		{tiny, 0}, {-tiny, -1}, {normal, 0}, {-normal, -1},
		{math.Nextafter(0x1p-32, 0), 0}, {-math.Nextafter(0x1p-32, 0), -1},
		{math.Nextafter(1, 2), second}, {-math.Nextafter(1, 2), -second - 1},
		{math.Nextafter(1, 0), second - 1}, {-math.Nextafter(1, 0), -second},
		{0.1, 429496729}, {-0.1, -429496730},
		{tooFar - 1, (tooFar - 1) * second}, {1 - tooFar, (1 - tooFar) * second},
		{math.Nextafter(tooFar, 0), top - 1023}, {-math.Nextafter(tooFar, 0), -top + 1023},
	} {
		if of(x.f) != ok(x.a) {
			t.Errorf("Of(%g) = %v, not %d", x.f, of(x.f), x.a)
		}
	}
	for _, f := range finite() {
		should := bad(api.ErrRange)
		if f > -tooFar && f < tooFar {
			should = ok(floorOf(f).Int64())
		}
		if of(f) != should {
			t.Fatalf("Of(%g) = %v, not %v", f, of(f), should)
		}
	}
}

// P3.2: the number next to a; of two that are as near the one whose last bit is 0.
func TestTo(t *testing.T) {
	for _, x := range []struct {
		a int64
		f float64
	}{
		{0, 0}, {1, 0x1p-32}, {-1, -0x1p-32}, {second, 1}, {-second, -1}, {second / 2, 0.5}, {-3 * second / 2, -1.5},
		{1<<53 - 1, 0x1p21 - 0x1p-32}, {1 << 53, 0x1p21},
		{1<<53 + 1, 0x1p21}, {1<<53 + 2, 0x1p21 + 0x1p-31}, {1<<53 + 3, 0x1p21 + 0x1p-30}, {-1<<53 - 1, -0x1p21}, {-1<<53 - 3, -0x1p21 - 0x1p-30},
		{top, tooFar}, {-top, -tooFar}, {least, -tooFar},
		{top - 511, tooFar}, {top - 512, math.Nextafter(tooFar, 0)},
	} {
		if !same(To(x.a), x.f) {
			t.Errorf("To(%d) = %g, not %g", x.a, To(x.a), x.f)
		}
	}
	for _, a := range wholes() {
		should, _ := new(big.Rat).SetFrac(big.NewInt(a), big.NewInt(second)).Float64()
		if !same(To(a), should) {
			t.Fatalf("To(%d) = %g, not %g", a, To(a), should)
		}
	}
}

// P3.3: Of's error of f goes first, then that of low, then that of high, and all of them ahead of the bounds.
func TestWithinErrors(t *testing.T) {
	faulty := []struct {
		f float64
		e api.Errno
	}{{nan, api.ErrNaN}, {above, api.ErrInf}, {below, api.ErrInf}, {tooFar, api.ErrRange}, {-tooFar, api.ErrRange}, {greatest, api.ErrRange}}
	for _, x := range faulty {
		for _, y := range append(finite()[:40], nan, above, below) {
			if is := within(x.f, y, 1); is != bad(x.e) {
				t.Fatalf("Within(%g, %g, 1) = %v, not %d", x.f, y, is, x.e)
			}
			if is := within(x.f, -1, y); is != bad(x.e) {
				t.Fatalf("Within(%g, -1, %g) = %v, not %d", x.f, y, is, x.e)
			}
			if is := within(2, x.f, y); is != bad(x.e) {
				t.Fatalf("Within(2, %g, %g) = %v, not %d", x.f, y, is, x.e)
			}
		}
		for _, f := range []float64{-3, -1, 0, 1, 3} {
			if is := within(f, -1, x.f); is != bad(x.e) {
				t.Fatalf("Within(%g, -1, %g) = %v, not %d", f, x.f, is, x.e)
			}
			if is := within(f, x.f, 1); is != bad(x.e) {
				t.Fatalf("Within(%g, %g, 1) = %v, not %d", f, x.f, is, x.e)
			}
		}
	}
}

// P3.3: both bounds are within; what is beyond them is ErrRange, also if it is the same in 2^-32 seconds.
func TestWithin(t *testing.T) {
	for _, x := range []struct {
		f, low, high float64
		is           told
	}{
		{1, 0, 2, ok(second)},
		{0, 0, 2, ok(0)},
		{2, 0, 2, ok(2 * second)},
		{-0.5, -0.5, -0.5, ok(-second / 2)},
		{-0x1.8p-32, -1, 1, ok(-2)},
		{math.Nextafter(2, 3), 0, 2, bad(api.ErrRange)},
		{-tiny, 0, 2, bad(api.ErrRange)},
		{tiny, 0, 0, bad(api.ErrRange)},
		{0x1p-40, 0x1p-39, 1, bad(api.ErrRange)},
		{0x1p-39, 0, 0x1p-40, bad(api.ErrRange)},
		{3, 0, 2, bad(api.ErrRange)},
		{-3, 0, 2, bad(api.ErrRange)},
		{1, 2, 0, bad(api.ErrRange)},
		{2, 2, 0, bad(api.ErrRange)},
		{0, 2, 0, bad(api.ErrRange)},
		{3, 2, 0, bad(api.ErrRange)},
		{signed, 0, 1, ok(0)},
		{0, signed, 1, ok(0)},
		{0, -1, signed, ok(0)},
		{signed, -1, 0, ok(0)},
		{math.Nextafter(tooFar, 0), 0, math.Nextafter(tooFar, 0), ok(top - 1023)},
		{-math.Nextafter(tooFar, 0), -math.Nextafter(tooFar, 0), 0, ok(-top + 1023)},
	} {
		if is := within(x.f, x.low, x.high); is != x.is {
			t.Errorf("Within(%g, %g, %g) = %v, not %v", x.f, x.low, x.high, is, x.is)
		}
	}
}

// P3.3: of any three numbers what they say, one by one.
func TestWithinOfMany(t *testing.T) {
	all := many(3000)
	for i := range len(all) - 2 {
		f, low, high := all[i], all[i+1], all[i+2]
		should := of(f)
		for _, bound := range []float64{low, high} {
			if should.e == api.OK && of(bound).e != api.OK {
				should = bad(of(bound).e)
			}
		}
		if should.e == api.OK && (f < low || f > high) {
			should = bad(api.ErrRange)
		}
		if is := within(f, low, high); is != should {
			t.Fatalf("Within(%g, %g, %g) = %v, not %v", f, low, high, is, should)
		}
	}
}

// P3.3: the greatest number that is no NaN; of both noughts the one without a sign; nothing of none.
func TestMax(t *testing.T) {
	for _, x := range []struct {
		l     []float64
		f     float64
		found bool
	}{
		{nil, 0, false},
		{[]float64{}, 0, false},
		{[]float64{nan}, 0, false},
		{nans(), 0, false},
		{[]float64{1}, 1, true},
		{[]float64{-1}, -1, true},
		{[]float64{1, 3, 2}, 3, true},
		{[]float64{-3, -1, -2}, -1, true},
		{[]float64{-1, -2, -3}, -1, true},
		{[]float64{nan, 1}, 1, true},
		{[]float64{1, nan}, 1, true},
		{[]float64{nan, -1, nan, -2, nan}, -1, true},
		{append(nans(), -5), -5, true},
		{[]float64{0, signed}, 0, true},
		{[]float64{signed, 0}, 0, true},
		{[]float64{signed}, signed, true},
		{[]float64{0}, 0, true},
		{[]float64{signed, -1, nan}, signed, true},
		{[]float64{-tiny, signed}, signed, true},
		{[]float64{0, tiny}, tiny, true},
		{[]float64{above, greatest}, above, true},
		{[]float64{greatest, above, nan}, above, true},
		{[]float64{below}, below, true},
		{[]float64{below, -greatest}, -greatest, true},
		{[]float64{nan, below, nan}, below, true},
		{[]float64{below, above}, above, true},
		{[]float64{normal, math.Nextafter(normal, 0)}, normal, true},
	} {
		if f, found := Max(x.l); !same(f, x.f) || found != x.found {
			t.Errorf("Max(%g) = %g, %t", x.l, f, found)
		}
	}
}

// P3.3: what is told is in the list, and nothing in it is above.
func TestMaxOfMany(t *testing.T) {
	all := append(finite(), above, below)
	for i := range len(all) {
		l := all[i:min(i+1+i%9, len(all))]
		is, found := Max(l)
		if !found || !slices.Contains(l, is) || slices.Max(l) != is {
			t.Fatalf("Max(%g) = %g, %t", l, is, found)
		}
	}
}

// P3.4: what is of more is no less.
func TestRise(t *testing.T) {
	l := slices.DeleteFunc(finite(), func(f float64) bool { return f <= -tooFar || f >= tooFar })
	slices.Sort(l)
	for i := range len(l) - 1 {
		if of(l[i]).e != api.OK || of(l[i]).a > of(l[i+1]).a {
			t.Fatalf("Of falls from %v of %g to %v of %g", of(l[i]), l[i], of(l[i+1]), l[i+1])
		}
	}
	a := wholes()
	slices.Sort(a)
	for i := range len(a) - 1 {
		if To(a[i]) > To(a[i+1]) {
			t.Fatalf("To falls from %d to %d", a[i], a[i+1])
		}
	}
}

// P3.4: what is told by no more than 53 bits comes back.
func TestBack(t *testing.T) {
	comes := func(a int64) {
		if is := of(To(a)); is != ok(a) {
			t.Fatalf("%d comes back as %v", a, is)
		}
	}
	for _, a := range wholes() {
		kept := a >> 11
		for n := range 11 {
			comes(kept << n)
		}
		// Of 2^-32 seconds the least int64 is none, though one bit tells it.
		if last := a >> 11 << 11; last != least {
			comes(last)
		}
	}
	comes(1<<53 - 1)
	comes(1 - 1<<53)
	comes((1<<53 - 1) << 10)
	comes(-(1<<53 - 1) << 10)
	if of(To(least)) != bad(api.ErrRange) {
		t.Errorf("the least int64 comes back as %v", of(To(least)))
	}
}

// R3, R5: a list stays as it is, what lies behind its length does not matter, and what is told once is told again.
func TestListStays(t *testing.T) {
	whole := []float64{2, nan, signed, 3, 7}
	before := slices.Clone(whole)
	for range 2 {
		if f, found := Max(whole[:4]); f != 3 || !found {
			t.Errorf("Max = %g, %t", f, found)
		}
		Max([]float64{above})
	}
	if !slices.EqualFunc(whole, before, same) {
		t.Errorf("the list became %g", whole)
	}
}

// R1: of any bits each call ends, and what is told fits together.
func TestAnyBits(t *testing.T) {
	for _, bits := range bitsOf(5000) {
		f := math.Float64frombits(bits)
		e := of(f).e
		if (e == api.ErrNaN) != (Kind(f) == 0) || (e == api.ErrInf) != (Kind(f) == 1 || Kind(f) == 2) {
			t.Fatalf("of bits %x: kind %d, error %d", bits, Kind(f), e)
		}
		if is := within(f, f, f); is != of(f) {
			t.Fatalf("of bits %x: within itself %v, not %v", bits, is, of(f))
		}
	}
}
