package sample

import (
	"math"
	"math/big"
	"testing"

	"analemma/api"
	"analemma/setup"
)

const (
	second = api.Second
	half   = 1 << 63
	last   = math.MaxUint64
	raw    = 77 * second
	sum0   = -3 * second
)

// usual tells what is standard.
func usual(t *testing.T) setup.Params {
	t.Helper()
	p, _, e := setup.Check(setup.Standard())
	if e != api.OK {
		t.Fatal(e)
	}
	return p
}

// phi tells what lets dispersions grow by that, and names nothing else.
func phi(by int64) setup.Params {
	return setup.Params{Phi: by}
}

// answer tells a header with those times, and the precision that adds nothing.
func answer(origin, receive, transmit uint64) api.Header {
	return api.Header{Origin: origin, Receive: receive, Transmit: transmit, Precision: -40}
}

// draws hands on numbers of 64 bits, the same ones each time.
func draws() func() uint64 {
	state := uint64(88172645463325252)
	return func() uint64 {
		state ^= state << 13
		state ^= state >> 7
		state ^= state << 17
		return state
	}
}

// checkMake holds what Make tells of an answer that was back then against what it should tell.
func checkMake(t *testing.T, p setup.Params, own int, h api.Header, back uint64, offset, delay, disp int64) {
	t.Helper()
	should := api.Sample{Offset: offset, Delay: delay, Disp: disp, At: raw, Total: sum0}
	if s, e := Make(p, own, h, back, raw, sum0); s != should || e != api.OK {
		t.Errorf("Make of %d, %+v, %d = %+v, %d, not %+v", own, h, back, s, e, should)
	}
}

// checkArg holds that Make refuses what it is given.
func checkArg(t *testing.T, h api.Header, back uint64, at int64) {
	t.Helper()
	if s, e := Make(usual(t), -20, h, back, at, sum0); s != (api.Sample{}) || e != api.ErrArg {
		t.Errorf("Make of %+v, %d, at %d = %+v, %d", h, back, at, s, e)
	}
}

// P13.1: the chapter's example, and offsets and delays that are reckoned by hand.
func TestMakeTimes(t *testing.T) {
	for _, x := range []struct{ origin, receive, transmit, back, offset, delay int64 }{
		{0, 10 * second, 10 * second, 4 * second, 8 * second, 4 * second},
		{0, 0, 0, 0, 0, 0},
		{0, 2 * second, 3 * second, 5 * second, 0, 4 * second},
		{5 * second, 5 * second, 5 * second, 5 * second, 0, 0},
		{100, 50, 60, 120, -55, 10},
		{100, 150, 160, 120, 45, 10},
		{0, 1, 1, 0, 1, 0},
		// Means are rounded down.
		{0, 0, 0, 1, -1, 1}, {0, 1, 1, 1, 0, 1}, {0, 0, 0, 3, -2, 3}, {0, 3, 3, 1, 2, 1}, {0, 4, 4, 1, 3, 1}, {10, 0, 0, 11, -11, 1},
		// A server that kept it for longer than it was away is told by no delay below Pow of own.
		{0, 0, 5, 3, 1, 0}, {0, 0, 100 * second, second, 99 * second / 2, 0},
		// Eras end between times, which are as far apart as they are.
		{-5, -3, 2, 7, -2, 7}, {-5, 5, 5, -1, 8, 4}, {5, -5, -5, 9, -12, 4},
	} {
		h := answer(uint64(x.origin), uint64(x.receive), uint64(x.transmit))
		checkMake(t, phi(0), -40, h, uint64(x.back), x.offset, x.delay, 0)
		// Where the era begins tells nothing.
		for _, on := range []uint64{1, 3600 * second, half - 3, half, last - 7} {
			h := answer(uint64(x.origin)+on, uint64(x.receive)+on, uint64(x.transmit)+on)
			checkMake(t, phi(0), -40, h, uint64(x.back)+on, x.offset, x.delay, 0)
		}
	}
}

// P13.1: differences that are nearly half an era are told whole; half an era is told as ahead, and cut.
func TestMakeFar(t *testing.T) {
	checkMake(t, phi(0), -40, answer(0, half-1, half-1), 0, api.Max, 0, 0)
	checkMake(t, phi(0), -40, answer(0, half, half), 0, -api.Max, 0, 0)
	checkMake(t, phi(0), -40, answer(0, half+1, half+1), 0, -api.Max, 0, 0)
	checkMake(t, phi(0), -40, answer(0, half, half), 1, 0, 1, 0)
	checkMake(t, phi(0), -40, answer(0, half, half+1), 1, -api.Max, 0, 0)
	checkMake(t, phi(0), -40, answer(0, 0, 0), half-1, -(1 << 62), api.Max, 0)
	checkMake(t, phi(0), -40, answer(0, 0, half-1), half-1, 0, 0, 0)
	checkMake(t, phi(0), -40, answer(0, 0, half-1), 0, 1<<62-1, 0, 0)
	checkMake(t, phi(0), -40, answer(0, last, half-2), half-1, -1, 0, 0)
}

// P13.1: a delay is no less than Pow of own, whatever that is.
func TestMakeOwn(t *testing.T) {
	for _, x := range []struct {
		own int
		pow int64
	}{
		{math.MinInt, 0}, {-1001, 0}, {-33, 0}, {-32, 1}, {-31, 2}, {-20, 1 << 12}, {-1, second / 2}, {0, second}, {1, 2 * second},
		{30, 1 << 62}, {31, api.Max}, {32, api.Max}, {1001, api.Max}, {math.MaxInt, api.Max},
	} {
		h := answer(second, second, second)
		for _, way := range []int64{0, 1, 2, 3, 1<<12 - 1, 1 << 12, 1<<12 + 1, second, api.Max} {
			checkMake(t, phi(0), x.own, h, uint64(second+way), -(way+1)/2, max(way, x.pow), x.pow)
		}
		// The longer it was kept, the less it was on its way.
		checkMake(t, phi(0), x.own, answer(0, 0, 5), 2, 1, x.pow, x.pow)
		checkMake(t, phi(0), x.own, answer(0, 0, half-1), 0, 1<<62-1, x.pow, x.pow)
	}
}

// P13.1: a dispersion is both precisions, and Phi times how long it was away.
func TestMakeDisp(t *testing.T) {
	for _, x := range []struct {
		phi       int64
		its, own  int
		away      int64
		disp, pow int64
	}{
		{0, -20, -18, 0, 1<<12 + 1<<14, 1 << 14},
		{0, -32, -32, 9, 2, 1}, {0, -33, -32, 9, 1, 1}, {0, -32, -33, 9, 1, 0}, {0, 0, 0, 9, 2 * second, second}, {0, -1, 1, 9, 5 * second / 2, 2 * second},
		{second, -32, -31, 9, 12, 2}, {2 * second, -33, -33, 9, 18, 0}, {second / 2, -33, -33, 9, 4, 0}, {64424, -20, -20, 1000 * second, 2<<12 + 64424*1000, 1 << 12},
		// Rounded down: a hundred times a hundredth is as much less than one as the hundredth was rounded.
		{second / 100, -33, -33, 100, 0, 0}, {second / 100, -33, -33, 101, 1, 0}, {second/100 + 1, -33, -33, 100, 1, 0}, {-1, -33, -33, 1, -1, 0}, {-1, -32, -33, 5, 0, 0}, {-second, -33, -33, 9, -9, 0},
		// Each sum and product is cut by itself.
		{0, 31, -33, 9, api.Max, 0}, {0, 30, 30, 9, api.Max, 1 << 62}, {0, 100, 100, 9, api.Max, api.Max}, {0, math.MaxInt, math.MinInt, 9, api.Max, 0}, {0, math.MinInt, math.MaxInt, 9, api.Max, api.Max}, {0, math.MinInt, math.MinInt, 9, 0, 0},
		{-second, 31, 31, 9, api.Max - 9, api.Max}, {api.Max, -33, -33, api.Max, api.Max, 0}, {math.MinInt64, 31, -33, api.Max, 0, 0}, {second, -33, 29, api.Max, api.Max, 1 << 61},
	} {
		h := answer(5, 5, 5)
		h.Precision = x.its
		checkMake(t, phi(x.phi), x.own, h, uint64(5+x.away), -(x.away+1)/2, max(x.away, x.pow), x.disp)
		// How long the server kept it makes the delay less, not the dispersion.
		h.Transmit += uint64(x.away)
		checkMake(t, phi(x.phi), x.own, h, uint64(5+x.away), 0, x.pow, x.disp)
	}
}

// P13.1: ErrArg of what is no raw time; both ends are some.
func TestMakeRaw(t *testing.T) {
	h := answer(0, 10*second, 10*second)
	for _, at := range []int64{math.MinInt64, -api.Max, -second, -1, 1<<62 + 1, api.Max - 1, api.Max} {
		checkArg(t, h, 4*second, at)
		checkArg(t, h, last, at)
	}
	for _, at := range []int64{0, 1, second, 1<<62 - 1, 1 << 62} {
		for _, total := range []int64{math.MinInt64, -api.Max, -1, 0, 1, second, api.Max} {
			should := api.Sample{Offset: 8 * second, Delay: 4 * second, At: at, Total: total}
			if s, e := Make(phi(0), -40, h, 4*second, at, total); s != should || e != api.OK {
				t.Errorf("at %d, %d: %+v, %d", at, total, s, e)
			}
		}
	}
}

// P13.1: ErrArg of an answer that was back ahead of its question, or went ahead of its coming; half an era is ahead.
func TestMakeBackwards(t *testing.T) {
	p := usual(t)
	for _, from := range []uint64{0, 1, 5, 900 * second, half - 1, half, half + 1, last - 1, last} {
		for gap, ahead := range map[uint64]bool{0: false, 1: false, second: false, half - 1: false, half: true, half + 1: true, last - second: true, last: true} {
			for _, elsewhere := range []uint64{0, 3, half, last} {
				slow, quick := answer(from, elsewhere, elsewhere), answer(elsewhere, from, from+gap)
				if ahead {
					checkArg(t, slow, from+gap, raw)
					checkArg(t, quick, elsewhere, raw)
					checkArg(t, answer(from, from, from+gap), from+gap, raw)
					continue
				}
				if _, e := Make(p, -20, slow, from+gap, raw, 0); e != api.OK {
					t.Errorf("%+v, %d: %d", slow, from+gap, e)
				}
				if _, e := Make(p, -20, quick, elsewhere, raw, 0); e != api.OK {
					t.Errorf("%+v, %d: %d", quick, elsewhere, e)
				}
			}
		}
	}
	// A server that is ahead of us, or behind us, is no fault, nor one that kept it longer than it was away.
	checkMake(t, phi(0), -40, answer(50*second, 9*second, 9*second), 50*second, -41*second, 0, 0)
	checkMake(t, phi(0), -40, answer(50*second, 9*second, 19*second), 51*second, -73*second/2, 0, 0)
}

// P13.1: nothing counts but four times, both precisions and Phi.
func TestMakeNothingElse(t *testing.T) {
	p, h := usual(t), answer(5*second, 9*second+7, 10*second)
	h.Precision = -18
	should, e := Make(p, -20, h, 7*second, raw, sum0)
	if e != api.OK {
		t.Fatal(e)
	}
	full := h
	full.Leap, full.Version, full.Mode, full.Stratum, full.Poll = 3, -1, 99, 16, 1<<40
	full.RootDelay, full.RootDisp, full.Ref, full.Reference = last>>32, 1<<31, 7, last
	other := setup.Params{Step: -1, Watch: 1, Panic: 2, MaxRate: 3, Phi: p.Phi, MaxDist: 1, Gate: -9, MinPoll: 99, MaxPoll: -99, Burst: 7, MinSane: 8, MinLeft: 9}
	for _, q := range []setup.Params{p, phi(p.Phi), other} {
		for _, g := range []api.Header{h, full} {
			if s, e := Make(q, -20, g, 7*second, raw, sum0); s != should || e != api.OK {
				t.Errorf("%+v, %+v: %+v, %d, not %+v", q, g, s, e, should)
			}
		}
		s := api.Sample{Offset: 5, Delay: 7, Disp: 9, At: raw, Total: sum0}
		if Age(q, s, 2*raw) != Age(p, s, 2*raw) || Span(q, s, 2*raw, 1) != Span(p, s, 2*raw, 1) {
			t.Errorf("%+v counts", q)
		}
	}
}

// P13.2: a dispersion grows from its sample on, by Phi, up to MaxDisp, and does not shrink ahead of it.
func TestAge(t *testing.T) {
	for _, x := range []struct{ phi, disp, from, at, age int64 }{
		{0, 5, 0, 100 * second, 5}, {second, 5, 100, 100, 5}, {second, 5, 100, 101, 6}, {second, 5, 100, 99, 5}, {second, 5, 100, 0, 5}, {second, 5, 100, math.MinInt64, 5},
		{second / 2, 5, 100, 101, 5}, {second / 2, 5, 100, 102, 6}, {second / 2, 5, 100, 103, 6}, {64424, 1 << 12, second, 1001 * second, 1<<12 + 64424*1000},
		{second, 0, 0, api.MaxDisp - 1, api.MaxDisp - 1}, {second, 0, 0, api.MaxDisp, api.MaxDisp}, {second, 0, 0, api.MaxDisp + 1, api.MaxDisp}, {second, 1, 0, api.MaxDisp - 1, api.MaxDisp}, {second, 2, 0, api.MaxDisp - 1, api.MaxDisp},
		{0, api.MaxDisp - 1, 0, 9, api.MaxDisp - 1}, {0, api.MaxDisp, 0, 9, api.MaxDisp}, {0, api.MaxDisp + 1, 0, 9, api.MaxDisp}, {0, api.Max, 0, 9, api.MaxDisp}, {second, api.Max, 0, api.Max, api.MaxDisp},
		// What no Make tells, and no Check, is reckoned likewise.
		{0, -5, 0, 9, -5}, {0, -api.Max, 0, 9, -api.Max}, {0, math.MinInt64, 0, 9, -api.Max}, {second, math.MinInt64, 0, 9, math.MinInt64 + 9}, {-second, 5, 0, 9, -4}, {-1, 5, 0, 1, 4}, {-1, 5, 1, 0, 5}, {-second, -api.Max, 0, 9, -api.Max},
		{second, 0, math.MinInt64, api.Max, api.MaxDisp}, {second, -api.Max, math.MinInt64, api.Max, 0}, {second, -api.Max, -1, api.Max, 0}, {second, -api.Max, 1, api.Max, -1}, {second, 5, api.Max, math.MinInt64, 5},
	} {
		s := api.Sample{Offset: 99, Delay: 77, Disp: x.disp, At: x.from, Total: 55}
		if is := Age(phi(x.phi), s, x.at); is != x.age {
			t.Errorf("Age of %d, %d from %d at %d = %d, not %d", x.phi, x.disp, x.from, x.at, is, x.age)
		}
	}
}

// P13.2: an offset is less by what the clock was corrected by since; a sample ahead of a step of two seconds tells two seconds less behind it.
func TestMove(t *testing.T) {
	for _, x := range []struct{ offset, from, total, move int64 }{
		{5, 7, 7, 5}, {5, 7, 8, 4}, {5, 7, 6, 6}, {2 * second, 0, 2 * second, 0}, {3 * second, second, 3 * second, second}, {-5, -7, -9, -3}, {0, 0, 0, 0},
		{api.Max, 0, -1, api.Max}, {-api.Max, 0, 1, -api.Max}, {api.Max, 0, api.Max, 0}, {0, 0, math.MinInt64, api.Max}, {0, math.MinInt64, 0, -api.Max}, {0, api.Max, -api.Max, api.Max},
		{5, api.Max, -api.Max, api.Max}, {-5, api.Max, -api.Max, api.Max - 5}, {5, -api.Max, api.Max, -api.Max + 5}, {math.MinInt64, 3, 3, -api.Max}, {math.MinInt64, math.MinInt64, math.MinInt64, -api.Max}, {math.MinInt64, 1, 0, -api.Max},
	} {
		s := api.Sample{Offset: x.offset, Delay: 77, Disp: 55, At: 33, Total: x.from}
		if is := Move(s, x.total); is != x.move {
			t.Errorf("Move of %d from %d to %d = %d, not %d", x.offset, x.from, x.total, is, x.move)
		}
	}
}

// P13.2: a span is as far on either side of the offset as half of the delay, rounded up, and the dispersion are.
func TestSpan(t *testing.T) {
	for _, x := range []struct{ offset, delay, disp, low, high int64 }{
		{0, 0, 0, 0, 0}, {5, 0, 0, 5, 5}, {0, 4, 0, -2, 2}, {0, 3, 0, -2, 2}, {0, 1, 0, -1, 1}, {10, 5, 2, 5, 15}, {-10, 6, 2, -15, -5}, {second, second, second, -second / 2, 5 * second / 2},
		{0, 0, api.MaxDisp + 5, -api.MaxDisp, api.MaxDisp}, {0, api.Max, 0, -(1 << 62), 1 << 62}, {0, api.Max - 1, 0, -(1<<62 - 1), 1<<62 - 1},
		{api.Max, 3, 1, api.Max - 3, api.Max}, {-api.Max, 3, 1, -api.Max, -api.Max + 3}, {api.Max, api.Max, 0, 1<<62 - 1, api.Max}, {math.MinInt64, 0, 0, -api.Max, -api.Max},
		// What no Make tells is reckoned likewise, one behind the other.
		{0, -1, 0, 0, 0}, {0, -3, 0, 1, -1}, {0, -4, 0, 2, -2}, {0, math.MinInt64, 0, 1 << 62, -(1 << 62)}, {0, 0, -5, 5, -5}, {-api.Max, 4, -5, -api.Max + 5, -api.Max}, {api.Max, 4, -5, api.Max, api.Max - 5}, {0, 0, math.MinInt64, api.Max, -api.Max},
	} {
		s := api.Sample{Offset: x.offset, Delay: x.delay, Disp: x.disp, At: 50, Total: 7}
		should := api.Span{Low: x.low, High: x.high}
		if is := Span(phi(second), s, 50, 7); is != should {
			t.Errorf("Span of %+v = %+v, not %+v", s, is, should)
		}
		if is := Span(phi(second), s, 40, 7); is != should {
			t.Errorf("Span of %+v ahead of it = %+v, not %+v", s, is, should)
		}
	}
	s := api.Sample{Offset: 100, Delay: 7, Disp: 3, At: 50, Total: 7}
	if is := Span(phi(second), s, 60, 27); is != (api.Span{Low: 63, High: 97}) {
		t.Errorf("%+v", is)
	}
	if is := Span(phi(second/2), s, 53, -3); is != (api.Span{Low: 102, High: 118}) {
		t.Errorf("%+v", is)
	}
}

// model is what the chapters' words say of numbers of any size.
type model struct{}

// num tells a number of any size.
func (model) num(a int64) *big.Int { return big.NewInt(a) }

// cut tells a number from -Max to Max.
func (m model) cut(a *big.Int) int64 {
	if a.CmpAbs(m.num(api.Max)) > 0 {
		return int64(a.Sign()) * api.Max
	}
	return a.Int64()
}

// down tells a by d, rounded down, which is what Div does where d is above 0.
func (m model) down(a *big.Int, d int64) *big.Int { return new(big.Int).Div(a, m.num(d)) }

// add tells all terms, each added and cut by itself.
func (m model) add(first int64, more ...int64) int64 {
	for _, x := range more {
		first = m.cut(new(big.Int).Add(m.num(first), m.num(x)))
	}
	return first
}

// sub tells a less b.
func (m model) sub(a, b int64) int64 { return m.cut(new(big.Int).Sub(m.num(a), m.num(b))) }

// mul tells a times b.
func (m model) mul(a, b int64) int64 {
	return m.cut(m.down(new(big.Int).Mul(m.num(a), m.num(b)), second))
}

// pow tells 2^n seconds; a hundred is as far as any exponent tells something.
func (m model) pow(n int) int64 {
	all := new(big.Int).Lsh(m.num(second), uint(100+max(-100, min(n, 100))))
	return m.cut(all.Rsh(all, 100))
}

// diff tells a less b, as it goes round.
func (m model) diff(a, b uint64) int64 { return max(int64(a-b), -api.Max) }

// mean tells what is between a and b.
func (m model) mean(a, b int64) int64 {
	return m.cut(m.down(new(big.Int).Add(m.num(a), m.num(b)), 2))
}

// made tells Make's answer.
func (m model) made(p setup.Params, own int, h api.Header, back uint64, at, total int64) (api.Sample, api.Errno) {
	away, stay := m.diff(back, h.Origin), m.diff(h.Transmit, h.Receive)
	if at < 0 || at > 1<<62 || away < 0 || stay < 0 {
		return api.Sample{}, api.ErrArg
	}
	return api.Sample{
		Offset: m.mean(m.diff(h.Receive, h.Origin), m.diff(h.Transmit, back)),
		Delay:  max(m.sub(away, stay), m.pow(own)),
		Disp:   m.add(m.pow(h.Precision), m.pow(own), m.mul(p.Phi, away)),
		At:     at, Total: total,
	}, api.OK
}

// span tells Span's answer, and Age's and Move's.
func (m model) span(p setup.Params, s api.Sample, at, total int64) (api.Span, int64, int64) {
	age := min(m.add(s.Disp, m.mul(p.Phi, max(m.sub(at, s.At), 0))), api.MaxDisp)
	move := m.sub(s.Offset, m.sub(total, s.Total))
	up := new(big.Int).Neg(m.down(new(big.Int).Neg(m.num(s.Delay)), 2)).Int64()
	return api.Span{Low: m.sub(m.sub(move, up), age), High: m.add(move, up, age)}, age, move
}

// drawn hands on numbers that are mostly at an edge, and stamps, and exponents.
func drawn(draw func() uint64) (number func() int64, stamp func() uint64, exponent func() int) {
	edges := []int64{math.MinInt64, -api.Max, -(1 << 62), -api.MaxDisp, -second, -1, 0, 1, 2, second / 2, second, api.MaxDisp, 1 << 62, 1<<62 + 1, api.Max}
	pick := func(n int) int { return int(draw() >> 20 % uint64(n)) }
	number = func() int64 {
		if pick(3) == 0 {
			return int64(draw()) >> pick(64)
		}
		return edges[pick(len(edges))] + int64(pick(5)) - 2
	}
	stamp = func() uint64 { return uint64(number()) }
	exponent = func() int {
		if pick(9) == 0 {
			return int(number())
		}
		return pick(70) - 36
	}
	return number, stamp, exponent
}

// P13.1, P13.2: all four hold to the chapter's own words, whatever they are given, and tell the same each time (R5).
func TestModel(t *testing.T) {
	number, stamp, exponent := drawn(draws())
	m, seen := model{}, map[api.Errno]int{}
	for range 200000 {
		p, own, back := phi(number()), exponent(), stamp()
		h := api.Header{Origin: stamp(), Receive: stamp(), Transmit: stamp(), Precision: exponent()}
		at, total := number(), number()
		should, fault := m.made(p, own, h, back, at, total)
		seen[fault]++
		for range 2 {
			if s, e := Make(p, own, h, back, at, total); s != should || e != fault {
				t.Fatalf("Make of %+v, %d, %+v, %d, %d, %d = %+v, %d, not %+v, %d", p, own, h, back, at, total, s, e, should, fault)
			}
		}
		s := should
		if fault != api.OK {
			s = api.Sample{Offset: number(), Delay: number(), Disp: number(), At: number(), Total: number()}
		}
		at, total = number(), number()
		span, age, move := m.span(p, s, at, total)
		for range 2 {
			if is := Age(p, s, at); is != age {
				t.Fatalf("Age of %+v, %+v, %d = %d, not %d", p, s, at, is, age)
			}
			if is := Move(s, total); is != move {
				t.Fatalf("Move of %+v, %d = %d, not %d", s, total, is, move)
			}
			if is := Span(p, s, at, total); is != span {
				t.Fatalf("Span of %+v, %+v, %d, %d = %+v, not %+v", p, s, at, total, is, span)
			}
		}
	}
	if seen[api.OK] < 10000 || seen[api.ErrArg] < 10000 {
		t.Errorf("seen: %v", seen)
	}
}

// P13.3: whatever the ways there and back take, the true offset is no further from Offset than half of Delay and one more, and in the span.
func TestTrueOffset(t *testing.T) {
	draw := draws()
	ways := func() int64 { return int64(draw() >> (3 + draw()>>20%61)) }
	p := usual(t)
	for i := range 200000 {
		there, stay, home, ahead := ways(), ways(), ways(), ways()-ways()
		origin := draw()
		switch i % 5 {
		case 0:
			there = 0
		case 1:
			home = 0
		case 2:
			stay = 0
		}
		receive := origin + uint64(there+ahead)
		h := answer(origin, receive, receive+uint64(stay))
		back := origin + uint64(there+stay+home)
		// Each difference is less than half an era: all are told as they are.
		if there+stay+home < 0 {
			continue
		}
		s, e := Make(p, -40, h, back, raw, sum0)
		if e != api.OK {
			t.Fatalf("%d, %d, %d, %d: %d", there, stay, home, ahead, e)
		}
		if s.Delay != there+home {
			t.Fatalf("%d, %d: the delay is %d", there, home, s.Delay)
		}
		if off := max(s.Offset-ahead, ahead-s.Offset); off > s.Delay/2+1 {
			t.Fatalf("%d, %d, %d: the offset is %d, not %d", there, stay, home, s.Offset, ahead)
		}
		for _, since := range []int64{0, second, 3600 * second} {
			if span := Span(p, s, raw+since, sum0); span.Low > ahead || span.High < ahead {
				t.Fatalf("%d, %d, %d, %d: the span is %+v", there, stay, home, ahead, span)
			}
			// What corrects the own clock moves the true offset as much.
			if span := Span(p, s, raw+since, sum0+since); span.Low > ahead-since || span.High < ahead-since {
				t.Fatalf("%d, %d, %d, %d: the span that moved is %+v", there, stay, home, ahead, span)
			}
		}
	}
}
