package reach

import (
	"math"
	"math/big"
	"testing"

	"analemma/api"
	"analemma/fix"
	"analemma/setup"
)

const (
	second = api.Second
	top    = api.Max
	lowest = math.MinInt64
	far    = 1 << 40
)

// within tells Params of those polls and that burst.
func within(low, high, burst int) setup.Params {
	return setup.Params{MinPoll: low, MaxPoll: high, Burst: burst}
}

// usual tells what is standard: polls from 6 to 10, no burst.
func usual(t *testing.T) setup.Params {
	t.Helper()
	p, _, e := setup.Check(setup.Standard())
	if e != api.OK {
		t.Fatal(e)
	}
	return p
}

// draws hands on numbers of 64 bits, the same ones each time.
func draws() func() uint64 {
	state := uint64(88172645463325252)
	return func() uint64 {
		state ^= state << 13
		state ^= state >> 7
		state ^= state << 17
		return state
	}
}

// exponents are those about which something turns, and those far away.
func exponents() []int {
	l := []int{math.MinInt64, math.MinInt64 + 1, math.MinInt64 + 3, math.MinInt64 + 4, math.MinInt64 + 5, math.MinInt32, -far, -1005, -1000, -997, -996, -33, -32, -28}
	for n := -2; n <= 20; n++ {
		l = append(l, n)
	}
	return append(l, 30, 31, 32, 1000, 1004, 1<<32+6, far-2, far-1, far, far+1, far+2, math.MaxInt64-1, math.MaxInt64)
}

// times are those about which a sum turns, and others.
func times() []int64 {
	return []int64{lowest, lowest + 1, -top, -top + 2*second, -second, -2 * second, -1, 0, 1, 5 * second, 1000 * second, top - 2*second - 1, top - 2*second, top - 2*second + 1, top - 1, top}
}

// cut tells n from -Max to Max.
func cut(n *big.Int) int64 {
	switch {
	case n.Cmp(big.NewInt(top)) > 0:
		return top
	case n.Cmp(big.NewInt(-top)) < 0:
		return -top
	}
	return n.Int64()
}

// plus tells a and b, cut.
func plus(a, b int64) int64 {
	return cut(new(big.Int).Add(big.NewInt(a), big.NewInt(b)))
}

// scaled tells a times 2^n, rounded down and cut, by whole numbers of any length; a is not below 0.
func scaled(a int64, n *big.Int) int64 {
	if !n.IsInt64() || n.Int64() > 1000 || n.Int64() < -1000 {
		n = big.NewInt(int64(n.Sign()) * 1000)
	}
	by := int(n.Int64())
	if by < 0 {
		return cut(new(big.Int).Rsh(big.NewInt(a), uint(-by)))
	}
	return cut(new(big.Int).Lsh(big.NewInt(a), uint(by)))
}

// holds tells poll within p, by the chapter's own words.
func holds(p setup.Params, poll int) int {
	switch {
	case poll < p.MinPoll:
		return p.MinPoll
	case poll > p.MaxPoll:
		return p.MaxPoll
	}
	return poll
}

// oneMore likewise.
func oneMore(poll int) int {
	if poll < far {
		return poll + 1
	}
	return poll
}

// pollOf likewise.
func pollOf(p setup.Params, s State) int {
	if s.Host < s.Peer {
		return holds(p, s.Host)
	}
	return holds(p, s.Peer)
}

// sentOf likewise.
func sentOf(p setup.Params, s State, now int64, draw uint32) State {
	s.Reg = byte(int(s.Reg) * 2 % 256)
	if s.Burst > 0 {
		s.Burst--
		s.Next = plus(now, 2*second)
		return s
	}
	if s.Reg%8 == 0 {
		s.Host = holds(p, oneMore(s.Host))
	}
	poll := big.NewInt(int64(pollOf(p, s)))
	s.Next = plus(now, scaled(second, poll))
	s.Next = plus(s.Next, scaled(int64(draw), new(big.Int).Sub(poll, big.NewInt(4))))
	return s
}

// slowOf likewise.
func slowOf(p setup.Params, s State) State {
	s.Host = max(s.Host, s.Peer)
	s.Host = holds(p, oneMore(s.Host))
	s.Peer = s.Host
	s.Burst = 0
	return s
}

// answeredOf likewise.
func answeredOf(s State) int {
	many := 0
	for n := int(s.Reg); n > 0; n /= 2 {
		many += n % 2
	}
	return many
}

// given is what a call may be given.
type given struct {
	p    setup.Params
	s    State
	now  int64
	draw uint32
	poll int
}

// cases tells as many, the same ones each time.
func cases(n int) []given {
	draw := draws()
	ints, all := exponents(), times()
	exponent := func() int {
		if draw()%2 == 0 {
			return int(draw() % 24)
		}
		return ints[draw()%uint64(len(ints))]
	}
	time := func() int64 {
		if draw()%2 == 0 {
			return int64(draw()) >> (draw() % 40)
		}
		return all[draw()%uint64(len(all))]
	}
	var l []given
	for range n {
		x := given{p: within(exponent(), exponent(), exponent())}
		x.s = State{Reg: uint8(draw()), Host: exponent(), Peer: exponent(), Burst: int(draw()%4) - 1, Next: time()}
		if draw()%3 == 0 {
			x.s.Reg &= 0x87
		}
		if draw()%8 == 0 {
			x.s.Burst = exponent()
		}
		x.now, x.draw, x.poll = time(), uint32(draw()>>(draw()%64)), exponent()
		l = append(l, x)
	}
	return l
}

// The chapter's example.
func TestExample(t *testing.T) {
	if n := Answered(State{Reg: 5}); n != 2 {
		t.Error(n)
	}
}

// P11.1: the lesser one of Host and Peer.
func TestPoll(t *testing.T) {
	p := within(6, 10, 0)
	for _, x := range []struct{ host, peer, should int }{
		{6, 10, 6}, {10, 6, 6}, {7, 7, 7}, {8, 9, 8}, {9, 8, 8},
		// Held within: the lesser one may be below, both may be above.
		{5, 10, 6}, {10, 5, 6}, {-3, 2, 6}, {11, 12, 10}, {17, 10, 10}, {11, 9, 9}, {math.MaxInt64, math.MaxInt64, 10}, {math.MinInt64, math.MaxInt64, 6}, {0, 0, 6},
	} {
		s := State{Reg: 255, Host: x.host, Peer: x.peer, Burst: 3, Next: 9}
		if n := Poll(p, s); n != x.should {
			t.Errorf("Poll of %d and %d is %d, not %d", x.host, x.peer, n, x.should)
		}
	}
}

// P11.1: p may be any; where MinPoll is above MaxPoll, what is below MinPoll is MinPoll.
func TestHeldWithinAny(t *testing.T) {
	for _, x := range []struct{ low, high, poll, should int }{
		{10, 6, 5, 10}, {10, 6, 6, 10}, {10, 6, 8, 10}, {10, 6, 9, 10}, {10, 6, 10, 6}, {10, 6, 11, 6}, {10, 6, 17, 6},
		{7, 7, 6, 7}, {7, 7, 7, 7}, {7, 7, 8, 7},
		{-5, -2, -9, -5}, {-5, -2, -3, -3}, {-5, -2, 0, -2},
		{0, 0, 9, 0}, {math.MinInt64, math.MinInt64, 3, math.MinInt64}, {math.MaxInt64, math.MaxInt64, 3, math.MaxInt64},
		{math.MinInt64, math.MaxInt64, math.MinInt64, math.MinInt64}, {math.MinInt64, math.MaxInt64, math.MaxInt64, math.MaxInt64},
		{4, 1 << 33, 1<<32 + 5, 1<<32 + 5},
	} {
		p := within(x.low, x.high, 0)
		if n := Poll(p, State{Host: x.poll, Peer: x.poll}); n != x.should {
			t.Errorf("Poll: %d from %d to %d is %d, not %d", x.poll, x.low, x.high, n, x.should)
		}
		if s := Hold(p, State{Peer: 3}, x.poll); s != (State{Host: x.should, Peer: 3}) {
			t.Errorf("Hold: %d from %d to %d is %+v, not %d", x.poll, x.low, x.high, s, x.should)
		}
		if s := Heard(p, State{Host: 3}, x.poll); s != (State{Reg: 1, Host: 3, Peer: x.should}) {
			t.Errorf("Heard: %d from %d to %d is %+v, not %d", x.poll, x.low, x.high, s, x.should)
		}
	}
}

// P11.1: nothing was answered; both exponents are MinPoll; Burst is p's; Next is now, and draw.
func TestStart(t *testing.T) {
	for _, x := range []struct {
		p      setup.Params
		now    int64
		draw   uint32
		should State
	}{
		{within(6, 10, 0), 0, 0, State{0, 6, 6, 0, 0}},
		{within(4, 17, 8), 5 * second, 7, State{0, 4, 4, 8, 5*second + 7}},
		{within(6, 10, 2), -second, math.MaxUint32, State{0, 6, 6, 2, -1}},
		{within(6, 10, 2), 0, 1 << 31, State{0, 6, 6, 2, 1 << 31}},
		// What is wrong is handed on as it is: MinPoll isn't held, a burst not looked at.
		{within(10, 6, -3), 1, 1, State{0, 10, 10, -3, 2}},
		{within(math.MinInt64, 0, math.MinInt64), 0, 0, State{0, math.MinInt64, math.MinInt64, math.MinInt64, 0}},
		{within(math.MaxInt64, 0, math.MaxInt64), 0, 0, State{0, math.MaxInt64, math.MaxInt64, math.MaxInt64, 0}},
		// Times are cut.
		{within(6, 10, 0), top, 1, State{0, 6, 6, 0, top}},
		{within(6, 10, 0), top - 1, 1, State{0, 6, 6, 0, top}},
		{within(6, 10, 0), top - 5, 4, State{0, 6, 6, 0, top - 1}},
		{within(6, 10, 0), top - second, math.MaxUint32, State{0, 6, 6, 0, top - 1}},
		{within(6, 10, 0), lowest, 0, State{0, 6, 6, 0, -top}},
		{within(6, 10, 0), lowest, 1, State{0, 6, 6, 0, -top}},
		{within(6, 10, 0), lowest, 2, State{0, 6, 6, 0, -top + 1}},
	} {
		if s := Start(x.p, x.now, x.draw); s != x.should {
			t.Errorf("Start(%+v, %d, %d) = %+v, not %+v", x.p, x.now, x.draw, s, x.should)
		}
	}
}

// P11.1: what is not of polls and burst is nothing to a start.
func TestStartOfStandard(t *testing.T) {
	if s := Start(usual(t), 3, 4); s != (State{Host: 6, Peer: 6, Next: 7}) {
		t.Errorf("%+v", s)
	}
}

// P11.2: Reg is shifted up by one; the eighth one is gone.
func TestSentShifts(t *testing.T) {
	for _, burst := range []int{0, 1, -1} {
		for reg := range 256 {
			s := State{Reg: uint8(reg), Host: 6, Peer: 6, Burst: burst}
			if is := Sent(within(6, 10, 0), s, 0, 0); is.Reg != uint8(reg<<1) {
				t.Errorf("Reg %08b is %08b behind a question", reg, is.Reg)
			}
		}
	}
}

// P11.2: in a burst, Burst is one less and the next one is due in two seconds, whatever the draw, the exponents and Reg are.
func TestSentInBurst(t *testing.T) {
	p := within(6, 10, 5)
	for _, x := range []struct {
		s      State
		now    int64
		should State
	}{
		{State{0, 6, 6, 1, 9}, 0, State{0, 6, 6, 0, 2 * second}},
		{State{0, 7, 8, 8, 9}, 5, State{0, 7, 8, 7, 2*second + 5}},
		{State{255, 7, 8, 2, 9}, -5, State{254, 7, 8, 1, 2*second - 5}},
		{State{128, 99, -99, math.MaxInt64, 9}, 0, State{0, 99, -99, math.MaxInt64 - 1, 2 * second}},
		{State{1, 6, 6, 1, 9}, top - 2*second, State{2, 6, 6, 0, top}},
		{State{1, 6, 6, 1, 9}, top - 2*second - 1, State{2, 6, 6, 0, top - 1}},
		{State{1, 6, 6, 1, 9}, top - 2*second + 1, State{2, 6, 6, 0, top}},
		{State{1, 6, 6, 1, 9}, top, State{2, 6, 6, 0, top}},
		{State{1, 6, 6, 1, 9}, lowest, State{2, 6, 6, 0, lowest + 2*second}},
	} {
		for _, draw := range []uint32{0, 1, math.MaxUint32} {
			if s := Sent(p, x.s, x.now, draw); s != x.should {
				t.Errorf("Sent of %+v at %d = %+v, not %+v", x.s, x.now, s, x.should)
			}
		}
	}
}

// P11.2: else Host is one more if the lowest three of Reg are 0, as it is once it was shifted.
func TestSentWithoutAnswer(t *testing.T) {
	for reg := range 256 {
		for _, burst := range []int{0, -1, math.MinInt64} {
			should := 8
			if reg&3 == 0 {
				should = 9
			}
			s := Sent(within(6, 10, 0), State{Reg: uint8(reg), Host: 8, Peer: 7, Burst: burst, Next: 3}, 0, 0)
			if s != (State{uint8(reg << 1), should, 7, burst, 128 * second}) {
				t.Errorf("Sent of Reg %08b, Burst %d = %+v", reg, burst, s)
			}
		}
	}
}

// P11.2: one more is held within; where it is not one more, Host stays, wherever it is.
func TestSentHolds(t *testing.T) {
	for _, x := range []struct {
		p                setup.Params
		reg              uint8
		host, should     int
		peer, shouldPoll int
	}{
		{within(6, 10, 0), 0, 6, 7, 9, 7},
		{within(6, 10, 0), 0, 9, 10, 9, 9},
		{within(6, 10, 0), 0, 10, 10, 10, 10},
		{within(6, 10, 0), 0, 11, 10, 17, 10},
		{within(6, 10, 0), 0, 4, 6, 9, 6},
		{within(6, 10, 0), 0, 5, 6, 9, 6},
		{within(6, 10, 0), 0, math.MinInt64, 6, 9, 6},
		{within(6, 10, 0), 0, math.MaxInt64, 10, 9, 9},
		{within(6, 10, 0), 1, 4, 4, 9, 6},
		{within(6, 10, 0), 1, 12, 12, 12, 10},
		{within(6, 10, 0), 2, math.MinInt64, math.MinInt64, 8, 6},
		{within(6, 10, 0), 2, math.MaxInt64, math.MaxInt64, 8, 8},
		{within(10, 6, 0), 0, 8, 10, 12, 6},
		{within(10, 6, 0), 0, 9, 6, 12, 10},
		// One more of 2^40 and above is itself.
		{within(6, math.MaxInt64, 0), 0, far - 2, far - 1, 6, 6},
		{within(6, math.MaxInt64, 0), 0, far - 1, far, 6, 6},
		{within(6, math.MaxInt64, 0), 0, far, far, 6, 6},
		{within(6, math.MaxInt64, 0), 0, far + 1, far + 1, 6, 6},
		{within(6, math.MaxInt64, 0), 0, math.MaxInt64, math.MaxInt64, 6, 6},
		{within(math.MinInt64, 10, 0), 0, math.MinInt64, math.MinInt64 + 1, 6, math.MinInt64 + 1},
	} {
		s := Sent(x.p, State{Reg: x.reg, Host: x.host, Peer: x.peer}, 1, 0)
		if s != (State{Reg: x.reg << 1, Host: x.should, Peer: x.peer, Next: fix.Add(1, fix.Pow(x.shouldPoll))}) {
			t.Errorf("Sent of %+v within %d, %d = %+v", x, x.p.MinPoll, x.p.MaxPoll, s)
		}
	}
}

// P11.2: the wait is by Poll as it is then: by the Host that is one more.
func TestSentWaits(t *testing.T) {
	p := within(4, 17, 0)
	for _, x := range []struct {
		reg        uint8
		host, peer int
		draw       uint32
		wait       int64
	}{
		{1, 6, 6, 0, 64 * second},
		{1, 6, 9, 0, 64 * second},
		{1, 9, 6, 0, 64 * second},
		{0, 6, 9, 0, 128 * second},
		{0, 6, 6, 0, 64 * second},
		{4, 6, 9, 0, 128 * second},
		{1, 4, 4, 1, 16*second + 1},
		{1, 4, 4, math.MaxUint32, 17*second - 1},
		{1, 5, 5, 1, 32*second + 2},
		{1, 6, 6, 3, 64*second + 12},
		{1, 6, 6, math.MaxUint32, 68*second - 4},
		{0, 6, 7, 5, 128*second + 40},
		{1, 10, 10, 1 << 31, 1024*second + 32*second},
		{1, 17, 17, 1, 131072*second + 8192},
		{1, 17, 17, math.MaxUint32, 131072*second + 8192*second - 8192},
		{1, 99, 99, 1, 131072*second + 8192},
	} {
		for _, now := range []int64{0, 7, -7, -40 * second, 1 << 50} {
			s := Sent(p, State{Reg: x.reg, Host: x.host, Peer: x.peer, Next: 11}, now, x.draw)
			if s.Next-now != x.wait {
				t.Errorf("Sent of %+v at %d waits for %d", x, now, s.Next-now)
			}
		}
	}
}

// P11.2: an exponent that p alone allows: powers below 2^-32 are nothing, a draw's part is rounded down, sums are cut.
func TestSentAtEdges(t *testing.T) {
	for _, x := range []struct {
		poll   int
		now    int64
		draw   uint32
		should int64
	}{
		{3, 0, 1, 8 * second},
		{3, 0, 3, 8*second + 1},
		{0, 0, math.MaxUint32, second + 1<<28 - 1},
		{-1, 0, 32, second/2 + 1},
		{-32, 0, math.MaxUint32, 1},
		{-33, 5, math.MaxUint32, 5},
		{-999, 5, math.MaxUint32, 5},
		{-1005, 5, math.MaxUint32, 5},
		{math.MinInt64, 5, math.MaxUint32, 5},
		{math.MinInt64 + 3, 5, math.MaxUint32, 5},
		{math.MinInt64 + 4, 5, math.MaxUint32, 5},
		{30, 0, 0, 1 << 62},
		{30, 0, 1, 1<<62 + 1<<26},
		{31, 0, 0, top},
		{31, -1, 0, top - 1},
		{31, -second, 1, top - second + 1<<27},
		{31, -second, math.MaxUint32, top},
		{35, -2 * second, 1, top - 2*second + 1<<31},
		{math.MaxInt64, 5, 0, top},
		{math.MaxInt64, -5, 0, top - 5},
		{math.MaxInt64, lowest, 0, -1},
		{math.MaxInt64, -top, 0, 0},
		{math.MaxInt64, lowest, 1, top - 1},
		{6, top, 0, top},
		{6, top - 64*second, 0, top},
		{6, top - 64*second, 1, top},
		{6, top - 64*second - 5, 1, top - 1},
		{6, lowest, 0, lowest + 64*second},
		// At the least time the first sum is what is cut.
		{-40, lowest, 0, -top},
		{-32, lowest, 16, -top},
	} {
		p := within(math.MinInt64, math.MaxInt64, 0)
		s := Sent(p, State{Reg: 1, Host: x.poll, Peer: x.poll}, x.now, x.draw)
		if s != (State{Reg: 2, Host: x.poll, Peer: x.poll, Next: x.should}) {
			t.Errorf("Sent of %d at %d by %d = %+v, not %d", x.poll, x.now, x.draw, s, x.should)
		}
	}
}

// P11.3: the lowest of Reg is 1, all others stay; Peer is poll, held within; all else stays.
func TestHeard(t *testing.T) {
	p := within(6, 10, 4)
	for reg := range 256 {
		for _, x := range []struct{ poll, should int }{{5, 6}, {6, 6}, {8, 8}, {10, 10}, {11, 10}, {0, 6}, {-128, 6}, {127, 10}, {math.MinInt64, 6}, {math.MaxInt64, 10}} {
			s := Heard(p, State{uint8(reg), 17, 3, 2, 77}, x.poll)
			if s != (State{uint8(reg) | 1, 17, x.should, 2, 77}) {
				t.Errorf("Heard of Reg %08b, %d = %+v", reg, x.poll, s)
			}
		}
	}
}

// P11.3: both are one more than the greater one, held within; Burst is 0; all else stays.
func TestSlow(t *testing.T) {
	for _, x := range []struct {
		p                  setup.Params
		host, peer, should int
	}{
		{within(6, 10, 4), 6, 6, 7},
		{within(6, 10, 4), 6, 8, 9},
		{within(6, 10, 4), 8, 6, 9},
		{within(6, 10, 4), 9, 9, 10},
		{within(6, 10, 4), 10, 9, 10},
		{within(6, 10, 4), 6, 10, 10},
		{within(6, 10, 4), 6, 17, 10},
		{within(6, 10, 4), 2, 4, 6},
		{within(6, 10, 4), 2, 5, 6},
		{within(6, 10, 4), -9, math.MinInt64, 6},
		{within(6, 10, 4), math.MaxInt64, 3, 10},
		{within(6, 10, 4), 3, math.MaxInt64, 10},
		{within(10, 6, 4), 8, 7, 10},
		{within(10, 6, 4), 9, 7, 6},
		{within(0, math.MaxInt64, 4), far - 2, 0, far - 1},
		{within(0, math.MaxInt64, 4), 0, far - 1, far},
		{within(0, math.MaxInt64, 4), far - 1, far, far},
		{within(0, math.MaxInt64, 4), far + 1, far, far + 1},
		{within(0, math.MaxInt64, 4), 0, math.MaxInt64, math.MaxInt64},
		{within(math.MinInt64, 10, 4), math.MinInt64, math.MinInt64, math.MinInt64 + 1},
	} {
		for _, burst := range []int{0, 3, -3, math.MaxInt64} {
			if s := Slow(x.p, State{0xa5, x.host, x.peer, burst, 77}); s != (State{0xa5, x.should, x.should, 0, 77}) {
				t.Errorf("Slow of %+v = %+v", x, s)
			}
		}
	}
}

// P11.3: Host is poll, held within; all else stays.
func TestHold(t *testing.T) {
	p := within(6, 10, 4)
	for _, x := range []struct{ poll, should int }{{5, 6}, {6, 6}, {8, 8}, {10, 10}, {11, 10}, {-1, 6}, {math.MinInt64, 6}, {math.MaxInt64, 10}, {1<<32 + 8, 10}} {
		if s := Hold(p, State{0xa5, 17, 3, 2, 77}, x.poll); s != (State{0xa5, x.should, 3, 2, 77}) {
			t.Errorf("Hold of %d = %+v", x.poll, s)
		}
	}
}

// P11.4: whether Next is not above now.
func TestDue(t *testing.T) {
	for _, next := range times() {
		for _, now := range times() {
			should := big.NewInt(next).Cmp(big.NewInt(now)) <= 0
			for _, s := range []State{{Next: next}, {255, 6, 6, 3, next}} {
				if Due(s, now) != should {
					t.Errorf("%d is due at %d: %v", next, now, !should)
				}
			}
		}
	}
}

// P11.4: how many of the eight were answered.
func TestAnswered(t *testing.T) {
	for reg := range 256 {
		s := State{Reg: uint8(reg), Host: 7, Peer: 7, Burst: 7, Next: 7}
		if n := Answered(s); n != answeredOf(s) {
			t.Errorf("Answered of %08b is %d", reg, n)
		}
	}
}

// P11.5: Slow never makes the next wait shorter, wherever polls are a span and times have room.
func TestSlowIsNoShorter(t *testing.T) {
	for i, x := range cases(40000) {
		p := within(min(x.p.MinPoll, x.p.MaxPoll), max(x.p.MinPoll, x.p.MaxPoll), 0)
		slow := Slow(p, x.s)
		if Poll(p, slow) < Poll(p, x.s) {
			t.Fatalf("%d: %+v of %+v is asked more often", i, slow, x.s)
		}
		// A burst is over, and its two seconds are no wait that p knows.
		if p.MinPoll < 1 && x.s.Burst > 0 {
			continue
		}
		if is, was := Sent(p, slow, x.now, x.draw), Sent(p, x.s, x.now, x.draw); is.Next < was.Next {
			t.Fatalf("%d: %+v waits for less than %+v", i, is, was)
		}
	}
}

// P11.5: a server that never answers is asked less and less often: its waits never get shorter, and our exponent rises to MaxPoll.
func TestNeverAnswers(t *testing.T) {
	for burst := range 4 {
		p := within(4, 17, burst)
		s := Start(p, 0, 5)
		// As if the server allowed any wait: the lesser exponent is ours then.
		s.Peer = p.MaxPoll
		wait := int64(0)
		for i := range 40 {
			now := s.Next
			before := s
			s = Sent(p, s, now, 5)
			if s.Next-now < wait {
				t.Fatalf("question %d waits for %d, not %d", i, s.Next-now, wait)
			}
			wait = s.Next - now
			if i >= burst && s.Host != min(before.Host+1, p.MaxPoll) {
				t.Fatalf("question %d: %+v behind %+v", i, s, before)
			}
		}
		if wait != 131072*second+5<<13 {
			t.Errorf("the last wait is %d", wait)
		}
	}
}

// P11.5, P11.1: what a server never said counts as MinPoll, which is the lesser one.
func TestNeverSaid(t *testing.T) {
	p := usual(t)
	s := Start(p, 0, 0)
	for range 20 {
		now := s.Next
		if s = Sent(p, s, now, 0); s.Next != now+64*second {
			t.Fatalf("%+v behind %d", s, now)
		}
	}
	if s.Host != 10 || s.Peer != 6 {
		t.Errorf("%+v", s)
	}
}

// P11.5: behind eight questions without an answer nothing is answered; behind fewer, what was answered before may be.
func TestEightQuestions(t *testing.T) {
	p := usual(t)
	for reg := range 256 {
		for _, burst := range []int{0, 3, 20} {
			s := State{Reg: uint8(reg), Host: 6, Peer: 6, Burst: burst}
			for range 7 {
				s = Sent(p, s, 0, 0)
			}
			if Answered(s) != reg&1 {
				t.Errorf("Reg %08b: %d were answered behind seven", reg, Answered(s))
			}
			if s = Sent(p, s, 0, 0); Answered(s) != 0 || s.Reg != 0 {
				t.Errorf("Reg %08b: %d were answered behind eight", reg, Answered(s))
			}
		}
	}
}

// P11.1 to P11.4: all calls hold to the chapter's own words, whatever they are given.
func TestModel(t *testing.T) {
	for i, x := range cases(60000) {
		heard, held := x.s, x.s
		heard.Reg |= 1
		heard.Peer = holds(x.p, x.poll)
		held.Host = holds(x.p, x.poll)
		start := State{0, x.p.MinPoll, x.p.MinPoll, x.p.Burst, plus(x.now, int64(x.draw))}
		for _, y := range []struct {
			call       string
			is, should State
		}{
			{"Start", Start(x.p, x.now, x.draw), start},
			{"Sent", Sent(x.p, x.s, x.now, x.draw), sentOf(x.p, x.s, x.now, x.draw)},
			{"Heard", Heard(x.p, x.s, x.poll), heard},
			{"Slow", Slow(x.p, x.s), slowOf(x.p, x.s)},
			{"Hold", Hold(x.p, x.s, x.poll), held},
		} {
			if y.is != y.should {
				t.Fatalf("%d: %s of %+v = %+v, not %+v", i, y.call, x, y.is, y.should)
			}
		}
		if n := Poll(x.p, x.s); n != pollOf(x.p, x.s) {
			t.Fatalf("%d: Poll of %+v = %d", i, x, n)
		}
		if n := Answered(x.s); n != answeredOf(x.s) {
			t.Fatalf("%d: Answered of %+v = %d", i, x, n)
		}
		if Due(x.s, x.now) != (x.s.Next <= x.now) {
			t.Fatalf("%d: Due of %+v", i, x)
		}
	}
}

// P11.1 to P11.3: of p, nothing counts but polls and a start's burst.
func TestNothingElseOfParams(t *testing.T) {
	for _, x := range cases(2000) {
		q := setup.Params{Step: 1, Watch: 2, Panic: 3, MaxRate: 4, Phi: 5, MaxDist: 6, Gate: 7, MinSane: 8, MinLeft: 9}
		q.MinPoll, q.MaxPoll, q.Burst = x.p.MinPoll, x.p.MaxPoll, x.p.Burst
		if Start(q, x.now, x.draw) != Start(x.p, x.now, x.draw) || Slow(q, x.s) != Slow(x.p, x.s) {
			t.Fatalf("%+v", x)
		}
		q.Burst = 3
		if Sent(q, x.s, x.now, x.draw) != Sent(x.p, x.s, x.now, x.draw) || Heard(q, x.s, x.poll) != Heard(x.p, x.s, x.poll) {
			t.Fatalf("%+v", x)
		}
	}
}

// R5: the same arguments have the same answer, in whichever order they come.
func TestSameAnswer(t *testing.T) {
	l := cases(500)
	var first []State
	for _, x := range l {
		first = append(first, Sent(x.p, x.s, x.now, x.draw))
	}
	for i := len(l) - 1; i >= 0; i-- {
		if s := Sent(l[i].p, l[i].s, l[i].now, l[i].draw); s != first[i] {
			t.Fatalf("%+v, then %+v", first[i], s)
		}
	}
}
