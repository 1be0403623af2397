package filter

import (
	"math"
	"math/big"
	"slices"
	"testing"

	"analemma/api"
	"analemma/fix"
	"analemma/sample"
	"analemma/setup"
)

const (
	second = api.Second
	top    = api.Max
	lowest = math.MinInt64
	stages = api.Stages
	// whole is a dispersion of eight samples that are missing.
	whole = api.MaxDisp - api.MaxDisp/256
)

// usual tells what is standard.
func usual(t *testing.T) setup.Params {
	t.Helper()
	p, _, e := setup.Check(setup.Standard())
	if e != api.OK {
		t.Fatal(e)
	}
	return p
}

// phi tells what lets dispersions grow by that, and names nothing else.
func phi(by int64) setup.Params {
	return setup.Params{Phi: by}
}

// draws hands on numbers of 64 bits, the same ones each time.
func draws() func() uint64 {
	state := uint64(88172645463325252)
	return func() uint64 {
		state ^= state << 13
		state ^= state >> 7
		state ^= state << 17
		return state
	}
}

// junk is a sample that would be the best one, if it were one.
func junk() api.Sample {
	return api.Sample{Offset: 99, Delay: lowest, Disp: -99, At: top, Total: 7}
}

// of tells a filter of those samples, with others behind them that are none.
func of(l ...api.Sample) Filter {
	f := Filter{Many: len(l)}
	for place := range f.L {
		f.L[place] = junk()
	}
	copy(f.L[:], l)
	return f
}

// delays tells samples of those delays, each of which came a second ahead of the one before it.
func delays(l ...int64) []api.Sample {
	var all []api.Sample
	for place, delay := range l {
		all = append(all, api.Sample{Offset: int64(place), Delay: delay, Disp: 5, At: int64(100-place) * second})
	}
	return all
}

// P14.1: a sample is put ahead of the others; of more than eight the oldest one is gone.
func TestPut(t *testing.T) {
	f := Filter{Had: true, Used: 1, Offset: -2, Total: 3, Jitter: 4}
	var all []api.Sample
	for n := range int64(20) {
		s := api.Sample{Offset: -n, Delay: n % 3, Disp: n * n, At: n * second, Total: 7 - n}
		all = slices.Insert(all, 0, s)
		should := f
		should.Many = min(len(all), stages)
		should.L = [stages]api.Sample{}
		copy(should.L[:], all)
		was := f
		for range 2 {
			if is := Put(f, s); is != should {
				t.Fatalf("Put of %d: %+v, not %+v", n, is, should)
			}
		}
		if f != was {
			t.Fatalf("Put of %d changes what it is given", n)
		}
		f = should
	}
}

// P14.1: Many counts as 0, if it is below, and as 8, if above; what is behind is zero then, whatever it was.
func TestPutMany(t *testing.T) {
	s := api.Sample{Offset: 1, Delay: 2, Disp: 3, At: 4, Total: 5}
	full := of(delays(9, 8, 7, 6, 5, 4, 3, 2)...)
	for _, x := range []struct{ many, counts int }{
		{lowest, 0}, {-1, 0}, {0, 0}, {1, 1}, {2, 2}, {3, 3}, {4, 4}, {5, 5}, {6, 6}, {7, 7}, {8, 8}, {9, 8}, {256, 8}, {1 << 32, 8}, {1<<32 + 1, 8}, {math.MaxInt, 8},
	} {
		f := full
		f.Many = x.many
		is := Put(f, s)
		if is.Many != min(x.counts+1, stages) || is.L[0] != s {
			t.Errorf("%d samples and one: %+v", x.many, is)
		}
		for place := 1; place < stages; place++ {
			should := api.Sample{}
			if place <= x.counts {
				should = full.L[place-1]
			}
			if is.L[place] != should {
				t.Errorf("%d samples and one: at %d stands %+v, not %+v", x.many, place, is.L[place], should)
			}
		}
		if l := Order(f); len(l) != x.counts {
			t.Errorf("%d samples: %v", x.many, l)
		}
	}
}

// checkOrder holds Order against the places that it should tell, and that each answer is new memory.
func checkOrder(t *testing.T, f Filter, should ...int) {
	t.Helper()
	for range 2 {
		l := Order(f)
		if !slices.Equal(l, should) {
			t.Fatalf("Order of %+v = %v, not %v", f, l, should)
		}
		for place := range l {
			l[place] = -7
		}
	}
}

// P14.1: places are told by delays, the least one first; of the same the newest one first.
func TestOrder(t *testing.T) {
	for _, x := range []struct {
		delays []int64
		places []int
	}{
		{nil, nil},
		{[]int64{5}, []int{0}},
		{[]int64{5, 6}, []int{0, 1}},
		{[]int64{6, 5}, []int{1, 0}},
		{[]int64{5, 5}, []int{0, 1}},
		{[]int64{3, 1, 2}, []int{1, 2, 0}},
		{[]int64{2, 1, 2, 1}, []int{1, 3, 0, 2}},
		{[]int64{0, 0, 0, 0, 0, 0, 0, 0}, []int{0, 1, 2, 3, 4, 5, 6, 7}},
		{[]int64{8, 7, 6, 5, 4, 3, 2, 1}, []int{7, 6, 5, 4, 3, 2, 1, 0}},
		{[]int64{1, 2, 3, 4, 5, 6, 7, 8}, []int{0, 1, 2, 3, 4, 5, 6, 7}},
		{[]int64{3, 1, 3, 2, 1, 3, 2, 1}, []int{1, 4, 7, 3, 6, 0, 2, 5}},
		{[]int64{9, 9, 9, 9, 9, 9, 9, 8}, []int{7, 0, 1, 2, 3, 4, 5, 6}},
		// Delays of both signs, as far apart as may be.
		{[]int64{top, lowest, 0, -1, 1, -top, top, lowest}, []int{1, 7, 5, 3, 2, 4, 0, 6}},
		{[]int64{1 << 62, -1 << 62, lowest, top}, []int{2, 1, 0, 3}},
	} {
		checkOrder(t, of(delays(x.delays...)...), x.places...)
	}
	// No other field counts.
	l := []api.Sample{{Offset: -9, Delay: 4, Disp: -9, At: -9, Total: -9}, {Offset: 9, Delay: 3, Disp: 9, At: 9, Total: 9}, {Offset: -99, Delay: 4, Disp: -99, At: 99, Total: -99}}
	checkOrder(t, of(l...), 1, 0, 2)
	f := of(l...)
	f.Had, f.Used, f.Offset, f.Total, f.Jitter = true, 5, 6, 7, 8
	checkOrder(t, f, 1, 0, 2)
}

// checkTell holds what Tell tells against what it should tell.
func checkTell(t *testing.T, p setup.Params, f Filter, own int, at, total int64, should Told) {
	t.Helper()
	// What was told last tells nothing here.
	last := f
	last.Had, last.Used, last.Offset, last.Total, last.Jitter = true, top, 6, 7, 8
	for _, f := range []Filter{f, last} {
		if told, is := Tell(p, f, own, at, total); told != should || !is {
			t.Errorf("Tell of %+v, %d, %d, %d = %+v, %v, not %+v", f, own, at, total, told, is, should)
		}
	}
}

// P14.2: nothing is told of no samples.
func TestTellNothing(t *testing.T) {
	for _, many := range []int{0, -1, -8, lowest} {
		f := of()
		f.Many, f.Had, f.Used, f.Offset, f.Total, f.Jitter = many, true, 5, 6, 7, 8
		if told, is := Tell(usual(t), f, -20, second, 0); told != (Told{}) || is {
			t.Errorf("%d samples: %+v, %v", many, told, is)
		}
	}
	if told, is := Tell(usual(t), Filter{}, 31, 0, 0); told != (Told{}) || is {
		t.Errorf("%+v, %v", told, is)
	}
}

// P14.2: what is told is that of the sample with the least delay, its offset as it moved since.
func TestTellFirst(t *testing.T) {
	slow := api.Sample{Offset: 50, Delay: 9, Disp: 64, At: 300, Total: 10}
	quick := api.Sample{Offset: 40, Delay: 7, Disp: 32, At: 200, Total: 6}
	same := api.Sample{Offset: 30, Delay: 7, Disp: 16, At: 100, Total: 3}
	rest := int64(api.MaxDisp/8 - api.MaxDisp/256)
	for _, x := range []struct {
		l     []api.Sample
		total int64
		told  Told
	}{
		{[]api.Sample{slow}, 10, Told{Offset: 50, Delay: 9, Disp: 32 + whole - api.MaxDisp/2, Jitter: 16, At: 300}},
		{[]api.Sample{slow}, 25, Told{Offset: 35, Delay: 9, Disp: 32 + whole - api.MaxDisp/2, Jitter: 16, At: 300}},
		{[]api.Sample{slow}, -25, Told{Offset: 85, Delay: 9, Disp: 32 + whole - api.MaxDisp/2, Jitter: 16, At: 300}},
		{[]api.Sample{slow, quick, same}, 6, Told{Offset: 40, Delay: 7, Disp: 16 + 4 + 8 + rest, Jitter: 16, At: 200}},
		{[]api.Sample{quick, slow, same}, 6, Told{Offset: 40, Delay: 7, Disp: 16 + 4 + 8 + rest, Jitter: 16, At: 200}},
		{[]api.Sample{same, slow, quick}, 7, Told{Offset: 26, Delay: 7, Disp: 8 + 8 + 8 + rest, Jitter: 16, At: 100}},
		{[]api.Sample{same, quick, slow}, 2 * second, Told{Offset: 33 - 2*second, Delay: 7, Disp: 8 + 8 + 8 + rest, Jitter: 16, At: 100}},
		{[]api.Sample{{Offset: 5, Delay: lowest, Disp: 0, At: lowest, Total: 5}}, 5, Told{Offset: 5, Delay: lowest, Disp: whole - api.MaxDisp/2, Jitter: 16, At: lowest}},
		{[]api.Sample{{Offset: 5, Delay: top, Disp: 0, At: top, Total: 0}}, -top, Told{Offset: top, Delay: top, Disp: whole - api.MaxDisp/2, Jitter: 16, At: top}},
	} {
		checkTell(t, phi(0), of(x.l...), -28, 300, x.total, x.told)
	}
}

// P14.2: a dispersion is half of the first one's, a quarter of the next one's and so on; each is rounded down by itself, and one that is missing is MaxDisp.
func TestTellDisp(t *testing.T) {
	for many := 1; many <= stages; many++ {
		for _, x := range []struct{ disp, at int64 }{
			{0, 0}, {1, 0}, {255, 0}, {256, 0}, {257, 0}, {-1, 0}, {-256, 0}, {3 * second, 0}, {api.MaxDisp, 0}, {api.MaxDisp + 1, 0}, {top, 0}, {-top, 0}, {lowest, 0},
			{5, 1}, {5, second}, {5, 20 * second}, {5, top}, {5, -1}, {5, lowest}, {-top, top},
		} {
			f, should := Filter{Many: many}, int64(0)
			for i := range stages {
				age := int64(api.MaxDisp)
				if i < many {
					f.L[i] = api.Sample{Delay: 7, Disp: x.disp}
					age = min(max(x.disp, -top)+max(x.at, 0), api.MaxDisp)
					if x.disp > api.MaxDisp || x.at > api.MaxDisp && x.disp >= 0 {
						age = api.MaxDisp
					}
				}
				should += age >> (i + 1)
			}
			checkTell(t, phi(second), f, -40, x.at, 0, Told{Delay: 7, Disp: should})
		}
	}
	// Shares are told by delays, not by places: each dispersion is twice that of the next smaller delay.
	l := delays(8, 7, 6, 5, 4, 3, 2, 1)
	for place := range l {
		l[place] = api.Sample{Delay: l[place].Delay, Disp: 256 << (7 - place)}
	}
	checkTell(t, phi(0), of(l...), -40, 0, 0, Told{Delay: 1, Disp: 8 * 128})
	slices.Reverse(l)
	checkTell(t, phi(0), of(l...), -40, 0, 0, Told{Delay: 1, Disp: 8 * 128})
	for place := range l {
		l[place].Delay = 9
	}
	checkTell(t, phi(0), of(l...), -40, 0, 0, Told{Delay: 9, Disp: 8 * 128})
	slices.Reverse(l)
	checkTell(t, phi(0), of(l...), -40, 0, 0, Told{Delay: 9, Disp: 1<<14 + 1<<12 + 1<<10 + 1<<8 + 1<<6 + 1<<4 + 1<<2 + 1})
	// Each one ages from when it came on.
	aging := of(api.Sample{Delay: 1, At: 100}, api.Sample{Delay: 2, At: 200}, api.Sample{Delay: 3, At: 300})
	rest := int64(api.MaxDisp/8 - api.MaxDisp/256)
	checkTell(t, phi(second), aging, -40, 50, 0, Told{Delay: 1, Disp: rest, At: 100})
	checkTell(t, phi(second), aging, -40, 180, 0, Told{Delay: 1, Disp: 40 + rest, At: 100})
	checkTell(t, phi(second), aging, -40, 340, 0, Told{Delay: 1, Disp: 120 + 35 + 5 + rest, At: 100})
}

// P14.2: a jitter is the root of the mean of the squares of how far the others are from the first one, and no less than Pow of own.
func TestTellJitter(t *testing.T) {
	for _, x := range []struct {
		offsets []int64
		jitter  int64
	}{
		{[]int64{5 * second}, 0},
		{[]int64{5 * second, 5 * second}, 0},
		{[]int64{5 * second, 8 * second}, 3 * second},
		{[]int64{5 * second, 2 * second}, 3 * second},
		{[]int64{0, 3 * second, 3 * second}, 3 * second},
		{[]int64{0, second, 7 * second}, 5 * second},
		{[]int64{second, 2 * second, -6 * second}, 5 * second},
		// They are 2, 5, 1, 9, 0, 4 and 7 seconds away: the mean of their squares is 176 by 7.
		{[]int64{second, 3 * second, 6 * second, 0, -8 * second, second, 5 * second, -6 * second}, 21536105752},
		// What is too small for its square to be told tells nothing.
		{[]int64{0, 1}, 0}, {[]int64{0, 1<<16 - 1}, 0}, {[]int64{0, 1 << 16}, 1 << 16}, {[]int64{0, 1<<16 + 1}, 1 << 16}, {[]int64{1, 1<<16 + 1}, 1 << 16}, {[]int64{0, -1 << 16}, 1 << 16},
		// What is too great is cut, its square too.
		{[]int64{top, -top}, fix.Sqrt(top)}, {[]int64{0, lowest}, fix.Sqrt(top)}, {[]int64{top, -top, top}, fix.Sqrt(top / 2)}, {[]int64{lowest, -top, -top}, 0},
	} {
		f := Filter{Many: len(x.offsets)}
		for i, offset := range x.offsets {
			f.L[i] = api.Sample{Offset: offset, Delay: int64(i), Disp: api.MaxDisp}
		}
		for _, own := range []int{lowest, -40, -33, -32, -20, -16, 0, 3, 30, 31, math.MaxInt} {
			should := Told{Offset: max(x.offsets[0], -top), Disp: whole, Jitter: max(x.jitter, fix.Pow(own))}
			checkTell(t, phi(0), f, own, 0, 0, should)
		}
		// The first one is that of the least delay, wherever it stands.
		slices.Reverse(f.L[:f.Many])
		checkTell(t, phi(0), f, -40, 0, 0, Told{Offset: max(x.offsets[0], -top), Disp: whole, Jitter: x.jitter})
	}
	// What the clock was corrected by between two samples is no jitter.
	moved := of(api.Sample{Offset: second, Delay: 1, Disp: api.MaxDisp, Total: 2 * second}, api.Sample{Offset: 3 * second, Delay: 2, Disp: api.MaxDisp})
	checkTell(t, phi(0), moved, -40, 0, 2*second, Told{Offset: second, Delay: 1, Disp: whole})
	checkTell(t, phi(0), moved, -40, 0, 0, Told{Offset: 3 * second, Delay: 1, Disp: whole})
	moved.L[1].Total = second
	checkTell(t, phi(0), moved, -40, 0, 0, Told{Offset: 3 * second, Delay: 1, Disp: whole, Jitter: second})
	// Moves are cut ahead of what they differ by.
	ends := of(api.Sample{Offset: top, Delay: 1, Disp: api.MaxDisp}, api.Sample{Offset: top - second, Delay: 2, Disp: api.MaxDisp})
	checkTell(t, phi(0), ends, -40, 0, 0, Told{Offset: top, Delay: 1, Disp: whole, Jitter: second})
	checkTell(t, phi(0), ends, -40, 0, -2*second, Told{Offset: top, Delay: 1, Disp: whole})
}

// took tells a filter of one sample, which told that last when a sample of used came, the corrections were total, and the jitter that one.
func took(s api.Sample, used, offset, total, jitter int64) Filter {
	f := of(s)
	f.Had, f.Used, f.Offset, f.Total, f.Jitter = true, used, offset, total, jitter
	return f
}

// checkTake holds what Take tells against an error, or else against Tell.
func checkTake(t *testing.T, p setup.Params, f Filter, own, poll int, at, total int64, fault api.Errno) {
	t.Helper()
	should, told := f, Told{}
	if fault == api.OK {
		told, _ = Tell(p, f, own, at, total)
		should.Had, should.Used, should.Offset, should.Total, should.Jitter = true, told.At, told.Offset, total, told.Jitter
	}
	for range 2 {
		if g, is, e := Take(p, f, own, poll, at, total); g != should || is != told || e != fault {
			t.Errorf("Take of %+v, %d, %d, %d, %d = %+v, %+v, %d, not %+v, %+v, %d", f, own, poll, at, total, g, is, e, should, told, fault)
		}
	}
}

// P14.3: ErrNone of no samples; the filter stays as it is, whatever is behind them.
func TestTakeNone(t *testing.T) {
	for _, many := range []int{0, -1, lowest} {
		f := of()
		f.Many = many
		checkTake(t, usual(t), f, -20, 6, second, 0, api.ErrNone)
		f.Had, f.Used, f.Offset, f.Total, f.Jitter = true, lowest, 5*second, 7, 1
		checkTake(t, usual(t), f, -20, 6, second, 0, api.ErrNone)
		f.Used = top
		checkTake(t, usual(t), f, -20, 6, second, 0, api.ErrNone)
	}
	checkTake(t, usual(t), Filter{}, -20, 6, second, 0, api.ErrNone)
}

// P14.3: what is told, and what is kept of it, by hand.
func TestTakeTold(t *testing.T) {
	f := of(api.Sample{Offset: 9 * second, Delay: 5, Disp: 64, At: 300, Total: 10}, api.Sample{Offset: 6 * second, Delay: 4, Disp: 64, At: 200, Total: 10})
	told := Told{Offset: 6*second - 7, Delay: 4, Disp: 32 + 16 + whole - 3*api.MaxDisp/4, Jitter: 3 * second, At: 200}
	should := f
	should.Had, should.Used, should.Offset, should.Total, should.Jitter = true, 200, 6*second-7, 17, 3*second
	// What was not told tells nothing of what is new, or near.
	for _, last := range []Filter{f, {L: f.L, Many: f.Many, Used: 900, Offset: -900 * second, Total: 900, Jitter: 1}} {
		if g, is, e := Take(phi(0), last, -20, 6, 300, 17); g != should || is != told || e != api.OK {
			t.Errorf("%+v, %+v, %d", g, is, e)
		}
	}
	// Many stays as it is, and what is behind the samples too.
	for _, many := range []int{8, 9, 1 << 40, math.MaxInt} {
		f.Many = many
		checkTake(t, phi(0), f, -20, 6, 300, 17, api.OK)
	}
	f.Many = 1
	checkTake(t, phi(0), f, -20, 6, 300, 17, api.OK)
}

// P14.3: ErrStale, if the sample that counts is not newer than that which was told last.
func TestTakeStale(t *testing.T) {
	for _, at := range []int64{lowest, -top, -1, 0, 1, 500 * second, 1 << 62, top} {
		s := api.Sample{Offset: second, Delay: 5, Disp: 64, At: at}
		checkTake(t, phi(0), took(s, at, second, 0, second), -20, 6, 0, 0, api.ErrStale)
		checkTake(t, phi(0), took(s, top, second, 0, second), -20, 6, 0, 0, api.ErrStale)
		never := took(s, top, second, 0, second)
		never.Had = false
		checkTake(t, phi(0), never, -20, 6, 0, 0, api.OK)
		if at < top {
			checkTake(t, phi(0), took(s, at+1, second, 0, second), -20, 6, 0, 0, api.ErrStale)
		}
		if at > lowest {
			checkTake(t, phi(0), took(s, at-1, second, 0, second), -20, 6, 0, 0, api.OK)
			checkTake(t, phi(0), took(s, lowest, second, 0, second), -20, 6, 0, 0, api.OK)
		}
		// What is stale is no spike, too.
		checkTake(t, phi(0), took(s, at, -900*second, 0, 0), -20, 30, 0, 0, api.ErrStale)
	}
	// The newest sample does not count, if an older one has the least delay.
	f := of(api.Sample{Delay: 6, At: 900}, api.Sample{Delay: 5, At: 300})
	f.Had, f.Used = true, 300
	checkTake(t, phi(0), f, -20, 6, 900, 0, api.ErrStale)
	f.Used = 299
	checkTake(t, phi(0), f, -20, 6, 900, 0, api.OK)
}

// P14.3: ErrSpike of an offset that is further from the one told last than three jitters; as far is no spike.
func TestTakeSpikeFar(t *testing.T) {
	for _, x := range []struct {
		offset, from, jitter int64
		fault                api.Errno
	}{
		{0, 0, 0, api.OK}, {1, 0, 0, api.ErrSpike}, {-1, 0, 0, api.ErrSpike}, {3, 0, 1, api.OK}, {4, 0, 1, api.ErrSpike}, {-3, 0, 1, api.OK}, {-4, 0, 1, api.ErrSpike},
		{3 * second, 0, second, api.OK}, {3*second + 1, 0, second, api.ErrSpike}, {-3 * second, 0, second, api.OK}, {-3*second - 1, 0, second, api.ErrSpike},
		{second, 7 * second, 2 * second, api.OK}, {second - 1, 7 * second, 2 * second, api.ErrSpike}, {second, 7*second + 1, 2 * second, api.ErrSpike}, {-second, 5 * second, 2 * second, api.OK}, {-second, 5*second + 1, 2 * second, api.ErrSpike},
		// What no Tell tells is reckoned likewise.
		{0, 0, -1, api.ErrSpike}, {0, 0, lowest, api.ErrSpike}, {9, 0, -1, api.ErrSpike},
		// All of it is cut.
		{top, 0, top / 3, api.ErrSpike}, {top - 1, 0, top / 3, api.OK}, {top, 0, top/3 + 1, api.OK}, {top, -top, top/3 + 1, api.OK}, {top, -top, top, api.OK}, {-top, top, top / 2, api.OK}, {-top, top, top / 3, api.ErrSpike}, {lowest, 0, top / 3, api.ErrSpike}, {lowest, -top, 0, api.OK}, {0, lowest, top / 3, api.ErrSpike}, {0, lowest, top, api.OK},
	} {
		f := took(api.Sample{Offset: x.offset, Delay: 5, Disp: 64, At: 500}, 400, x.from, 0, x.jitter)
		checkTake(t, phi(0), f, 20, 6, 500, 0, x.fault)
		f.Had = false
		checkTake(t, phi(0), f, 20, 6, 500, 0, api.OK)
	}
}

// P14.3: both offsets move by what the clock was corrected by since.
func TestTakeSpikeMoved(t *testing.T) {
	for _, x := range []struct {
		s                           api.Sample
		from, fromTotal, fromJitter int64
		total                       int64
		fault                       api.Errno
	}{
		// Told ahead of a step of two seconds; the sample came behind it.
		{api.Sample{Offset: second, Total: 2 * second}, 3 * second, 0, 0, 2 * second, api.OK},
		{api.Sample{Offset: second, Total: 2 * second}, 3 * second, 0, 0, 9 * second, api.OK},
		{api.Sample{Offset: second + 1, Total: 2 * second}, 3 * second, 0, 0, 2 * second, api.ErrSpike},
		{api.Sample{Offset: second - 1, Total: 2 * second}, 3 * second, 0, 0, 2 * second, api.ErrSpike},
		// The sample came ahead of it, too.
		{api.Sample{Offset: 3 * second}, 3 * second, 0, 0, 2 * second, api.OK},
		{api.Sample{Offset: 3 * second}, second, 2 * second, 0, 2 * second, api.OK},
		{api.Sample{Offset: 3 * second}, second, 2 * second, 0, -2 * second, api.OK},
		{api.Sample{Offset: 3 * second}, second, second, 0, 2 * second, api.ErrSpike},
		{api.Sample{Offset: 3 * second}, second, second, second / 3, 2 * second, api.ErrSpike},
		{api.Sample{Offset: 3 * second}, second, second, second/3 + 1, 2 * second, api.OK},
		{api.Sample{Offset: 3 * second}, 5 * second, -second, second / 3, 2 * second, api.ErrSpike},
		{api.Sample{Offset: 3 * second}, 5 * second, -second, second/3 + 1, 2 * second, api.OK},
		// Each difference is cut by itself.
		{api.Sample{Offset: 0}, 0, lowest, 0, 1, api.ErrSpike}, {api.Sample{Offset: -top + 5, Total: 5}, 5, -top, 0, 5, api.OK}, {api.Sample{Offset: -top + 6, Total: 5}, 5, -top, 0, 5, api.ErrSpike},
	} {
		x.s.Delay, x.s.At = 5, 500
		checkTake(t, phi(0), took(x.s, 400, x.from, x.fromTotal, x.fromJitter), -40, 6, 500, x.total, x.fault)
	}
}

// P14.3: an offset is a spike only ahead of two waits behind what was told last.
func TestTakeSpikeSoon(t *testing.T) {
	for _, x := range []struct {
		used, at int64
		poll     int
		fault    api.Errno
	}{
		{0, 0, 6, api.ErrSpike}, {0, second, 6, api.ErrSpike}, {0, 64 * second, 6, api.ErrSpike}, {0, 128*second - 1, 6, api.ErrSpike}, {0, 128 * second, 6, api.OK}, {0, 128*second + 1, 6, api.OK}, {0, 128 * second, 7, api.ErrSpike}, {0, 256*second - 1, 7, api.ErrSpike}, {0, 256 * second, 7, api.OK},
		{5 * second, 133*second - 1, 6, api.ErrSpike}, {5 * second, 133 * second, 6, api.OK}, {50 * second, 7 * second, 6, api.ErrSpike}, {50 * second, lowest, 6, api.ErrSpike}, {-50 * second, 78*second - 1, 6, api.ErrSpike}, {-50 * second, 78 * second, 6, api.OK},
		{0, 2*second - 1, 0, api.ErrSpike}, {0, 2 * second, 0, api.OK}, {0, second - 1, -1, api.ErrSpike}, {0, second, -1, api.OK}, {0, 1, -32, api.ErrSpike}, {0, 2, -32, api.OK},
		// A wait that is too small to be told is none, and so are two.
		{0, -1, -33, api.ErrSpike}, {0, 0, -33, api.OK}, {0, 0, -1000, api.OK}, {0, 0, lowest, api.OK}, {0, -1, lowest, api.ErrSpike},
		// One that is too great is cut.
		{0, top - 1, 30, api.ErrSpike}, {0, top, 30, api.OK}, {0, top - 1, 31, api.ErrSpike}, {0, top, 31, api.OK}, {0, top, math.MaxInt, api.OK}, {0, top - 1, math.MaxInt, api.ErrSpike}, {1, top, 32, api.ErrSpike}, {-1, top, 32, api.OK}, {lowest, top, 1000, api.OK}, {lowest, 0, 1000, api.OK}, {lowest, -2, 1000, api.ErrSpike}, {0, 1<<62 - 1, 29, api.ErrSpike}, {0, 1 << 62, 29, api.OK},
	} {
		f := took(api.Sample{Offset: 900 * second, Delay: 5, Disp: 64, At: x.used + 1}, x.used, 0, 0, second)
		checkTake(t, phi(0), f, -20, x.poll, x.at, 0, x.fault)
		// What is near is no spike however soon it came.
		f.L[0].Offset = 3 * second
		checkTake(t, phi(0), f, -20, x.poll, x.at, 0, api.OK)
		f.L[0].Offset, f.Had = 900*second, false
		checkTake(t, phi(0), f, -20, x.poll, x.at, 0, api.OK)
	}
}

// P14.3: nothing of p counts but Phi, and that only for a dispersion.
func TestTakeParams(t *testing.T) {
	p := usual(t)
	full := setup.Params{Step: -1, Watch: 1, Panic: 2, MaxRate: 3, Phi: p.Phi, MaxDist: 1, Gate: -9, MinPoll: 99, MaxPoll: -99, Burst: 7, MinSane: 8, MinLeft: 9}
	s := api.Sample{Offset: 900 * second, Delay: 5, Disp: 64, At: 500}
	for _, at := range []int64{0, 700, 64 * second, 128 * second, 4000 * second} {
		f := took(s, 400, 0, 0, second)
		g, told, e := Take(p, f, -20, 6, at, 3)
		if h, is, fault := Take(full, f, -20, 6, at, 3); h != g || is != told || fault != e {
			t.Errorf("at %d: %+v, %+v, %d", at, h, is, fault)
		}
		if h, _, fault := Take(setup.Params{Phi: top}, f, -20, 6, at, 3); h != g || fault != e {
			t.Errorf("at %d: %+v, %d", at, h, fault)
		}
	}
}

// model is what the chapter's words say of numbers of any size; how samples age and move is layer 13's.
type model struct{}

// num tells a number of any size.
func (model) num(a int64) *big.Int { return big.NewInt(a) }

// cut tells a number from -Max to Max.
func (m model) cut(a *big.Int) int64 {
	if a.CmpAbs(m.num(top)) > 0 {
		return int64(a.Sign()) * top
	}
	return a.Int64()
}

// add tells a and b.
func (m model) add(a, b int64) int64 { return m.cut(new(big.Int).Add(m.num(a), m.num(b))) }

// sub tells a less b.
func (m model) sub(a, b int64) int64 { return m.cut(new(big.Int).Sub(m.num(a), m.num(b))) }

// pow tells 2^n seconds; a hundred is as far as any exponent tells something.
func (m model) pow(n int) int64 {
	all := new(big.Int).Lsh(m.num(second), uint(100+max(-100, min(n, 100))))
	return m.cut(all.Rsh(all, 100))
}

// root tells the root of the mean of squares.
func (m model) root(l []int64) int64 {
	if len(l) == 0 {
		return 0
	}
	all := new(big.Int)
	for _, x := range l {
		square := new(big.Int).Mul(m.num(x), m.num(x))
		all.Add(all, m.num(m.cut(square.Rsh(square, 32))))
	}
	all.Div(all, m.num(int64(len(l))))
	return m.cut(all.Sqrt(all.Lsh(all, 32)))
}

// samples tells how many there are.
func (m model) samples(f Filter) int {
	switch {
	case f.Many < 0:
		return 0
	case f.Many > 8:
		return 8
	}
	return f.Many
}

// order tells Order's answer: again and again the first one of the least delay that was not told.
func (m model) order(f Filter) []int {
	var l []int
	for range m.samples(f) {
		least := -1
		for place := range m.samples(f) {
			if !slices.Contains(l, place) && (least < 0 || f.L[place].Delay < f.L[least].Delay) {
				least = place
			}
		}
		l = append(l, least)
	}
	return l
}

// put tells Put's answer.
func (m model) put(f Filter, s api.Sample) Filter {
	all := append([]api.Sample{s}, f.L[:m.samples(f)]...)
	all = append(all[:min(len(all), 8)], make([]api.Sample, 8)...)
	f.Many = min(m.samples(f)+1, 8)
	f.L = [8]api.Sample(all[:8])
	return f
}

// tell tells Tell's answer.
func (m model) tell(p setup.Params, f Filter, own int, at, total int64) (Told, bool) {
	l := m.order(f)
	if len(l) == 0 {
		return Told{}, false
	}
	first := f.L[l[0]]
	told := Told{Offset: sample.Move(first, total), Delay: first.Delay, At: first.At}
	for i := range 8 {
		age := int64(api.MaxDisp)
		if i < len(l) {
			age = sample.Age(p, f.L[l[i]], at)
		}
		share := new(big.Int).Div(m.num(age), m.num(2<<i))
		told.Disp = m.add(told.Disp, share.Int64())
	}
	var gaps []int64
	for _, place := range l[1:] {
		gaps = append(gaps, m.sub(sample.Move(f.L[place], total), told.Offset))
	}
	told.Jitter = max(m.root(gaps), m.pow(own))
	return told, true
}

// take tells Take's answer.
func (m model) take(p setup.Params, f Filter, own, poll int, at, total int64) (Filter, Told, api.Errno) {
	told, is := m.tell(p, f, own, at, total)
	if !is {
		return f, Told{}, api.ErrNone
	}
	if f.Had {
		gap := m.sub(told.Offset, m.sub(f.Offset, m.sub(total, f.Total)))
		three := m.add(f.Jitter, m.add(f.Jitter, f.Jitter))
		if told.At <= f.Used {
			return f, Told{}, api.ErrStale
		}
		if max(gap, -gap) > three && m.sub(at, f.Used) < m.add(m.pow(poll), m.pow(poll)) {
			return f, Told{}, api.ErrSpike
		}
	}
	return Filter{L: f.L, Many: f.Many, Had: true, Used: told.At, Offset: told.Offset, Total: total, Jitter: told.Jitter}, told, api.OK
}

// drawing hands on numbers: any, of which most are at an edge, or such as servers tell; and exponents.
func drawing(draw func() uint64, wild bool) (number func() int64, exponent func() int) {
	edges := []int64{lowest, -top, -(1 << 62), -api.MaxDisp, -second, -1, 0, 1, 2, second / 2, second, api.MaxDisp, 1 << 62, top}
	pick := func(n int) int { return int(draw() >> 20 % uint64(n)) }
	number = func() int64 {
		switch {
		case !wild:
			return int64(pick(9)-4) * second / int64(1+pick(3))
		case pick(3) == 0:
			return int64(draw()) >> pick(64)
		}
		return edges[pick(len(edges))] + int64(pick(5)) - 2
	}
	exponent = func() int {
		switch {
		case !wild:
			return pick(5) - 3
		case pick(9) == 0:
			return int(number())
		}
		return pick(70) - 36
	}
	return number, exponent
}

// drawn tells any filter.
func drawn(number func() int64) Filter {
	f := Filter{Many: int(uint64(number())>>3%11) - 1, Had: number()&3 != 0, Used: number(), Offset: number(), Total: number(), Jitter: number()}
	if number() == 0 {
		f.Many = int(number())
	}
	for place := range f.L {
		f.L[place] = api.Sample{Offset: number(), Delay: number(), Disp: number(), At: number(), Total: number()}
	}
	return f
}

// checkModel holds all four against the model, and tells Take's error.
func checkModel(t *testing.T, p setup.Params, f Filter, s api.Sample, own, poll int, at, total int64) api.Errno {
	t.Helper()
	m := model{}
	if is, should := Put(f, s), m.put(f, s); is != should {
		t.Fatalf("Put of %+v, %+v = %+v, not %+v", f, s, is, should)
	}
	if is, should := Order(f), m.order(f); !slices.Equal(is, should) {
		t.Fatalf("Order of %+v = %v, not %v", f, is, should)
	}
	told, has := m.tell(p, f, own, at, total)
	if is, ok := Tell(p, f, own, at, total); is != told || ok != has {
		t.Fatalf("Tell of %+v, %+v, %d, %d, %d = %+v, %v, not %+v, %v", p, f, own, at, total, is, ok, told, has)
	}
	should, told, fault := m.take(p, f, own, poll, at, total)
	if g, is, e := Take(p, f, own, poll, at, total); g != should || is != told || e != fault {
		t.Fatalf("Take of %+v, %+v, %d, %d, %d, %d = %+v, %+v, %d, not %+v, %+v, %d", p, f, own, poll, at, total, g, is, e, should, told, fault)
	}
	return fault
}

// P14.1 to P14.3: all four hold to the chapter's own words, whatever they are given.
func TestModel(t *testing.T) {
	draw := draws()
	for _, wild := range []bool{false, true} {
		number, exponent := drawing(draw, wild)
		seen := map[api.Errno]int{}
		for range 60000 {
			f := drawn(number)
			s := api.Sample{Offset: number(), Delay: number(), Disp: number(), At: number(), Total: number()}
			seen[checkModel(t, phi(number()), f, s, exponent(), exponent(), number(), number())]++
			seen[checkModel(t, phi(number()), Put(f, s), s, exponent(), exponent(), number(), number())]++
		}
		for _, e := range []api.Errno{api.OK, api.ErrNone, api.ErrStale, api.ErrSpike} {
			if seen[e] < 3000 {
				t.Errorf("wild %v: seen %v", wild, seen)
			}
		}
	}
}

// P14.4: each Take that is OK used a newer sample than all ahead of it.
func TestToldOnce(t *testing.T) {
	draw := draws()
	number, exponent := drawing(draw, true)
	p := usual(t)
	for range 300 {
		f, many := Filter{}, 0
		last, at := int64(-1), int64(0)
		for range 100 {
			at += int64(draw() % (100 * second))
			if draw()>>20%3 > 0 {
				f = Put(f, api.Sample{Offset: number(), Delay: int64(draw() >> 20 % 7), Disp: number(), At: at - int64(draw()%(200*second)), Total: number()})
			}
			g, told, e := Take(p, f, -20, exponent(), at, number())
			if e != api.OK {
				if g != f {
					t.Fatalf("%d changes %+v to %+v", e, f, g)
				}
				continue
			}
			if many > 0 && told.At <= last || g.Used != told.At {
				t.Fatalf("%+v was told behind %d", told, last)
			}
			if _, _, e := Take(p, g, -20, exponent(), at, number()); e != api.ErrStale {
				t.Fatalf("%+v was told twice: %d", told, e)
			}
			f, last, many = g, told.At, many+1
		}
		if many < 3 {
			t.Errorf("told %d times", many)
		}
	}
}

// P14.4: which sample counts does not hang on corrections, ahead of it or since.
func TestCorrections(t *testing.T) {
	draw := draws()
	number, _ := drawing(draw, true)
	p := usual(t)
	for range 20000 {
		f, at := drawn(number), number()
		g, first := f, number()
		for place := range g.L {
			g.L[place].Offset, g.L[place].Total = number(), number()
		}
		told, is := Tell(p, f, -20, at, first)
		again, ok := Tell(p, g, -20, at, number())
		if is != ok || told.At != again.At || told.Delay != again.Delay || told.Disp != again.Disp {
			t.Fatalf("%+v: %+v, %+v", f, told, again)
		}
		if !slices.Equal(Order(f), Order(g)) {
			t.Fatalf("%+v: %v, %v", f, Order(f), Order(g))
		}
	}
}
