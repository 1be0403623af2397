package rootd

import (
	"math"
	"math/big"
	"slices"
	"testing"

	"analemma/api"
	"analemma/filter"
	"analemma/setup"
)

const (
	second = api.Second
	top    = api.Max
	lowest = math.MinInt64
	// least is the least distance that a server has, if it tells nothing below 0: half of MinDisp.
	least = 10737418
	// own is the reference of who asks.
	own = 0x7f000001
)

// usual tells what is standard.
func usual(t *testing.T) setup.Params {
	t.Helper()
	p, _, e := setup.Check(setup.Standard())
	if e != api.OK {
		t.Fatal(e)
	}
	return p
}

// draws hands on numbers of 64 bits, the same ones each time.
func draws() func() uint64 {
	state := uint64(88172645463325252)
	return func() uint64 {
		state ^= state << 13
		state ^= state >> 7
		state ^= state << 17
		return state
	}
}

// far tells a server of that distance, as long as nothing ages: it is fit, if that is below MaxDist.
func far(distance int64) Server {
	return Server{Stratum: 2, Ref: 9, Disp: distance - least, Reg: 1}
}

// checkDistance holds Distance against what it should tell.
func checkDistance(t *testing.T, p setup.Params, s Server, at, should int64) {
	t.Helper()
	if is := Distance(p, s, at); is != should {
		t.Errorf("Distance of %+v, %d = %d, not %d", s, at, is, should)
	}
}

// P15.1: half of both delays, but of MinDisp at least, is rounded down.
func TestDistanceDelay(t *testing.T) {
	if api.MinDisp != 2*least {
		t.Fatal(api.MinDisp)
	}
	for _, x := range []struct{ delay, told, should int64 }{
		{0, 0, least}, {1, 1, least}, {-1, -1, least}, {api.MinDisp, 0, least}, {0, api.MinDisp, least}, {least, least, least}, {api.MinDisp - 1, 0, least}, {0, api.MinDisp - 1, least},
		{api.MinDisp + 1, 0, least}, {0, api.MinDisp + 1, least}, {api.MinDisp + 2, 0, least + 1}, {0, api.MinDisp + 2, least + 1}, {api.MinDisp, 1, least}, {api.MinDisp, 2, least + 1}, {api.MinDisp + 1, 1, least + 1},
		{second, 0, second / 2}, {0, second, second / 2}, {second, second, second}, {3 * second, 4 * second, 7 * second / 2}, {second, second + 1, second}, {second + 1, second + 1, second + 1},
		// One of them is below 0.
		{5 * second, -2 * second, 3 * second / 2}, {-2 * second, 5 * second, 3 * second / 2}, {5 * second, -5 * second, least}, {second, -9 * second, least},
		// Both are cut ahead of the half.
		{top, 0, top / 2}, {0, top, top / 2}, {top, top, top / 2}, {top, 1, top / 2}, {1 << 62, 1 << 62, top / 2}, {top, -top, least}, {lowest, top, least}, {lowest, lowest, least}, {-top, -top, least}, {top, lowest, least},
	} {
		s := Server{Delay: x.delay, Told: filter.Told{Delay: x.told}}
		checkDistance(t, setup.Params{}, s, 0, x.should)
	}
}

// P15.1: both dispersions and the jitter are added whole.
func TestDistanceDisp(t *testing.T) {
	for _, x := range []struct{ disp, told, jitter, should int64 }{
		{1, 0, 0, least + 1}, {0, 1, 0, least + 1}, {0, 0, 1, least + 1}, {1, 2, 4, least + 7}, {second, 2 * second, 4 * second, least + 7*second}, {api.MaxDisp, api.MaxDisp, 0, least + 32*second},
		{-1, 0, 0, least - 1}, {0, -2, 0, least - 2}, {0, 0, -4, least - 4}, {-second, -2 * second, -4 * second, least - 7*second},
		// Each sum is cut by itself, in the order in which they stand.
		{top, 0, 0, top}, {top - least, 0, 0, top}, {top - least - 1, 0, 0, top - 1}, {top, top, 0, top}, {top, top, top, top}, {top, -top, 0, 0}, {top, top, -top, 0}, {top, -top, top, top}, {top, -top, -top, -top}, {-top, top, 0, least}, {-top, -top, top, 0}, {-top, -top, least, least - top}, {0, top, -top, 0}, {lowest, 0, 0, least - 1 - top}, {lowest, lowest, 0, -top}, {lowest, lowest, lowest, -top}, {lowest, top, 0, least - 1}, {top, lowest, 0, -1},
	} {
		s := Server{Disp: x.disp, Told: filter.Told{Disp: x.told, Jitter: x.jitter}}
		checkDistance(t, setup.Params{}, s, 0, x.should)
	}
}

// P15.1: a distance grows by Phi, from when the sample came on that tells.
func TestDistanceAge(t *testing.T) {
	for _, x := range []struct{ phi, then, at, grown int64 }{
		{second, 0, 0, 0}, {second, 0, 1, 1}, {second, 0, 7 * second, 7 * second}, {second, 5 * second, 7 * second, 2 * second}, {second, -5 * second, 7 * second, 12 * second}, {second / 2, 0, 7 * second, 7 * second / 2}, {second / 2, 0, 7, 3}, {0, 0, 7 * second, 0}, {1, 0, second, 1}, {1, 0, second - 1, 0}, {1, 0, 2*second - 1, 1}, {1, 1, second, 0}, {1, 1, second + 1, 1},
		// Nothing grows ahead of it.
		{second, 5 * second, 5 * second, 0}, {second, 5 * second, 5*second - 1, 0}, {second, 5 * second, 0, 0}, {second, top, 0, 0}, {second, top, lowest, 0}, {second, 0, lowest, 0}, {-second, 5, 0, 0},
		// A Phi below 0 is reckoned likewise, and rounded down.
		{-second, 0, 7, -7}, {-1, 0, 1, -1}, {-1, 0, second + 1, -2},
		// All of it is cut.
		{second, 0, top - least, top - least}, {second, lowest, -top + 5, 6}, {second, lowest, lowest, 0}, {second, -top, 0, top - least}, {second, -top, top, top - least}, {second, lowest, top, top - least}, {2 * second, 0, 1 << 62, top - least}, {top, 0, top, top - least}, {second / 2, lowest, top, top / 2}, {second / 2, -top, 5, top / 2},
	} {
		checkDistance(t, setup.Params{Phi: x.phi}, Server{Told: filter.Told{At: x.then}}, x.at, least+x.grown)
	}
	// It stands ahead of the jitter, and behind both dispersions.
	p := setup.Params{Phi: second}
	checkDistance(t, p, Server{Told: filter.Told{Jitter: -top}}, top, 0)
	checkDistance(t, p, Server{Disp: top, Told: filter.Told{Jitter: -top}}, top, 0)
	checkDistance(t, p, Server{Disp: -top, Told: filter.Told{Disp: -top}}, top, 0)
	checkDistance(t, p, Server{Told: filter.Told{Disp: top, Jitter: -5}}, top, top-5)
	checkDistance(t, p, Server{Disp: -top, Told: filter.Told{Jitter: top}}, top, top)
}

// P15.1: all of it at once, by what is standard: in a thousand seconds it grows by 15 milliseconds.
func TestDistanceAll(t *testing.T) {
	p := usual(t)
	s := Server{Leap: 1, Stratum: 2, Ref: 3, Delay: 3 * second, Disp: second / 4, Reg: 5, Told: filter.Told{Offset: 77 * second, Delay: second, Disp: second / 8, Jitter: second / 16, At: 500 * second}}
	whole := int64(2*second + 7*second/16)
	checkDistance(t, p, s, 0, whole)
	checkDistance(t, p, s, 500*second, whole)
	checkDistance(t, p, s, 1500*second, whole+1000*p.Phi)
	if 1000*p.Phi < 15*second/1000-1000 || 1000*p.Phi > 15*second/1000 {
		t.Error(p.Phi)
	}
	// Nothing else of a server counts, and nothing else of p.
	other := s
	other.Leap, other.Stratum, other.Ref, other.Reg, other.Told.Offset = 3, -9, 8, 0, lowest
	checkDistance(t, setup.Params{Phi: p.Phi}, other, 1500*second, whole+1000*p.Phi)
	p.Step, p.Watch, p.Panic, p.MaxRate, p.MaxDist, p.Gate = 1, 2, 3, 4, 5, 6
	p.MinPoll, p.MaxPoll, p.Burst, p.MinSane, p.MinLeft = 7, 8, 9, 10, 11
	checkDistance(t, p, s, 1500*second, whole+1000*p.Phi)
}

// P15.1: a span goes from as far below the offset as above it.
func TestSpan(t *testing.T) {
	for _, x := range []struct {
		offset, distance int64
		should           api.Span
	}{
		{0, least, api.Span{Low: -least, High: least}}, {second, least, api.Span{Low: second - least, High: second + least}}, {-9 * second, 2 * second, api.Span{Low: -11 * second, High: -7 * second}}, {5, second, api.Span{Low: 5 - second, High: 5 + second}}, {7, 0, api.Span{Low: 7, High: 7}}, {7, -2, api.Span{Low: 9, High: 5}},
		{top, least, api.Span{Low: top - least, High: top}}, {-top, least, api.Span{Low: -top, High: least - top}}, {0, top, api.Span{Low: -top, High: top}}, {top, top, api.Span{Low: 0, High: top}}, {-top, top, api.Span{Low: -top, High: 0}}, {second, top, api.Span{Low: second - top, High: top}},
		{lowest, 1, api.Span{Low: -top, High: -top}}, {lowest, 3, api.Span{Low: -top, High: 2 - top}},
	} {
		s := far(x.distance)
		s.Told.Offset = x.offset
		if is := Span(setup.Params{}, s, 0); is != x.should {
			t.Errorf("Span of %+v = %+v, not %+v", s, is, x.should)
		}
	}
	// It ages as the distance does.
	s := far(second)
	s.Told.Offset, s.Told.At = 5*second, 3*second
	for _, x := range []struct{ at, grown int64 }{{lowest, 0}, {0, 0}, {3 * second, 0}, {3*second + 4, 2}, {9 * second, 3 * second}} {
		should := api.Span{Low: 4*second - x.grown, High: 6*second + x.grown}
		if is := Span(setup.Params{Phi: second / 2, MaxDist: 1}, s, x.at); is != should {
			t.Errorf("at %d: %+v, not %+v", x.at, is, should)
		}
	}
}

// checkFit holds Fit against what it should tell.
func checkFit(t *testing.T, p setup.Params, s Server, poll int, at int64, should api.Errno) {
	t.Helper()
	for range 2 {
		if is := Fit(p, s, own, poll, at); is != should {
			t.Errorf("Fit of %+v, %+v, %d, %d = %d, not %d", p, s, poll, at, is, should)
		}
	}
}

// P15.2: ErrUnsync of a Leap of 3, and of a Stratum that is not 1 to 15.
func TestFitUnsync(t *testing.T) {
	p := usual(t)
	for _, leap := range []int{lowest, -1, 0, 1, 2, 3, 4, 7, math.MaxInt} {
		for _, stratum := range []int{lowest, -1, 0, 1, 2, 3, 14, 15, 16, 17, 255, 257, math.MaxInt} {
			should := api.ErrUnsync
			if leap != 3 && stratum >= 1 && stratum <= 15 {
				should = api.OK
			}
			s := far(second)
			s.Leap, s.Stratum = leap, stratum
			checkFit(t, p, s, 6, 0, should)
		}
	}
	checkFit(t, p, Server{}, 6, 0, api.ErrUnsync)
}

// P15.2: ErrRoot of a distance that is not below what was set, and what a wait adds.
func TestFitRoot(t *testing.T) {
	for _, x := range []struct {
		most, phi int64
		poll      int
		bound     int64
	}{
		{api.MaxDist, 0, 6, 3 * second / 2}, {second, 0, 6, second}, {api.MaxDisp, 0, 6, 16 * second}, {0, 0, 6, 0}, {-second, 0, 6, -second}, {top, 0, 6, top}, {lowest + 1, 0, 6, -top},
		// A wait of 64 seconds adds as many times Phi; one of 2^-6 seconds a part of it.
		{second, 1, 6, second + 64}, {second, 1000, 6, second + 64000}, {second, 1000, 7, second + 128000}, {second, 1000, 4, second + 16000}, {second, 1000, 0, second + 1000}, {second, 1000, -3, second + 125}, {second, 1000, -6, second + 15}, {second, 1000, -9, second + 1}, {second, 1000, -10, second}, {second, 1000, -32, second}, {second, 1000, -33, second}, {second, 1000, lowest, second},
		{second, -1, 6, second - 64}, {second, -1000, -6, second - 16}, {second, -1, -32, second - 1}, {second, -1, -33, second}, {second, second, 1, 3 * second},
		// A poll may be any: the wait is cut, what it adds, and the sum.
		{second, 1, 30, second + 1<<30}, {second, 1, 31, second + 1<<31 - 1}, {second, 1, 32, second + 1<<31 - 1}, {second, 1, math.MaxInt, second + 1<<31 - 1}, {second, second, math.MaxInt, top}, {0, top, 17, top}, {-second, top, 17, top - second}, {-top, -second, 6, -top}, {-top, top, 40, 0},
	} {
		p := setup.Params{MaxDist: x.most, Phi: x.phi}
		checkFit(t, p, exactly(x.bound), x.poll, 0, api.ErrRoot)
		if x.bound < top {
			checkFit(t, p, exactly(x.bound+1), x.poll, 0, api.ErrRoot)
			checkFit(t, p, exactly(top), x.poll, 0, api.ErrRoot)
		}
		if x.bound > -top {
			checkFit(t, p, exactly(x.bound-1), x.poll, 0, api.OK)
			checkFit(t, p, exactly(-top), x.poll, 0, api.OK)
		}
	}
}

// exactly tells a server of that distance, whatever it is: two terms make it, so that none is cut.
func exactly(distance int64) Server {
	s := far(least)
	s.Disp, s.Told.Disp = -least, distance
	return s
}

// P15.2: what is told of what was set is p's MaxDist and Phi; a server that is not heard gets too far with time.
func TestFitAge(t *testing.T) {
	p := usual(t)
	s := far(second)
	s.Told.At = 100 * second
	checkFit(t, p, s, 6, 100*second, api.OK)
	checkFit(t, p, s, 6, 0, api.OK)
	// Half a second is left, and what 64 seconds add.
	last := int64(100*second) + int64(float64(second/2)/float64(p.Phi)*float64(second)) + 64*second
	checkFit(t, p, s, 6, last-second, api.OK)
	checkFit(t, p, s, 6, last+second, api.ErrRoot)
	checkFit(t, p, s, 7, last+second, api.OK)
	checkFit(t, p, s, 7, last+65*second, api.ErrRoot)
	checkFit(t, p, s, 5, last-second, api.ErrRoot)
	checkFit(t, p, s, 6, top, api.ErrRoot)
	checkFit(t, p, s, 6, lowest, api.OK)
	// Nothing else of p counts.
	bare := setup.Params{MaxDist: p.MaxDist, Phi: p.Phi}
	full := setup.Params{Step: 1, Watch: 2, Panic: 3, MaxRate: 4, Phi: p.Phi, MaxDist: p.MaxDist, Gate: 5, MinPoll: 99, MaxPoll: -99, Burst: 8, MinSane: 9, MinLeft: 10}
	for _, p := range []setup.Params{bare, full} {
		checkFit(t, p, s, 6, last-second, api.OK)
		checkFit(t, p, s, 6, last+second, api.ErrRoot)
	}
	p.MaxDist = second
	checkFit(t, p, s, 6, 100*second, api.OK)
	checkFit(t, p, s, 6, 165*second, api.ErrRoot)
}

// P15.2: ErrTwice of a server that has its time from who asks; one of Stratum 1 has it from nobody.
func TestFitTwice(t *testing.T) {
	p := usual(t)
	for stratum := 1; stratum <= 15; stratum++ {
		for _, ref := range []uint32{0, 1, own - 1, own, own + 1, math.MaxUint32} {
			for _, mine := range []uint32{0, 1, own, math.MaxUint32} {
				should := api.OK
				if stratum > 1 && ref == mine {
					should = api.ErrTwice
				}
				s := far(second)
				s.Stratum, s.Ref = stratum, ref
				if is := Fit(p, s, mine, 6, 0); is != should {
					t.Errorf("stratum %d, %#x by %#x: %d, not %d", stratum, ref, mine, is, should)
				}
			}
		}
	}
}

// P15.2: ErrNone of a server that answered none of eight questions; any one is enough.
func TestFitNone(t *testing.T) {
	s := far(second)
	for reg := range 256 {
		should := api.OK
		if reg == 0 {
			should = api.ErrNone
		}
		s.Reg = uint8(reg)
		checkFit(t, usual(t), s, 6, 0, should)
	}
}

// P15.2: of several errors the first one is told, whichever of them there are.
func TestFitFirst(t *testing.T) {
	p := usual(t)
	faults := []struct {
		spoil func(s *Server)
		fault api.Errno
	}{
		{func(s *Server) { s.Leap = 3 }, api.ErrUnsync},
		{func(s *Server) { s.Stratum = 16 }, api.ErrUnsync},
		{func(s *Server) { s.Disp = 2 * second }, api.ErrRoot},
		{func(s *Server) { s.Ref = own }, api.ErrTwice},
		{func(s *Server) { s.Reg = 0 }, api.ErrNone},
	}
	for set := range 1 << len(faults) {
		s, should := far(second), api.OK
		for i := range faults {
			// From the last one on: the first one is what stays.
			if x := faults[len(faults)-1-i]; set>>i&1 > 0 {
				x.spoil(&s)
				should = x.fault
			}
		}
		checkFit(t, p, s, 6, 0, should)
	}
}

// P15.3: a metric is as many times MaxDist as the Stratum is, from 0 to 16, and the distance.
func TestMetric(t *testing.T) {
	for _, x := range []struct{ stratum, times int }{
		{lowest, 0}, {-1, 0}, {0, 0}, {1, 1}, {2, 2}, {3, 3}, {9, 9}, {15, 15}, {16, 16}, {17, 16}, {255, 16}, {1 << 32, 16}, {math.MaxInt, 16},
	} {
		for _, most := range []int64{0, 1, -1, second / 100, second, api.MaxDist, 16 * second, -second, top / 16, -top / 16} {
			for _, distance := range []int64{least, second, 99 * second, -5} {
				s := far(distance)
				s.Stratum = x.stratum
				should := int64(x.times)*most + distance
				if most == top/16 && x.times == 16 && distance > 15 {
					should = top
				}
				if is := Metric(setup.Params{MaxDist: most}, s, 0); is != should {
					t.Errorf("%d times %d and %d: %d, not %d", x.stratum, most, distance, is, should)
				}
			}
		}
	}
	s := far(second)
	s.Told.At = 5 * second
	for _, x := range []struct{ at, should int64 }{{0, 4 * second}, {5 * second, 4 * second}, {9 * second, 6 * second}, {lowest, 4 * second}, {9*second - 1, 6*second - 1}, {top, top/2 + 3*second/2}} {
		if is := Metric(setup.Params{MaxDist: 3 * second / 2, Phi: second / 2, Gate: 7, MinPoll: 8}, s, x.at); is != x.should {
			t.Errorf("at %d: %d, not %d", x.at, is, x.should)
		}
	}
}

// P15.3: what is added again and again is cut each time, and ahead of the distance.
func TestMetricCut(t *testing.T) {
	for _, x := range []struct {
		stratum               int
		most, distance, which int64
	}{
		{1, top, least, top}, {2, top, least, top}, {16, top, least, top}, {16, top, -top, 0}, {2, 1 << 62, -5, top - 5}, {2, 1<<62 - 1, -5, top - 6}, {2, -1 << 62, 5, 5 - top}, {16, -top, least, least - top}, {16, lowest, least, least - top}, {2, lowest, -least, -top}, {0, lowest, least, least}, {-9, top, least, least}, {3, 1 << 62, -top, 0}, {1, -top, top, 0}, {2, -top, top, 0},
	} {
		s := exactly(x.distance)
		s.Stratum = x.stratum
		if is := Metric(setup.Params{MaxDist: x.most}, s, 0); is != x.which {
			t.Errorf("%d times %d and %d: %d, not %d", x.stratum, x.most, x.distance, is, x.which)
		}
	}
}

// checkSort holds Sort against the places that it should tell, that each answer is new memory, and that l is not changed, and what is behind it.
func checkSort(t *testing.T, p setup.Params, l []Server, at int64, should ...int) {
	t.Helper()
	behind := append(slices.Clone(l), Server{Stratum: -7})
	was := slices.Clone(behind)
	for range 2 {
		is := Sort(p, behind[:len(l)], at)
		if !slices.Equal(is, should) {
			t.Fatalf("Sort of %+v = %v, not %v", l, is, should)
		}
		for i := range is {
			is[i] = -1
		}
		if cap(is) > len(is) {
			_ = append(is, -1)
		}
		if !slices.Equal(behind, was) {
			t.Fatalf("Sort of %+v makes %+v of it", was, behind)
		}
	}
}

// P15.3: places are told by metrics, the least one first; of the same the earlier place first.
func TestSort(t *testing.T) {
	p := usual(t)
	checkSort(t, p, nil, 0)
	checkSort(t, p, []Server{}, 0)
	for _, x := range []struct {
		distances []int64
		places    []int
	}{
		{[]int64{5}, []int{0}}, {[]int64{5, 6}, []int{0, 1}}, {[]int64{6, 5}, []int{1, 0}}, {[]int64{5, 5}, []int{0, 1}}, {[]int64{3, 1, 2}, []int{1, 2, 0}}, {[]int64{2, 1, 2, 1}, []int{1, 3, 0, 2}}, {[]int64{0, -1, 0, 1, -1}, []int{1, 4, 0, 2, 3}}, {[]int64{9, 8, 7, 6, 5, 4, 3, 2, 1, 0}, []int{9, 8, 7, 6, 5, 4, 3, 2, 1, 0}}, {[]int64{7, 7, 7, 7, 7, 7, 7, 7, 7, 6}, []int{9, 0, 1, 2, 3, 4, 5, 6, 7, 8}}, {[]int64{top, -top, 0, -top, top}, []int{1, 3, 2, 0, 4}}, {[]int64{1 << 62, -1 << 62, -top, top}, []int{2, 1, 0, 3}},
	} {
		var l []Server
		for _, distance := range x.distances {
			s := exactly(distance)
			s.Stratum = 0
			l = append(l, s)
		}
		checkSort(t, p, l, 0, x.places...)
	}
}

// P15.3: a step of Stratum is as much as MaxDist; which server is first may turn with time.
func TestSortBy(t *testing.T) {
	p := setup.Params{MaxDist: second, Phi: second}
	near, next, away := far(second/2), far(second/2), far(9*second/2)
	near.Stratum, next.Stratum, away.Stratum = 3, 4, 1
	checkSort(t, p, []Server{next, near, away}, 0, 1, 0, 2)
	p.MaxDist = 5 * second
	checkSort(t, p, []Server{next, near, away}, 0, 2, 1, 0)
	p.MaxDist = 2 * second
	// 17 by 2, 13 by 2 and 13 by 2.
	checkSort(t, p, []Server{next, near, away}, 0, 1, 2, 0)
	checkSort(t, p, []Server{away, next, near}, 0, 0, 2, 1)
	// What came late is young.
	next.Told.At, away.Told.At = 50*second, 51*second
	checkSort(t, p, []Server{next, near, away}, 0, 1, 2, 0)
	checkSort(t, p, []Server{next, near, away}, second, 2, 1, 0)
	checkSort(t, p, []Server{next, near, away}, 3*second, 2, 0, 1)
	checkSort(t, p, []Server{next, near, away}, 90*second, 2, 0, 1)
	// Whether a server is fit does not matter, and its offset neither.
	near.Leap, near.Reg, near.Ref, near.Told.Offset = 3, 0, own, -99*second
	checkSort(t, p, []Server{next, near, away}, 90*second, 2, 0, 1)
	// Each Stratum above 16 is the same, and each one below 0.
	p.Phi = 0
	l := []Server{{Stratum: 99}, {Stratum: 16}, {Stratum: 15}, {Stratum: math.MaxInt}, {Stratum: 0}, {Stratum: -1}, {Stratum: lowest}}
	checkSort(t, p, l, 0, 4, 5, 6, 2, 0, 1, 3)
}

// P15.3: a list of some hundreds is put in order; all that are the same stay in theirs.
func TestSortMany(t *testing.T) {
	draw := draws()
	p := usual(t)
	l := make([]Server, 700)
	for i := range l {
		l[i] = far(second * int64(draw()>>20%5))
		l[i].Stratum = int(draw() >> 20 % 4)
	}
	is := Sort(p, l, 0)
	for i := 1; i < len(is); i++ {
		before, behind := Metric(p, l[is[i-1]], 0), Metric(p, l[is[i]], 0)
		if before > behind || before == behind && is[i-1] >= is[i] {
			t.Fatalf("%d of %d stands ahead of %d of %d", is[i-1], before, is[i], behind)
		}
	}
	all := slices.Sorted(slices.Values(is))
	for i := range l {
		if len(all) != len(l) || all[i] != i {
			t.Fatalf("%v", all)
		}
	}
}

// model is what the chapter's words say of numbers of any size.
type model struct{}

// num tells a number of any size.
func (model) num(a int64) *big.Int { return big.NewInt(a) }

// cut tells a number from -Max to Max.
func (m model) cut(a *big.Int) int64 {
	if a.CmpAbs(m.num(top)) > 0 {
		return int64(a.Sign()) * top
	}
	return a.Int64()
}

// add tells a and b.
func (m model) add(a, b int64) int64 { return m.cut(new(big.Int).Add(m.num(a), m.num(b))) }

// sub tells a less b.
func (m model) sub(a, b int64) int64 { return m.cut(new(big.Int).Sub(m.num(a), m.num(b))) }

// mul tells a times b, one of which is a factor; Rsh rounds down.
func (m model) mul(a, b int64) int64 {
	all := new(big.Int).Mul(m.num(a), m.num(b))
	return m.cut(all.Rsh(all, 32))
}

// pow tells 2^n seconds; a hundred is as far as any exponent tells something.
func (m model) pow(n int) int64 {
	all := new(big.Int).Lsh(m.num(second), uint(100+max(-100, min(n, 100))))
	return m.cut(all.Rsh(all, 100))
}

// distance tells Distance's answer.
func (m model) distance(p setup.Params, s Server, at int64) int64 {
	delay := m.add(s.Delay, s.Told.Delay)
	if delay < second/200 {
		delay = second / 200
	}
	all := new(big.Int).Rsh(m.num(delay), 1).Int64()
	all = m.add(all, s.Disp)
	all = m.add(all, s.Told.Disp)
	age := m.sub(at, s.Told.At)
	if age < 0 {
		age = 0
	}
	all = m.add(all, m.mul(p.Phi, age))
	return m.add(all, s.Told.Jitter)
}

// span tells Span's answer.
func (m model) span(p setup.Params, s Server, at int64) api.Span {
	return api.Span{Low: m.sub(s.Told.Offset, m.distance(p, s, at)), High: m.add(s.Told.Offset, m.distance(p, s, at))}
}

// fit tells Fit's answer.
func (m model) fit(p setup.Params, s Server, own uint32, poll int, at int64) api.Errno {
	if s.Leap == 3 || s.Stratum < 1 || s.Stratum > 15 {
		return api.ErrUnsync
	}
	if !(m.distance(p, s, at) < m.add(p.MaxDist, m.mul(p.Phi, m.pow(poll)))) {
		return api.ErrRoot
	}
	if s.Stratum > 1 && s.Ref == own {
		return api.ErrTwice
	}
	if s.Reg == 0 {
		return api.ErrNone
	}
	return api.OK
}

// metric tells Metric's answer.
func (m model) metric(p setup.Params, s Server, at int64) int64 {
	all := int64(0)
	for n := 1; n <= 16 && n <= s.Stratum; n++ {
		all = m.add(all, p.MaxDist)
	}
	return m.add(all, m.distance(p, s, at))
}

// sort tells Sort's answer: again and again the first one of the least metric that was not told.
func (m model) sort(p setup.Params, l []Server, at int64) []int {
	var told []int
	for range l {
		first := -1
		for place := range l {
			if !slices.Contains(told, place) && (first < 0 || m.metric(p, l[place], at) < m.metric(p, l[first], at)) {
				first = place
			}
		}
		told = append(told, first)
	}
	return told
}

// drawing hands on numbers: any, of which most are at an edge, or such as servers tell; and small ones.
func drawing(draw func() uint64, wild bool) (number func() int64, small func(n int) int) {
	edges := []int64{lowest, -top, -(1 << 62), -api.MaxDisp, -second, -1, 0, 1, least, api.MinDisp, second, api.MaxDist, api.MaxDisp, 1 << 62, top}
	small = func(n int) int { return int(draw() >> 20 % uint64(n)) }
	number = func() int64 {
		switch {
		case !wild:
			return int64(draw() >> 20 % second / 2)
		case small(3) == 0:
			return int64(draw()) >> small(64)
		}
		return edges[small(len(edges))] + int64(small(5)) - 2
	}
	return number, small
}

// drawn tells any server, and seldom one of a Leap, a Stratum or a Reg that tells nothing.
func drawn(number func() int64, small func(n int) int) Server {
	s := Server{Leap: small(5) - 1, Stratum: small(9) - 1, Ref: own + uint32(small(4)), Delay: number(), Disp: number(), Reg: uint8(small(3) * small(86))}
	if small(9) == 0 {
		s.Stratum, s.Leap = small(40)-10, int(number())
	}
	s.Told = filter.Told{Offset: number(), Delay: number(), Disp: number(), Jitter: number(), At: number()}
	return s
}

// P15.1 to P15.3: all of them hold to the chapter's own words, whatever they are given.
func TestModel(t *testing.T) {
	draw, m := draws(), model{}
	for _, wild := range []bool{false, true} {
		number, small := drawing(draw, wild)
		seen := map[api.Errno]int{}
		for range 60000 {
			p := setup.Params{Phi: number(), MaxDist: number()}
			if !wild {
				p.Phi, p.MaxDist = p.Phi>>4, p.MaxDist<<2
			}
			s, at, poll := drawn(number, small), number(), small(80)-40
			if is, should := Distance(p, s, at), m.distance(p, s, at); is != should {
				t.Fatalf("Distance of %+v, %+v, %d = %d, not %d", p, s, at, is, should)
			}
			if is, should := Span(p, s, at), m.span(p, s, at); is != should {
				t.Fatalf("Span of %+v, %+v, %d = %+v, not %+v", p, s, at, is, should)
			}
			if is, should := Metric(p, s, at), m.metric(p, s, at); is != should {
				t.Fatalf("Metric of %+v, %+v, %d = %d, not %d", p, s, at, is, should)
			}
			fault := Fit(p, s, own, poll, at)
			if should := m.fit(p, s, own, poll, at); fault != should {
				t.Fatalf("Fit of %+v, %+v, %d, %d = %d, not %d", p, s, poll, at, fault, should)
			}
			seen[fault]++
		}
		for _, e := range []api.Errno{api.OK, api.ErrUnsync, api.ErrRoot, api.ErrTwice, api.ErrNone} {
			if seen[e] < 1000 {
				t.Errorf("wild %v: seen %v", wild, seen)
			}
		}
	}
}

// P15.3: Sort holds to the chapter's own words, of lists with many that are the same.
func TestModelSort(t *testing.T) {
	draw, m := draws(), model{}
	for _, wild := range []bool{false, true} {
		number, small := drawing(draw, wild)
		for range 1500 {
			p, at := setup.Params{Phi: number(), MaxDist: number()}, number()
			l := make([]Server, small(12))
			for i := range l {
				l[i] = drawn(number, small)
				if i > 0 && small(3) == 0 {
					l[i] = l[small(i)]
				}
			}
			checkSort(t, p, l, at, m.sort(p, l, at)...)
		}
	}
}

// P15.4: with time a server gets further away, never nearer, and so does where it holds the true offset to be.
func TestNeverNearer(t *testing.T) {
	draw := draws()
	usually := usual(t)
	for _, wild := range []bool{false, true} {
		number, small := drawing(draw, wild)
		grew := 0
		for range 30000 {
			p, s := usually, drawn(number, small)
			if p.MaxDist = number(); small(2) == 0 {
				p.Phi = max(number(), 0)
			}
			now, later := number(), number()
			if now > later {
				now, later = later, now
			}
			if Distance(p, s, now) > Distance(p, s, later) || Metric(p, s, now) > Metric(p, s, later) {
				t.Fatalf("%+v, %+v: %d at %d, %d at %d", p, s, Distance(p, s, now), now, Distance(p, s, later), later)
			}
			before, behind := Span(p, s, now), Span(p, s, later)
			if behind.Low > before.Low || behind.High < before.High {
				t.Fatalf("%+v, %+v: %+v at %d, %+v at %d", p, s, before, now, behind, later)
			}
			if Fit(p, s, own, 6, now) == api.ErrRoot && Fit(p, s, own, 6, later) != api.ErrRoot {
				t.Fatalf("%+v, %+v is fit at %d, and not at %d", p, s, later, now)
			}
			if before != behind {
				grew++
			}
		}
		if grew < 3000 {
			t.Errorf("wild %v: %d grew", wild, grew)
		}
	}
}

// P15.4: a span has its offset in it, of all that answers and filters tell.
func TestOffsetInSpan(t *testing.T) {
	draw := draws()
	p := usual(t)
	for _, wild := range []bool{false, true} {
		number, small := drawing(draw, wild)
		for range 30000 {
			s := drawn(number, small)
			s.Told.Offset = max(s.Told.Offset, -top)
			for _, x := range []*int64{&s.Disp, &s.Told.Disp, &s.Told.Jitter} {
				*x = max(*x, 0)
			}
			at := number()
			is := Span(p, s, at)
			if is.Low > s.Told.Offset || is.High < s.Told.Offset {
				t.Fatalf("%+v at %d: %+v", s, at, is)
			}
			if is.Low == is.High {
				t.Fatalf("%+v at %d holds the offset to be one number", s, at)
			}
		}
	}
}

// P15.1 to P15.4: what a filter tells of its samples, as it comes to a server that is asked every 64 seconds.
func TestOfFilter(t *testing.T) {
	p := usual(t)
	s := Server{Stratum: 1, Ref: own, Delay: second / 10, Disp: second / 100, Reg: 1}
	if e := Fit(p, s, own, 6, 0); e != api.OK {
		t.Errorf("a server of which nothing is told: %d", e)
	}
	f, at := filter.Filter{}, int64(0)
	for n := range 10 {
		at = int64(n) * 64 * second
		f = filter.Put(f, api.Sample{Offset: 7 * second, Delay: second / 50, Disp: second / 1000, At: at})
		told, is := filter.Tell(p, f, -20, at, 0)
		if !is {
			t.Fatal("nothing is told")
		}
		s.Told = told
		should := api.OK
		// Samples that are missing count 16 seconds each: too many of them are missing at first.
		if told.Disp+second*7/100 >= 3*second/2 {
			should = api.ErrRoot
		}
		if e := Fit(p, s, own, 6, at); e != should || (n < 3) != (e == api.ErrRoot) {
			t.Errorf("behind %d samples: %d, not %d", n+1, e, should)
		}
	}
	if is := Span(p, s, at); is.Low >= 7*second || is.High <= 7*second || is.High-is.Low > second/4 {
		t.Errorf("%+v", is)
	}
}
