package combine

import (
	"math"
	"math/big"
	"slices"
	"testing"

	"analemma/api"
	"analemma/cluster"
	"analemma/filter"
	"analemma/meet"
	"analemma/rootd"
	"analemma/setup"
)

const (
	second = api.Second
	top    = api.Max
	lowest = math.MinInt64
	// most is the Weight of a server that is as near as may be.
	most = 858993478400
	// share is what is left of Max, if it is cut as it is weighed by most.
	share = 46116859153481751
)

// all is a span that holds nothing back.
var all = api.Span{Low: -top, High: top}

// usual tells what is standard.
func usual(t *testing.T) setup.Params {
	t.Helper()
	p, _, e := setup.Check(setup.Standard())
	if e != api.OK {
		t.Fatal(e)
	}
	return p
}

// draws hands on numbers of 64 bits, the same ones each time.
func draws() func() uint64 {
	state := uint64(88172645463325252)
	return func() uint64 {
		state ^= state << 13
		state ^= state >> 7
		state ^= state << 17
		return state
	}
}

// list tells a list; it makes rows of tests shorter.
func list(l ...int64) []int64 { return l }

// checkMean holds Mean against what it should tell.
func checkMean(t *testing.T, offset, dist []int64, s api.Span, should int64) {
	t.Helper()
	if is := Mean(offset, dist, s); is != should {
		t.Errorf("Mean of %v, %v, %+v = %d, not %d", offset, dist, s, is, should)
	}
}

// checkJitter holds Jitter against what it should tell.
func checkJitter(t *testing.T, offset, dist []int64, about, should int64) {
	t.Helper()
	if is := Jitter(offset, dist, about); is != should {
		t.Errorf("Jitter of %v, %v, %d = %d, not %d", offset, dist, about, is, should)
	}
}

// checkChoose holds Choose against what it should tell.
func checkChoose(t *testing.T, l []rootd.Server, kept []int, old, should int) {
	t.Helper()
	for range 2 {
		if is := Choose(l, kept, old); is != should {
			t.Errorf("Choose of %+v, %v, %d = %d, not %d", l, kept, old, is, should)
		}
	}
}

// P18.1: a second by the distance, which is MinDisp at least.
func TestWeight(t *testing.T) {
	for _, x := range []struct{ dist, should int64 }{
		{second, second}, {second / 2, 2 * second}, {second / 16, 16 * second}, {2 * second, second / 2}, {16 * second, second / 16},
		// Rounded down.
		{3 * second, 1431655765}, {3 * second / 2, 2863311530}, {7 * second, 613566756}, {second / 3, 12884901891},
		{api.MinDisp + 2, 858993398400}, {api.MinDisp + 1, 858993438400}, {api.MinDisp, most}, {api.MinDisp - 1, most}, {1, most}, {0, most}, {-1, most}, {-second, most}, {-top, most}, {lowest, most},
		// The furthest one counts, too.
		{1 << 62, 4}, {1<<62 + 1, 3}, {6148914691236517205, 3}, {6148914691236517206, 2}, {top - 1, 2}, {top, 2},
	} {
		if is := Weight(x.dist); is != x.should {
			t.Errorf("Weight of %d = %d, not %d", x.dist, is, x.should)
		}
	}
}

// P18.1: the chapter's example, and nearer ones that count more.
func TestMean(t *testing.T) {
	for _, x := range []struct {
		offset, dist []int64
		should       int64
	}{
		{list(0, 10*second), list(second, second), 5 * second}, {list(10*second, 0), list(2*second, 2*second), 5 * second}, {list(0, 10*second), list(0, 0), 5 * second}, {list(0, 10*second), list(top, top), 5 * second},
		// A half of the distance weighs twice.
		{list(0, 9*second), list(second, second/2), 6 * second}, {list(0, 9*second), list(second/2, second), 3 * second}, {list(0, 9*second), list(2*second, second), 6 * second}, {list(9*second, 0), list(2*second, second), 3 * second},
		{list(0, -9*second), list(second, second/2), -6 * second}, {list(5*second, -4*second), list(second, second/2), -second},
		{list(5*second, 6*second, 7*second), list(second/4, second/2, second), 23929103506}, {list(14*second, 7*second, 0), list(second/4, second/2, second), 10 * second},
		// What is nearer than MinDisp counts no more than that.
		{list(0, 10*second), list(0, api.MinDisp), 5 * second}, {list(0, 10*second), list(lowest, 5), 5 * second}, {list(0, 10*second), list(-second, api.MinDisp-1), 5 * second},
		{list(3 * second), list(second), 3 * second}, {list(-3 * second), list(top), -3 * second}, {list(3, 3), list(second, second/2), 3},
	} {
		checkMean(t, x.offset, x.dist, all, x.should)
	}
}

// P18.1: what is behind the shorter list's end does not count.
func TestMeanShorter(t *testing.T) {
	checkMean(t, list(0, 10*second, 99*second), list(second, second), all, 5*second)
	checkMean(t, list(0, 10*second), list(second, second, 0, top), all, 5*second)
	checkMean(t, list(7*second, 10*second), list(second), all, 7*second)
	checkMean(t, list(7*second), list(second, second), all, 7*second)
	// What lies behind it in memory neither.
	checkMean(t, list(0, 10*second, 99*second)[:2], list(second, second, second), all, 5*second)
	checkMean(t, list(0, 10*second, 99*second), list(second, second, second)[:2], all, 5*second)
}

// P18.1: each product is rounded down by itself, and the quotient.
func TestMeanRounded(t *testing.T) {
	for _, x := range []struct {
		offset, dist []int64
		should       int64
	}{
		{list(1), list(second), 1}, {list(-1), list(second), -1}, {list(1, 2), list(second, second), 1}, {list(-1, -2), list(second, second), -2}, {list(1, 2, 2), list(second, second, second), 1},
		{list(1), list(3 * second), 0}, {list(-1), list(3 * second), -4}, {list(7), list(3 * second), 6}, {list(1), list(0), 0}, {list(-1), list(0), -2},
		{list(1<<31 - 1), list(top), 0}, {list(1 << 31), list(top), 1 << 31}, {list(-1), list(top), -1 << 31},
	} {
		checkMean(t, x.offset, x.dist, all, x.should)
	}
}

// P18.1: products and sums are cut, in order.
func TestMeanCut(t *testing.T) {
	for _, x := range []struct {
		offset, dist []int64
		should       int64
	}{
		{list(top), list(second), top}, {list(-top), list(second), -top}, {list(lowest), list(second), -top}, {list(top), list(2 * second), top - 1}, {list(top, top), list(second, second), top / 2},
		{list(top), list(0), share}, {list(-top), list(0), -share - 1}, {list(10000000 * second), list(0), 10000000 * second}, {list(11000000 * second), list(0), share},
		{list(top, top, -top), list(second, second, second), 0}, {list(top, -top, top), list(second, second, second), top / 3}, {list(-top, top, top), list(second, second, second), top / 3}, {list(-top, -top, top), list(second, second, second), 0},
	} {
		checkMean(t, x.offset, x.dist, all, x.should)
	}
}

// P18.1: what is told is held in the span; its lower end goes ahead of an upper one that is below.
func TestMeanHeld(t *testing.T) {
	for _, x := range []struct{ low, high, should int64 }{
		{4 * second, 6 * second, 5 * second}, {5 * second, 6 * second, 5 * second}, {4 * second, 5 * second, 5 * second}, {5 * second, 5 * second, 5 * second},
		{5*second + 1, 6 * second, 5*second + 1}, {7 * second, 9 * second, 7 * second}, {0, 5*second - 1, 5*second - 1}, {-9 * second, -second, -second}, {top, top, top}, {-top, -top, -top}, {lowest, lowest, -top}, {lowest, top, 5 * second},
		{6 * second, 4 * second, 6 * second}, {5 * second, 4 * second, 4 * second}, {4 * second, 3 * second, 3 * second}, {top, lowest, top},
	} {
		checkMean(t, list(0, 10*second), list(second, second), api.Span{Low: x.low, High: x.high}, x.should)
	}
}

// P18.1: 0 of none, held so.
func TestMeanNone(t *testing.T) {
	for _, x := range []struct{ low, high, should int64 }{
		{0, 0, 0}, {-1, 1, 0}, {-top, top, 0}, {3, 9, 3}, {-9, -3, -3}, {1, -1, 1}, {lowest, lowest, -top}, {top, top, top},
	} {
		s := api.Span{Low: x.low, High: x.high}
		checkMean(t, nil, nil, s, x.should)
		checkMean(t, []int64{}, []int64{}, s, x.should)
		checkMean(t, list(7*second), nil, s, x.should)
		checkMean(t, nil, list(second), s, x.should)
		checkMean(t, list(7 * second)[:0], list(second), s, x.should)
	}
}

// P18.2: the root of the mean of squares, of which those of the nearer ones count more.
func TestJitter(t *testing.T) {
	for _, x := range []struct {
		offset, dist  []int64
		about, should int64
	}{
		{list(3 * second), list(second), 0, 3 * second}, {list(3 * second), list(0), 0, 3 * second}, {list(3 * second), list(top), 5 * second, 2 * second}, {list(3 * second), list(second), 3 * second, 0}, {list(-3 * second), list(second), second, 4 * second},
		// Squares of 49 and 289, whose mean is 169; and of 25 once, of 1 twice.
		{list(7*second, 17*second), list(second, second), 0, 13 * second}, {list(-7*second, 17*second), list(3*second, 3*second), 0, 13 * second}, {list(107*second, 117*second), list(second/4, second/4), 100 * second, 13 * second},
		{list(5*second, second), list(second, second/2), 0, 3 * second}, {list(second, -5*second), list(second, 2*second), 0, 3 * second}, {list(6*second, 2*second), list(second, second/2), second, 3 * second},
		{list(5*second, second), list(second/2, second), 0, 17708603819},
		{list(7*second, 17*second), list(-second, api.MinDisp), 0, 13 * second},
	} {
		checkJitter(t, x.offset, x.dist, x.about, x.should)
	}
}

// P18.2: as many as the shorter list has; 0 of none.
func TestJitterShorter(t *testing.T) {
	checkJitter(t, list(7*second, 17*second, 99*second), list(second, second), 0, 13*second)
	checkJitter(t, list(7*second, 17*second), list(second, second, 0), 0, 13*second)
	checkJitter(t, list(7*second, 17*second), list(second), 0, 7*second)
	checkJitter(t, list(7*second, 17*second)[:1], list(second, second), 0, 7*second)
	for _, about := range []int64{lowest, -second, 0, 1, top} {
		checkJitter(t, nil, nil, about, 0)
		checkJitter(t, []int64{}, []int64{}, about, 0)
		checkJitter(t, list(7*second), nil, about, 0)
		checkJitter(t, nil, list(second), about, 0)
	}
}

// P18.2: squares are rounded down ahead of the weights, which come to nothing of what is near.
func TestJitterRounded(t *testing.T) {
	for _, x := range []struct {
		offset, dist  []int64
		about, should int64
	}{
		{list(65535), list(second), 0, 0}, {list(65536), list(second), 0, 65536}, {list(65537), list(second), 0, 65536}, {list(65543), list(second), 7, 65536}, {list(65542), list(second), 7, 0}, {list(-65536), list(second), 0, 65536},
		// A square of 1 is nothing by a third of it; one of 3 is less than one by it.
		{list(65536), list(3 * second), 0, 0}, {list(4 * 65536), list(3 * second), 0, 253819}, {list(65536, 0), list(second, second), 0, 0}, {list(131072, 0), list(second, second), 0, 92681},
	} {
		checkJitter(t, x.offset, x.dist, x.about, x.should)
	}
}

// P18.2: what lies between is cut, its square, what it weighs, and their sum.
func TestJitterCut(t *testing.T) {
	const root = 199032864766430
	for _, x := range []struct {
		offset, dist  []int64
		about, should int64
	}{
		{list(top), list(second), 0, root}, {list(lowest), list(second), top, root}, {list(top), list(second), lowest, root}, {list(0), list(second), lowest, root}, {list(lowest), list(second), lowest, 0}, {list(46341 * second), list(second), 0, root}, {list(46340 * second), list(second), 0, 46340 * second},
		{list(top, top), list(second, second), 0, 140737488355327}, {list(top, top), list(second, 2*second), 0, 162509653574040}, {list(top), list(0), 0, 14073748678246},
		{list(3000 * second), list(0), 0, 3000 * second}, {list(4000 * second), list(0), 0, 14073748678246},
	} {
		checkJitter(t, x.offset, x.dist, x.about, x.should)
	}
}

// strata tells servers of these Strata.
func strata(l ...int) []rootd.Server {
	servers := make([]rootd.Server, len(l))
	for i, stratum := range l {
		servers[i].Stratum = stratum
	}
	return servers
}

// P18.3: the old one, as long as it is kept, and its Stratum is not above the first one's; else the first one.
func TestChoose(t *testing.T) {
	l := strata(2, 3, 2, 1)
	for _, x := range []struct {
		kept        []int
		old, should int
	}{
		{[]int{0, 1, 2, 3}, 0, 0}, {[]int{0, 1, 2, 3}, 1, 0}, {[]int{0, 1, 2, 3}, 2, 2}, {[]int{0, 1, 2, 3}, 3, 3},
		{[]int{1, 0}, 0, 0}, {[]int{1, 0}, 1, 1}, {[]int{1, 0}, 2, 1}, {[]int{1, 0}, 3, 1}, {[]int{3, 0, 1}, 0, 3}, {[]int{3, 0, 1}, 1, 3}, {[]int{3, 0, 1}, 2, 3}, {[]int{3, 0, 1}, 3, 3}, {[]int{2, 0}, 0, 0}, {[]int{2}, 0, 2}, {[]int{2}, 2, 2}, {[]int{2, 2, 1}, 1, 2}, {[]int{1, 2, 2}, 2, 2},
	} {
		checkChoose(t, l, x.kept, x.old, x.should)
		// There was none, and what was is no place.
		for _, old := range []int{lowest, -2, -1, 4, 5, math.MaxInt} {
			checkChoose(t, l, x.kept, old, x.kept[0])
		}
	}
	// A Stratum may be any.
	l = strata(lowest, math.MaxInt, -1, 0)
	checkChoose(t, l, []int{0, 1, 2, 3}, 1, 0)
	checkChoose(t, l, []int{1, 0, 2, 3}, 0, 0)
	checkChoose(t, l, []int{2, 3}, 3, 2)
	checkChoose(t, l, []int{3, 2}, 2, 2)
	// Nothing but the Stratum counts.
	l = []rootd.Server{{Stratum: 2, Disp: top, Leap: 3}, {Stratum: 2, Reg: 1}}
	checkChoose(t, l, []int{1, 0}, 0, 0)
	checkChoose(t, l, []int{0, 1}, 1, 1)
}

// P18.3: -1, if none is kept, or one of them is no place, wherever it stands, and whoever is chosen else.
func TestChooseNone(t *testing.T) {
	l := strata(2, 2, 2)
	for _, old := range []int{lowest, -1, 0, 1, 2, 3, math.MaxInt} {
		checkChoose(t, l, nil, old, -1)
		checkChoose(t, l, []int{}, old, -1)
		checkChoose(t, nil, nil, old, -1)
		checkChoose(t, nil, []int{0}, old, -1)
		checkChoose(t, l, []int{0, 1}[:0], old, -1)
		for _, wrong := range []int{lowest, -2, -1, 3, 4, 1 << 32, math.MaxInt} {
			checkChoose(t, l, []int{wrong}, old, -1)
			checkChoose(t, l, []int{wrong, 0, 1}, old, -1)
			checkChoose(t, l, []int{0, wrong, 1}, old, -1)
			checkChoose(t, l, []int{0, 1, 2, wrong}, old, -1)
		}
	}
	// What lies behind a list's end is no place of it.
	checkChoose(t, l[:2], []int{0, 2}, 0, -1)
}

// two tells two servers; at ten seconds, by a Phi of a half, the first one is half a second away, the second one two.
func two() []rootd.Server {
	near := rootd.Server{Leap: 1, Stratum: 2, Ref: 90, Delay: 3 * second / 8, Disp: second / 16, Reg: 1}
	near.Told = filter.Told{Offset: 3 * second, Delay: second / 8, Disp: second / 8, Jitter: second / 16, At: 10 * second}
	away := rootd.Server{Leap: 2, Stratum: 1, Ref: 91, Delay: second / 4, Disp: second / 4, Reg: 3}
	away.Told = filter.Told{Offset: 13 * second, Delay: 3 * second / 4, Disp: second / 8, Jitter: second / 8, At: 8 * second}
	return []rootd.Server{near, away}
}

// half is what two servers are reckoned by.
func half() setup.Params { return setup.Params{Phi: second / 2} }

// checkSystem holds what Combine of two servers tells, changed as may be, against what it should.
func checkSystem(t *testing.T, l []rootd.Server, kept []int, old int, s api.Span, should System) {
	t.Helper()
	for range 2 {
		is, ok := Combine(half(), l, []uint32{70, 71}, kept, old, s, 10*second)
		if !ok || is != should {
			t.Errorf("Combine of %+v, %v, %d, %+v = %+v, %v, not %+v", l, kept, old, s, is, ok, should)
		}
	}
}

// P18.4: who is chosen tells Leap, Stratum, Ref and delays; all that are kept tell the offset and the jitter.
func TestCombine(t *testing.T) {
	l := two()
	if near, away := rootd.Distance(half(), l[0], 10*second), rootd.Distance(half(), l[1], 10*second); near != second/2 || away != 2*second {
		t.Fatal(near, away)
	}
	// Twice 3 and half of 13 by two and a half are 5; twice 4 and half of 64 are 16.
	byNear := System{Leap: 1, Stratum: 3, Ref: 70, Offset: 5 * second, Jitter: 4 * second, Delay: second / 2, Disp: 9*second + 3*second/16, Peer: 0}
	byAway := System{Leap: 2, Stratum: 2, Ref: 71, Offset: 5 * second, Jitter: 4 * second, Delay: second, Disp: 10*second + 3*second/8, Peer: 1}
	checkSystem(t, l, []int{0, 1}, -1, all, byNear)
	checkSystem(t, l, []int{0, 1}, 0, all, byNear)
	checkSystem(t, l, []int{0, 1}, 1, all, byAway)
	checkSystem(t, l, []int{0, 1}, 7, all, byNear)
	checkSystem(t, l, []int{1, 0}, 0, all, byAway)
	checkSystem(t, l, []int{1, 0}, -1, all, byAway)
	// Who is not kept tells nothing.
	byNear.Offset, byNear.Jitter, byNear.Disp = 3*second, second/16, 3*second+second/4
	checkSystem(t, l, []int{0}, 1, all, byNear)
	byAway.Offset, byAway.Jitter, byAway.Disp = 13*second, second/8, 14*second+second/2
	checkSystem(t, l, []int{1}, 0, all, byAway)
	// Who is kept twice counts twice: of 3, 3 and 13 it is 4 and a ninth.
	is, ok := Combine(half(), l, []uint32{70, 71}, []int{0, 1, 0}, -1, all, 10*second)
	if offset := int64(17657087772); !ok || is.Offset != offset || is.Peer != 0 {
		t.Errorf("%+v, %v, not %d", is, ok, offset)
	}
}

// P18.4: the offset is held in the span; jitter and dispersion are told of that one.
func TestCombineHeld(t *testing.T) {
	l := two()
	should := System{Leap: 1, Stratum: 3, Ref: 70, Offset: 3 * second, Delay: second / 2, Peer: 0}
	// Half of 100 by two and a half are 20.
	should.Jitter = 19207677669
	should.Disp = 3*second + 3*second/16 + should.Jitter
	checkSystem(t, l, []int{0, 1}, -1, api.Span{Low: -second, High: 3 * second}, should)
	// Twice 16 and half of 36 by two and a half are 20, too.
	should.Offset = 7 * second
	should.Disp = 7*second + 3*second/16 + should.Jitter
	checkSystem(t, l, []int{0, 1}, -1, api.Span{Low: 7 * second, High: 9 * second}, should)
	// Twice 81 and half of 361 by two and a half are 137; how far -6 is from 0 is 6.
	should.Offset, should.Jitter = -6*second, 50271303326
	should.Disp = 6*second + 3*second/16 + should.Jitter
	checkSystem(t, l, []int{0, 1}, -1, api.Span{Low: -8 * second, High: -6 * second}, should)
}

// P18.4: the jitter is that of those that are kept, or of who is chosen, if that is greater.
func TestCombineJitter(t *testing.T) {
	for _, x := range []struct{ near, away, should int64 }{
		{3 * second, 0, 0}, {5 * second, 0, 5 * second}, {0, 50 * second, 0}, {-9 * second, 0, 0}, {lowest, 0, 0}, {top, 0, top},
	} {
		l := two()
		l[0].Told.Jitter, l[1].Told.Jitter = x.near, x.away
		var offsets, dists []int64
		for _, s := range l {
			offsets, dists = append(offsets, s.Told.Offset), append(dists, rootd.Distance(half(), s, 10*second))
		}
		offset := Mean(offsets, dists, all)
		should := max(x.should, Jitter(offsets, dists, offset))
		is, ok := Combine(half(), l, []uint32{70, 71}, []int{0, 1}, -1, all, 10*second)
		if !ok || is.Offset != offset || is.Jitter != should || x.should > 0 && is.Jitter != x.should {
			t.Errorf("%+v: %+v, %v, not %d", x, is, ok, should)
		}
	}
}

// alone tells what Combine tells of a server alone.
func alone(t *testing.T, p setup.Params, x rootd.Server, s api.Span, at int64) System {
	t.Helper()
	is, ok := Combine(p, []rootd.Server{x}, []uint32{9}, []int{0}, -1, s, at)
	if !ok || is.Peer != 0 || is.Ref != 9 {
		t.Fatalf("%+v: %+v, %v", x, is, ok)
	}
	return is
}

// P18.4: Leap and Ref are as they are; the Stratum is one more, 1000 at most.
func TestCombineStratum(t *testing.T) {
	for _, x := range []struct{ stratum, should int }{
		{lowest, lowest + 1}, {-2, -1}, {-1, 0}, {0, 1}, {1, 2}, {2, 3}, {15, 16}, {16, 17}, {255, 256}, {998, 999}, {999, 1000}, {1000, 1000}, {1001, 1000}, {1 << 32, 1000}, {math.MaxInt - 1, 1000}, {math.MaxInt, 1000},
	} {
		for _, leap := range []int{lowest, -1, 0, 1, 2, 3, 4, math.MaxInt} {
			is := alone(t, setup.Params{}, rootd.Server{Leap: leap, Stratum: x.stratum, Ref: 5}, all, 0)
			if is.Stratum != x.should || is.Leap != leap {
				t.Errorf("of %d, %d: %+v", x.stratum, leap, is)
			}
		}
	}
	ids := []uint32{0, math.MaxUint32, 7, 0x7f000001}
	for place, id := range ids {
		is, ok := Combine(setup.Params{}, strata(1, 2, 3, 4), ids, []int{place}, -1, all, 0)
		if !ok || is.Ref != id || is.Peer != place || is.Stratum != place+2 {
			t.Errorf("place %d: %+v, %v", place, is, ok)
		}
	}
}

// P18.4: the delay is that to the server and that behind it, cut.
func TestCombineDelay(t *testing.T) {
	for _, x := range []struct{ delay, told, should int64 }{
		{0, 0, 0}, {1, 2, 3}, {-1, -2, -3}, {5 * second, -second, 4 * second}, {top, 1, top}, {top, -1, top - 1}, {top, top, top}, {lowest, 0, -top}, {lowest, -1, -top}, {lowest, top, -1}, {0, lowest, -top},
	} {
		s := rootd.Server{Delay: x.delay, Told: filter.Told{Delay: x.told}}
		if is := alone(t, setup.Params{}, s, all, 0); is.Delay != x.should {
			t.Errorf("of %+v: %d", x, is.Delay)
		}
	}
}

// P18.4: the dispersion is a sum of five, added in order, each time cut.
func TestCombineDisp(t *testing.T) {
	for _, x := range []struct{ disp, told, grown, jitter, offset, should int64 }{
		{0, 0, 0, 0, 0, 0}, {1, 0, 0, 0, 0, 1}, {0, 1, 0, 0, 0, 1}, {0, 0, 1, 0, 0, 1}, {0, 0, 0, 1, 0, 1}, {0, 0, 0, 0, 1, 1}, {0, 0, 0, 0, -1, 1}, {1, 2, 4, 8, 16, 31}, {1, 2, 4, 8, -16, 31}, {-1, -2, 4, 8, 16, 25}, {1, 2, 4, -8, 16, 23},
		{top, 0, 0, 0, 0, top}, {top, 1, 0, 0, 0, top}, {top, 1, -1, 0, 0, top - 1}, {top, -top, top, 0, 0, top}, {-top, -top, top, 0, 0, 0}, {-top, top, 0, 5, 0, 5}, {0, -top, -top, 7, 0, 7 - top}, {-top, 0, -top, 0, 9, 9 - top}, {0, 0, -top, top, 1, 1}, {0, 0, top, top, -top, top}, {-top, 0, 0, 0, lowest, 0}, {-9, 0, 0, 0, lowest, top - 9},
		// The least number is one further away than what it is cut to.
		{lowest, 1, 0, 0, 0, -top}, {lowest, 0, 0, 0, 0, -top}, {lowest, top, 0, 0, 0, -1}, {0, lowest, 0, 0, 0, -top}, {1, lowest, 0, 0, 0, -top}, {top, lowest, 0, 0, 0, -1}, {lowest, lowest, top, 0, 0, 0},
	} {
		s := rootd.Server{Disp: x.disp, Told: filter.Told{Offset: x.offset, Disp: x.told, Jitter: x.jitter}}
		// Where nothing else is there, a second's growth is Phi; a span of one number makes the offset that.
		is := alone(t, setup.Params{Phi: x.grown}, s, api.Span{Low: x.offset, High: x.offset}, second)
		if is.Disp != x.should {
			t.Errorf("of %+v: %+v", x, is)
		}
	}
}

// P18.4: the dispersion grows by Phi, from when the sample came on that tells.
func TestCombineAge(t *testing.T) {
	for _, x := range []struct{ phi, then, at, should int64 }{
		{second, 0, 0, 0}, {second, 0, 7, 7}, {second, 5 * second, 7 * second, 2 * second}, {second, 5 * second, 5 * second, 0}, {second, 5 * second, 5*second - 1, 0}, {second, 5 * second, 0, 0}, {second, 0, lowest, 0}, {second, top, lowest, 0}, {second, -second, second, 2 * second},
		{second / 2, 0, 7, 3}, {1, 0, second - 1, 0}, {1, 0, second, 1}, {0, 0, top, 0}, {-1, 0, 1, -1}, {-second, 0, 7, -7}, {-second, 9, 7, 0}, {second, lowest, top, top}, {second / 2, lowest, top, top / 2}, {top, 0, top, top},
	} {
		is := alone(t, setup.Params{Phi: x.phi}, rootd.Server{Told: filter.Told{At: x.then}}, all, x.at)
		if is != (System{Stratum: 1, Ref: 9, Disp: x.should}) {
			t.Errorf("of %+v: %+v", x, is)
		}
	}
}

// P18.4: nothing else of what was set counts.
func TestCombineParams(t *testing.T) {
	full := setup.Params{Step: 1, Watch: 2, Panic: 3, MaxRate: 4, Phi: second / 2, MaxDist: 5, Gate: 6, MinPoll: 7, MaxPoll: 8, Burst: 9, MinSane: 10, MinLeft: 11}
	bare, _ := Combine(half(), two(), []uint32{70, 71}, []int{0, 1}, -1, all, 10*second)
	if is, ok := Combine(full, two(), []uint32{70, 71}, []int{0, 1}, -1, all, 10*second); !ok || is != bare {
		t.Errorf("%+v, %v, not %+v", is, ok, bare)
	}
}

// P18.4: false and nothing, where Choose is -1, and where there are more ids or fewer than servers.
func TestCombineNothing(t *testing.T) {
	l := two()
	for _, x := range []struct {
		l    []rootd.Server
		ids  []uint32
		kept []int
	}{
		{l, []uint32{70, 71}, nil}, {l, []uint32{70, 71}, []int{}}, {l, []uint32{70, 71}, []int{2}}, {l, []uint32{70, 71}, []int{-1}}, {l, []uint32{70, 71}, []int{0, 1, 2}}, {l, []uint32{70, 71}, []int{0, lowest}}, {l, []uint32{70, 71}, []int{math.MaxInt, 0}},
		{l, []uint32{70}, []int{0}}, {l, []uint32{70, 71, 72}, []int{0}}, {l, nil, []int{0}}, {l, []uint32{70, 71}[:1], []int{0}}, {l[:1], []uint32{70, 71}, []int{0}}, {l[:1], []uint32{70}, []int{1}},
		{nil, nil, nil}, {nil, nil, []int{0}}, {nil, []uint32{70}, []int{0}}, {nil, []uint32{70}, nil}, {l, nil, nil},
	} {
		for _, old := range []int{lowest, -1, 0, 1, 2, math.MaxInt} {
			if is, ok := Combine(half(), x.l, x.ids, x.kept, old, all, 10*second); ok || is != (System{}) {
				t.Errorf("Combine of %+v, %v, %v, %d = %+v, %v", x.l, x.ids, x.kept, old, is, ok)
			}
		}
	}
}

// model is what the chapter's words say of numbers of any size.
type model struct{}

// num tells a number of any size.
func (model) num(a int64) *big.Int { return big.NewInt(a) }

// cut tells a number from -Max to Max.
func (m model) cut(a *big.Int) int64 {
	if a.CmpAbs(m.num(top)) > 0 {
		return int64(a.Sign()) * top
	}
	return a.Int64()
}

// add tells a and b.
func (m model) add(a, b int64) int64 { return m.cut(new(big.Int).Add(m.num(a), m.num(b))) }

// sub tells a less b.
func (m model) sub(a, b int64) int64 { return m.cut(new(big.Int).Sub(m.num(a), m.num(b))) }

// mul tells a times b, one of which is a factor; Rsh rounds down.
func (m model) mul(a, b int64) int64 {
	product := new(big.Int).Mul(m.num(a), m.num(b))
	return m.cut(product.Rsh(product, 32))
}

// div tells a by b, which is above 0: of these Div rounds down.
func (m model) div(a, b int64) int64 {
	quotient := new(big.Int).Lsh(m.num(a), 32)
	return m.cut(quotient.Div(quotient, m.num(b)))
}

// root tells the root of a, which is not below 0.
func (m model) root(a int64) int64 {
	square := new(big.Int).Lsh(m.num(a), 32)
	return m.cut(square.Sqrt(square))
}

// weight tells Weight's answer.
func (m model) weight(dist int64) int64 {
	if dist < second/200 {
		dist = second / 200
	}
	if w := m.div(second, dist); w >= 1 {
		return w
	}
	return 1
}

// mean tells Mean's answer.
func (m model) mean(offset, dist []int64, s api.Span) int64 {
	sum, weights, told := int64(0), int64(0), int64(0)
	for i := 0; i < len(offset) && i < len(dist); i++ {
		sum = m.add(sum, m.mul(offset[i], m.weight(dist[i])))
		weights = m.add(weights, m.weight(dist[i]))
		told = m.div(sum, weights)
	}
	switch {
	case told < s.Low:
		told = s.Low
	case told > s.High:
		told = s.High
	}
	return m.cut(m.num(told))
}

// jitter tells Jitter's answer.
func (m model) jitter(offset, dist []int64, about int64) int64 {
	sum, weights, told := int64(0), int64(0), int64(0)
	for i := 0; i < len(offset) && i < len(dist); i++ {
		gap := m.sub(offset[i], about)
		sum = m.add(sum, m.mul(m.weight(dist[i]), m.mul(gap, gap)))
		weights = m.add(weights, m.weight(dist[i]))
		told = m.root(m.div(sum, weights))
	}
	return told
}

// choose tells Choose's answer.
func (m model) choose(l []rootd.Server, kept []int, old int) int {
	is := false
	for _, place := range kept {
		if place < 0 || place >= len(l) {
			return -1
		}
		is = is || place == old
	}
	switch {
	case len(kept) == 0:
		return -1
	case is && !(l[old].Stratum > l[kept[0]].Stratum):
		return old
	}
	return kept[0]
}

// combine tells Combine's answer.
func (m model) combine(p setup.Params, l []rootd.Server, ids []uint32, kept []int, old int, s api.Span, at int64) (System, bool) {
	peer := m.choose(l, kept, old)
	if peer == -1 || len(ids) != len(l) {
		return System{}, false
	}
	var offset, dist []int64
	for _, place := range kept {
		offset, dist = append(offset, l[place].Told.Offset), append(dist, rootd.Distance(p, l[place], at))
	}
	x := l[peer]
	told := System{Leap: x.Leap, Ref: ids[peer], Peer: peer, Delay: m.add(x.Delay, x.Told.Delay)}
	if told.Stratum = 1000; x.Stratum < 1000 {
		told.Stratum = x.Stratum + 1
	}
	told.Offset = m.mean(offset, dist, s)
	if told.Jitter = m.jitter(offset, dist, told.Offset); told.Jitter < x.Told.Jitter {
		told.Jitter = x.Told.Jitter
	}
	age := m.sub(at, x.Told.At)
	if age < 0 {
		age = 0
	}
	told.Disp = m.add(x.Disp, x.Told.Disp)
	told.Disp = m.add(told.Disp, m.mul(p.Phi, age))
	told.Disp = m.add(told.Disp, told.Jitter)
	told.Disp = m.add(told.Disp, m.cut(new(big.Int).Abs(m.num(told.Offset))))
	return told, true
}

// drawing hands on numbers: any, of which most are at an edge, or such as servers tell; and small ones.
func drawing(draw func() uint64, wild bool) (number func() int64, small func(n int) int) {
	edges := []int64{lowest, -top, -(1 << 62), -api.MaxDisp, -second, -65536, -1, 0, 1, 65536, api.MinDisp, second, 3 * second, api.MaxDisp, 46341 * second, 1 << 62, top}
	small = func(n int) int { return int(draw() >> 20 % uint64(n)) }
	number = func() int64 {
		switch {
		case !wild:
			return int64(draw()>>20%(6*second)) - second
		case small(3) == 0:
			return int64(draw()) >> small(64)
		}
		return edges[small(len(edges))] + int64(small(5)) - 2
	}
	return number, small
}

// numbers tells so many of them.
func numbers(number func() int64, many int) []int64 {
	l := make([]int64, many)
	for i := range l {
		l[i] = number()
	}
	return l
}

// drawn tells any server.
func drawn(number func() int64, small func(n int) int) rootd.Server {
	s := rootd.Server{Leap: small(4), Stratum: small(4), Ref: uint32(small(9)), Delay: number(), Disp: number(), Reg: uint8(small(256))}
	if small(9) == 0 {
		s.Stratum, s.Leap = small(9)+995, int(number())
	}
	s.Told = filter.Told{Offset: number(), Delay: number(), Disp: number(), Jitter: number(), At: number()}
	return s
}

// P18.1 and P18.2: both hold to the chapter's own words, whatever they are given.
func TestModelSums(t *testing.T) {
	draw, m := draws(), model{}
	for _, wild := range []bool{false, true} {
		number, small := drawing(draw, wild)
		held, zero := 0, 0
		for range 20000 {
			offset, dist := numbers(number, small(9)), numbers(number, small(9))
			s, about := api.Span{Low: number(), High: number()}, number()
			checkMean(t, offset, dist, s, m.mean(offset, dist, s))
			checkMean(t, offset, dist, all, m.mean(offset, dist, all))
			checkJitter(t, offset, dist, about, m.jitter(offset, dist, about))
			for _, d := range dist {
				if is, should := Weight(d), m.weight(d); is != should {
					t.Errorf("Weight of %d = %d, not %d", d, is, should)
				}
			}
			if t.Failed() {
				return
			}
			if Mean(offset, dist, s) != Mean(offset, dist, all) {
				held++
			}
			if Jitter(offset, dist, about) == 0 {
				zero++
			}
		}
		if held < 5000 || held > 19000 || zero > 10000 {
			t.Errorf("wild %v: %d are held, %d are 0", wild, held, zero)
		}
	}
}

// P18.3 and P18.4: both hold to the chapter's own words, whatever they are given.
func TestModelCombine(t *testing.T) {
	draw, m := draws(), model{}
	for _, wild := range []bool{false, true} {
		number, small := drawing(draw, wild)
		nothing, olds := 0, 0
		for range 30000 {
			l := make([]rootd.Server, small(6))
			for i := range l {
				l[i] = drawn(number, small)
			}
			// Seldom there is one more or one fewer, and seldom a place that is none.
			ids := make([]uint32, max(0, len(l)+small(13)/12-small(13)/12))
			for i := range ids {
				ids[i] = uint32(draw())
			}
			kept := make([]int, small(6))
			for i := range kept {
				kept[i] = small(max(1, len(l)+small(25)/24))
			}
			p, at, old := setup.Params{Phi: number()}, number(), small(8)-1
			s := api.Span{Low: number(), High: number()}
			checkChoose(t, l, kept, old, m.choose(l, kept, old))
			is, ok := Combine(p, l, ids, kept, old, s, at)
			if should, may := m.combine(p, l, ids, kept, old, s, at); is != should || ok != may {
				t.Fatalf("Combine of %+v, %+v, %v, %v, %d, %+v, %d = %+v, %v, not %+v, %v", p, l, ids, kept, old, s, at, is, ok, should, may)
			}
			switch {
			case !ok:
				nothing++
			case is.Peer == old && is.Peer != kept[0]:
				olds++
			}
		}
		if nothing < 5000 || nothing > 20000 || olds < 1000 {
			t.Errorf("wild %v: %d tell nothing, %d the old one", wild, nothing, olds)
		}
	}
}

// P18.5: what is told together lies in the span, whatever the offsets are.
func TestLiesInSpan(t *testing.T) {
	draw := draws()
	for _, wild := range []bool{false, true} {
		number, small := drawing(draw, wild)
		for range 20000 {
			low, high := max(number(), -top), max(number(), -top)
			s := api.Span{Low: min(low, high), High: max(low, high)}
			l := make([]rootd.Server, 1+small(5))
			kept := make([]int, 1+small(len(l)))
			for i := range l {
				l[i] = drawn(number, small)
			}
			for i := range kept {
				kept[i] = small(len(l))
			}
			is, ok := Combine(setup.Params{Phi: number()}, l, make([]uint32, len(l)), kept, -1, s, number())
			if !ok || is.Offset < s.Low || is.Offset > s.High {
				t.Fatalf("%+v, %v, %+v: %+v, %v", l, kept, s, is, ok)
			}
		}
	}
}

// P18.5: of offsets that are all the same it is that one: of whole seconds at any distance, of any where no product is rounded.
func TestSameOffset(t *testing.T) {
	draw := draws()
	number, small := drawing(draw, true)
	for range 20000 {
		whole, any := int64(small(2000001)-1000000)*second, int64(draw())>>12
		many := 1 + small(api.MaxPeer)
		dist, halves := numbers(number, many), make([]int64, many)
		for i := range halves {
			halves[i] = second >> small(8)
		}
		for _, s := range []api.Span{all, {Low: whole, High: whole}, {Low: whole - 1, High: whole + 1}} {
			checkMean(t, slices.Repeat(list(whole), many), dist, s, whole)
		}
		for _, s := range []api.Span{all, {Low: any, High: any}, {Low: any, High: top}} {
			checkMean(t, slices.Repeat(list(any), many), halves, s, any)
		}
		checkJitter(t, slices.Repeat(list(any), many), dist, any, 0)
		if t.Failed() {
			return
		}
	}
}

// P18.5: where products are rounded down, so is what is told: by less than 2^-32 for each one, of all that they weigh, and never up.
func TestSameOffsetRounded(t *testing.T) {
	draw := draws()
	number, small := drawing(draw, false)
	below := 0
	for range 20000 {
		offset := int64(draw()>>20%(2000*second)) - 1000*second
		dist := numbers(number, 1+small(api.MaxPeer))
		weights := int64(0)
		for _, d := range dist {
			weights += Weight(d)
		}
		is := Mean(slices.Repeat(list(offset), len(dist)), dist, all)
		if lost := int64(len(dist))*second/weights + 1; is > offset || is < offset-lost {
			t.Fatalf("%d of %v: %d", offset, dist, is)
		}
		if is < offset {
			below++
		}
		// A span of that one offset makes it that.
		checkMean(t, slices.Repeat(list(offset), len(dist)), dist, api.Span{Low: offset, High: offset}, offset)
	}
	if below == 0 {
		t.Error("none is rounded")
	}
}

// spans tells what servers say of the true offset.
func spans(p setup.Params, l []rootd.Server) []meet.Cand {
	cands := make([]meet.Cand, len(l))
	for i, x := range l {
		s := rootd.Span(p, x, 0)
		cands[i] = meet.Cand{Low: s.Low, Mid: x.Told.Offset, High: s.High}
	}
	return cands
}

// pruned tells which of those that may be right are kept, the nearest one first.
func pruned(p setup.Params, l []rootd.Server, right []int) []int {
	var nodes []cluster.Node
	var places, kept []int
	for _, place := range rootd.Sort(p, l, 0) {
		if slices.Contains(right, place) {
			places = append(places, place)
			nodes = append(nodes, cluster.Node{Offset: l[place].Told.Offset, Metric: rootd.Metric(p, l[place], 0)})
		}
	}
	left, _ := cluster.Prune(nodes, p.MinLeft)
	for _, n := range left {
		kept = append(kept, places[n])
	}
	return kept
}

// P18.5: if more than half of all servers hold the true offset, it lies in the span of most, and so does what is told together.
func TestMostAreRight(t *testing.T) {
	draw, p := draws(), usual(t)
	number, small := drawing(draw, false)
	wrong := 0
	for range 3000 {
		right := number()
		l := make([]rootd.Server, 3+small(api.MaxPeer-2))
		for i := range l {
			l[i] = rootd.Server{Stratum: 1 + small(3), Disp: int64(small(second)), Reg: 1}
			off := int64(small(int(rootd.Distance(p, l[i], 0)))) * int64(small(3)-1)
			if 2*(i+1) < len(l) {
				off = number()
			}
			l[i].Told.Offset = right + off
		}
		s, is := meet.Major(spans(p, l))
		_, places, _ := meet.Select(spans(p, l))
		if !is || s.Low > right || s.High < right {
			t.Fatalf("%+v, %d: %+v, %v", l, right, s, is)
		}
		kept := pruned(p, l, places)
		told, ok := Combine(p, l, make([]uint32, len(l)), kept, -1, s, 0)
		if !ok || told.Offset < s.Low || told.Offset > s.High || told.Peer != kept[0] {
			t.Fatalf("%+v, %v, %+v: %+v, %v", l, kept, s, told, ok)
		}
		if len(places) < len(l) {
			wrong++
		}
	}
	if wrong < 1000 {
		t.Errorf("%d had one that was wrong", wrong)
	}
}

// The whole's first example: of 1, 2 and 11 seconds, give or take one, the first two meet, and tell their mean.
func TestExample(t *testing.T) {
	l := make([]rootd.Server, 3)
	for i, offset := range list(second, 2*second, 11*second) {
		l[i] = rootd.Server{Stratum: 1, Delay: 2 * second, Told: filter.Told{Offset: offset}}
	}
	s, kept, _ := meet.Select(spans(setup.Params{}, l))
	is, ok := Combine(setup.Params{}, l, []uint32{7, 8, 9}, kept, 2, s, 0)
	should := System{Stratum: 2, Ref: 7, Offset: 3 * second / 2, Jitter: second / 2, Delay: 2 * second, Disp: 2 * second}
	if !ok || is != should {
		t.Errorf("%+v, %v: %+v, %v", s, kept, is, ok)
	}
}

// R1: of some hundreds it ends, too.
func TestHundreds(t *testing.T) {
	const many = 700
	l, ids, kept := make([]rootd.Server, many), make([]uint32, many), make([]int, many)
	for i := range l {
		// Half of two seconds is one: all are as far.
		l[i] = rootd.Server{Stratum: 3, Delay: 2 * second, Told: filter.Told{Offset: int64(i) * second}}
		ids[i], kept[i] = uint32(i), many-1-i
	}
	l[5].Stratum = 2
	for _, old := range []int{-1, 5, many - 1} {
		is, ok := Combine(setup.Params{}, l, ids, kept, old, all, 0)
		peer := old
		if old < 0 {
			peer = kept[0]
		}
		if !ok || is.Peer != peer || is.Ref != uint32(peer) || is.Offset != (many-1)*second/2 || is.Delay != 2*second {
			t.Errorf("old %d: %+v, %v", old, is, ok)
		}
	}
}

// R3: nothing of what is handed in is changed, nor what lies behind a list's end.
func TestMemory(t *testing.T) {
	l := append(two(), rootd.Server{Stratum: 7})
	ids, kept := []uint32{70, 71, 72}, []int{0, 1, 9}
	offset, dist := list(7*second, 17*second, 5), list(second, second, 6)
	first, _ := Combine(half(), l[:2], ids[:2], kept[:2], 1, all, 10*second)
	for range 3 {
		checkMean(t, offset[:2], dist[:2], all, 12*second)
		checkJitter(t, offset[:2], dist[:2], 0, 13*second)
		checkChoose(t, l[:2], kept[:2], 1, 1)
		if is, ok := Combine(half(), l[:2], ids[:2], kept[:2], 1, all, 10*second); !ok || is != first {
			t.Errorf("%+v, %v, not %+v", is, ok, first)
		}
		if !slices.Equal(l, append(two(), rootd.Server{Stratum: 7})) || !slices.Equal(ids, []uint32{70, 71, 72}) || !slices.Equal(kept, []int{0, 1, 9}) || !slices.Equal(offset, list(7*second, 17*second, 5)) || !slices.Equal(dist, list(second, second, 6)) {
			t.Fatalf("%+v, %v, %v, %v, %v", l, ids, kept, offset, dist)
		}
	}
}
