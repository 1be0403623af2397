package pace

import (
	"math"
	"math/big"
	"slices"
	"testing"

	"analemma/api"
	"analemma/fix"
	"analemma/setup"
)

const (
	second = api.Second
	top    = api.Max
	lowest = math.MinInt64
	least  = math.MinInt
	most   = math.MaxInt
)

// between tells Params of those polls, by which an offset is quiet if it is nearer to 0 than jitter.
func between(low, high int) setup.Params {
	return setup.Params{Gate: second, MinPoll: low, MaxPoll: high}
}

// usual tells what is standard: polls from 6 to 10, and a Gate of 4.
func usual(t *testing.T) setup.Params {
	t.Helper()
	p, _, e := setup.Check(setup.Standard())
	if e != api.OK {
		t.Fatal(e)
	}
	return p
}

// filled tells p with something in each field that this layer asks nothing of.
func filled(p setup.Params) setup.Params {
	p.Step, p.Watch, p.Panic, p.MaxRate, p.Phi, p.MaxDist = 1, second, 3, -4, 5, top
	p.Burst, p.MinSane, p.MinLeft = 6, -7, 8
	return p
}

// draws hands on numbers of 64 bits, the same ones each time.
func draws() func() uint64 {
	state := uint64(88172645463325252)
	return func() uint64 {
		state ^= state << 13
		state ^= state >> 7
		state ^= state << 17
		return state
	}
}

// offsetOf tells an offset that is quiet beside a jitter of 1, or not, where Gate is a second.
func offsetOf(quiet bool) int64 {
	if quiet {
		return 0
	}
	return 1
}

// checkNext holds what Next and Run tell of one time, that was quiet or not, against what they should; p's Gate is a second.
func checkNext(t *testing.T, p setup.Params, x Pace, quiet bool, should Pace) {
	t.Helper()
	for _, p := range []setup.Params{p, p, filled(p)} {
		if is := Next(p, x, offsetOf(quiet), 1); is != should {
			t.Errorf("Next of %d to %d, %+v, quiet %v = %+v, not %+v", p.MinPoll, p.MaxPoll, x, quiet, is, should)
		}
		if is := Run(p, x, []bool{quiet}); is != should {
			t.Errorf("Run of %d to %d, %+v, quiet %v = %+v, not %+v", p.MinPoll, p.MaxPoll, x, quiet, is, should)
		}
	}
}

// The chapter's example.
func TestExample(t *testing.T) {
	p := usual(t)
	if is := Next(p, Pace{6, 28}, 0, 1); is != (Pace{7, 0}) {
		t.Error(is)
	}
	checkNext(t, between(6, 10), Pace{6, 28}, true, Pace{7, 0})
}

// P20.1: MinPoll as it is, and 0.
func TestStart(t *testing.T) {
	for _, low := range []int{least, -1000, -1, 0, 1, 4, 6, 17, 18, 1001, most} {
		for _, high := range []int{least, -1, 0, 4, 6, 10, 17, most} {
			for _, p := range []setup.Params{between(low, high), filled(between(low, high))} {
				if is := Start(p); is != (Pace{low, 0}) {
					t.Errorf("Start of %d to %d = %+v", low, high, is)
				}
			}
		}
	}
	if is := Start(usual(t)); is != (Pace{6, 0}) {
		t.Error(is)
	}
}

// P20.1: an offset is quiet, either way, as long as it is below as many jitters as Gate.
func TestQuiet(t *testing.T) {
	for _, x := range []struct {
		gate, jitter, first int64
	}{
		{4 * second, second, 4 * second}, {4 * second, second / 8, second / 2}, {4 * second, 1, 4}, {4 * second, 7, 28}, {second, 1, 1}, {second, 1000, 1000}, {100 * second, second, 100 * second}, {2 * second, top / 4, top / 4 * 2},
		// One jitter and a half, rounded down.
		{3 * second / 2, 1, 1}, {3 * second / 2, 2, 3}, {3 * second / 2, 3, 4}, {second + 1, second - 1, second - 1}, {second + 1, second, second + 1}, {second - 1, 1, 0}, {second - 1, 2, 1},
		// What is no jitter, or below 0, makes nothing quiet.
		{4 * second, 0, 0}, {0, second, 0}, {0, 0, 0}, {4 * second, -second, 0}, {4 * second, -1, 0}, {-4 * second, second, 0}, {-1, 1, 0}, {second, lowest, 0}, {lowest, second, 0},
		// But two that are below 0 do.
		{-4 * second, -second, 4 * second}, {-second, -5, 5},
	} {
		p := setup.Params{Gate: x.gate}
		for _, offset := range []int64{0, 1, x.first / 2, x.first - 2, x.first - 1, x.first, x.first + 1, 2*x.first + 1, top - 1, top, lowest} {
			should := offset >= 0 && offset < x.first
			// The other side of 0 tells the same; the least int64 has none.
			for _, o := range []int64{offset, -offset} {
				if offset < 0 && offset != lowest {
					continue
				}
				for _, p := range []setup.Params{p, p, filled(p)} {
					if is := Quiet(p, o, x.jitter); is != should {
						t.Errorf("Quiet by %d of %d, %d = %v", x.gate, o, x.jitter, is)
					}
				}
			}
		}
	}
}

// P20.1: many great jitters are cut, and nothing is above where they are then.
func TestQuietCut(t *testing.T) {
	for _, x := range []struct{ gate, jitter int64 }{{4 * second, top}, {second, top}, {100 * second, top / 3}, {top, top}, {lowest, lowest}, {-second, lowest}, {lowest, -second}} {
		p := setup.Params{Gate: x.gate}
		for _, offset := range []int64{0, 1, -1, second, top - 1, 1 - top} {
			if !Quiet(p, offset, x.jitter) {
				t.Errorf("Quiet by %d of %d, %d", x.gate, offset, x.jitter)
			}
		}
		for _, offset := range []int64{top, -top, lowest} {
			if Quiet(p, offset, x.jitter) {
				t.Errorf("Quiet by %d of %d, %d", x.gate, offset, x.jitter)
			}
		}
	}
}

// P20.2: by what is quiet Count is Poll more; above 30 Poll is one more.
func TestNextQuiet(t *testing.T) {
	p := between(4, 17)
	for _, x := range []struct{ x, should Pace }{
		{Pace{6, 0}, Pace{6, 6}}, {Pace{6, 6}, Pace{6, 12}}, {Pace{6, 23}, Pace{6, 29}}, {Pace{6, 24}, Pace{6, 30}}, {Pace{6, 25}, Pace{7, 0}}, {Pace{6, 26}, Pace{7, 0}}, {Pace{6, 30}, Pace{7, 0}},
		{Pace{6, -30}, Pace{6, -24}}, {Pace{6, -6}, Pace{6, 0}}, {Pace{6, -1}, Pace{6, 5}},
		{Pace{4, 26}, Pace{4, 30}}, {Pace{4, 27}, Pace{5, 0}}, {Pace{10, 20}, Pace{10, 30}}, {Pace{10, 21}, Pace{11, 0}}, {Pace{16, 14}, Pace{16, 30}}, {Pace{16, 15}, Pace{17, 0}},
		// At MaxPoll it stays, and is counted anew.
		{Pace{17, 13}, Pace{17, 30}}, {Pace{17, 14}, Pace{17, 0}}, {Pace{17, 30}, Pace{17, 0}}, {Pace{17, 0}, Pace{17, 17}},
	} {
		checkNext(t, p, x.x, true, x.should)
	}
}

// P20.2: by what is not, Count is twice Poll less; below -30 Poll is one less.
func TestNextLoud(t *testing.T) {
	p := between(4, 17)
	for _, x := range []struct{ x, should Pace }{
		{Pace{6, 0}, Pace{6, -12}}, {Pace{6, -12}, Pace{6, -24}}, {Pace{6, -17}, Pace{6, -29}}, {Pace{6, -18}, Pace{6, -30}}, {Pace{6, -19}, Pace{5, 0}}, {Pace{6, -20}, Pace{5, 0}}, {Pace{6, -30}, Pace{5, 0}},
		{Pace{6, 30}, Pace{6, 18}}, {Pace{6, 12}, Pace{6, 0}}, {Pace{6, 1}, Pace{6, -11}},
		{Pace{5, -20}, Pace{5, -30}}, {Pace{5, -21}, Pace{4, 0}}, {Pace{10, -10}, Pace{10, -30}}, {Pace{10, -11}, Pace{9, 0}}, {Pace{15, 0}, Pace{15, -30}}, {Pace{15, -1}, Pace{14, 0}}, {Pace{16, 1}, Pace{15, 0}}, {Pace{16, 2}, Pace{16, -30}}, {Pace{17, 4}, Pace{17, -30}}, {Pace{17, 3}, Pace{16, 0}},
		// At MinPoll it stays, and is counted anew.
		{Pace{4, -22}, Pace{4, -30}}, {Pace{4, -23}, Pace{4, 0}}, {Pace{4, -30}, Pace{4, 0}}, {Pace{4, 0}, Pace{4, -8}},
	} {
		checkNext(t, p, x.x, false, x.should)
	}
}

// P20.2: ahead of all, x is held, Poll within p and Count from -30 to 30.
func TestNextHeld(t *testing.T) {
	p := between(6, 10)
	for _, x := range []struct {
		x           Pace
		quiet, loud Pace
	}{
		{Pace{5, 0}, Pace{6, 6}, Pace{6, -12}}, {Pace{-1, 0}, Pace{6, 6}, Pace{6, -12}}, {Pace{least, 0}, Pace{6, 6}, Pace{6, -12}}, {Pace{11, 0}, Pace{10, 10}, Pace{10, -20}}, {Pace{1001, 0}, Pace{10, 10}, Pace{10, -20}}, {Pace{most, 0}, Pace{10, 10}, Pace{10, -20}},
		{Pace{3, 25}, Pace{7, 0}, Pace{6, 13}}, {Pace{3, -19}, Pace{6, -13}, Pace{6, 0}}, {Pace{18, 21}, Pace{10, 0}, Pace{10, 1}}, {Pace{18, -11}, Pace{10, -1}, Pace{9, 0}},
		{Pace{8, 31}, Pace{9, 0}, Pace{8, 14}}, {Pace{8, 38}, Pace{9, 0}, Pace{8, 14}}, {Pace{8, 1 << 40}, Pace{9, 0}, Pace{8, 14}}, {Pace{8, most}, Pace{9, 0}, Pace{8, 14}}, {Pace{8, most - 7}, Pace{9, 0}, Pace{8, 14}},
		{Pace{8, -31}, Pace{8, -22}, Pace{7, 0}}, {Pace{8, -38}, Pace{8, -22}, Pace{7, 0}}, {Pace{8, -1 << 40}, Pace{8, -22}, Pace{7, 0}}, {Pace{8, least}, Pace{8, -22}, Pace{7, 0}}, {Pace{8, least + 15}, Pace{8, -22}, Pace{7, 0}},
		{Pace{least, most}, Pace{7, 0}, Pace{6, 18}}, {Pace{least, least}, Pace{6, -24}, Pace{6, 0}}, {Pace{most, most}, Pace{10, 0}, Pace{10, 10}}, {Pace{most, least}, Pace{10, -20}, Pace{9, 0}},
	} {
		checkNext(t, p, x.x, true, x.quiet)
		checkNext(t, p, x.x, false, x.loud)
	}
	// One exponent alone.
	checkNext(t, between(8, 8), Pace{8, 22}, true, Pace{8, 30})
	checkNext(t, between(8, 8), Pace{8, 23}, true, Pace{8, 0})
	checkNext(t, between(8, 8), Pace{8, -14}, false, Pace{8, -30})
	checkNext(t, between(8, 8), Pace{8, -15}, false, Pace{8, 0})
}

// P20.2: where MaxPoll is below MinPoll, each hold goes by the chapter's words: MinPoll of what is below it, else MaxPoll of what is above that.
func TestNextCrossed(t *testing.T) {
	p := between(10, 5)
	for _, x := range []struct {
		x           Pace
		quiet, loud Pace
	}{
		{Pace{4, 0}, Pace{10, 10}, Pace{10, -20}}, {Pace{5, 0}, Pace{10, 10}, Pace{10, -20}}, {Pace{9, 0}, Pace{10, 10}, Pace{10, -20}}, {Pace{10, 0}, Pace{5, 5}, Pace{5, -10}}, {Pace{12, 0}, Pace{5, 5}, Pace{5, -10}},
		{Pace{7, 20}, Pace{10, 30}, Pace{10, 0}}, {Pace{7, 21}, Pace{5, 0}, Pace{10, 1}}, {Pace{12, 25}, Pace{5, 30}, Pace{5, 15}}, {Pace{12, 26}, Pace{10, 0}, Pace{5, 16}},
		{Pace{7, -10}, Pace{10, 0}, Pace{10, -30}}, {Pace{7, -11}, Pace{10, -1}, Pace{10, 0}}, {Pace{12, -20}, Pace{5, -15}, Pace{5, -30}}, {Pace{12, -21}, Pace{5, -16}, Pace{10, 0}},
	} {
		checkNext(t, p, x.x, true, x.quiet)
		checkNext(t, p, x.x, false, x.loud)
	}
	// One less than MinPoll is MinPoll again, one more than it is above MaxPoll.
	checkNext(t, between(10, 9), Pace{9, 21}, true, Pace{9, 0})
	checkNext(t, between(10, 9), Pace{10, 22}, true, Pace{9, 0})
	checkNext(t, between(10, 9), Pace{9, -11}, false, Pace{10, 0})
	checkNext(t, between(most, least), Pace{0, 0}, true, Pace{least, 0})
	checkNext(t, between(most, least), Pace{0, 0}, false, Pace{most, 0})
	checkNext(t, between(most, least), Pace{most, 0}, true, Pace{least, -1000})
	checkNext(t, between(most, least), Pace{most, 0}, false, Pace{least, 2000})
}

// P20.2: a Poll counts as -1000 at least, and as 1000 at most; one below 0 takes what others add, and never turns.
func TestNextFar(t *testing.T) {
	p := between(least, most)
	for _, x := range []struct {
		x           Pace
		quiet, loud Pace
	}{
		{Pace{0, 0}, Pace{0, 0}, Pace{0, 0}}, {Pace{0, 30}, Pace{0, 30}, Pace{0, 30}}, {Pace{0, 31}, Pace{0, 30}, Pace{0, 30}}, {Pace{0, -31}, Pace{0, -30}, Pace{0, -30}},
		{Pace{1, 30}, Pace{2, 0}, Pace{1, 28}}, {Pace{1, -30}, Pace{1, -29}, Pace{0, 0}}, {Pace{-1, 30}, Pace{-1, 29}, Pace{-1, 32}}, {Pace{-1, -30}, Pace{-1, -31}, Pace{-1, -28}},
		{Pace{999, -30}, Pace{1000, 0}, Pace{998, 0}}, {Pace{1000, 30}, Pace{1001, 0}, Pace{999, 0}}, {Pace{1001, 0}, Pace{1002, 0}, Pace{1000, 0}}, {Pace{1 << 62, 0}, Pace{1<<62 + 1, 0}, Pace{1<<62 - 1, 0}}, {Pace{1<<62 + 1, -9}, Pace{1<<62 + 2, 0}, Pace{1 << 62, 0}}, {Pace{most - 1, 0}, Pace{most, 0}, Pace{most - 2, 0}}, {Pace{most, 0}, Pace{most, 0}, Pace{most - 1, 0}},
		{Pace{-999, 0}, Pace{-999, -999}, Pace{-999, 1998}}, {Pace{-1000, 5}, Pace{-1000, -995}, Pace{-1000, 2005}}, {Pace{-1001, 5}, Pace{-1001, -995}, Pace{-1001, 2005}}, {Pace{-1 << 62, 5}, Pace{-1 << 62, -995}, Pace{-1 << 62, 2005}}, {Pace{least + 1, 5}, Pace{least + 1, -995}, Pace{least + 1, 2005}}, {Pace{least, -30}, Pace{least, -1030}, Pace{least, 1970}}, {Pace{least, 30}, Pace{least, -970}, Pace{least, 2030}},
	} {
		checkNext(t, p, x.x, true, x.quiet)
		checkNext(t, p, x.x, false, x.loud)
	}
}

// P20.2: Next goes by what Quiet says, of what p is.
func TestNextQuietness(t *testing.T) {
	p := usual(t)
	for _, x := range []struct {
		offset, jitter int64
		should         Pace
	}{
		{0, 1, Pace{6, 6}}, {0, 0, Pace{6, -12}}, {4*second - 1, second, Pace{6, 6}}, {4 * second, second, Pace{6, -12}}, {1 - 4*second, second, Pace{6, 6}}, {-4 * second, second, Pace{6, -12}}, {second / 2, second, Pace{6, 6}}, {second, second / 8, Pace{6, -12}},
		{0, -1, Pace{6, -12}}, {lowest, lowest, Pace{6, -12}}, {lowest, top, Pace{6, -12}}, {top - 1, top, Pace{6, 6}}, {top, top, Pace{6, -12}},
	} {
		for range 2 {
			if is := Next(p, Start(p), x.offset, x.jitter); is != x.should {
				t.Errorf("Next of %d, %d = %+v, not %+v", x.offset, x.jitter, is, x.should)
			}
		}
	}
}

// alike tells a list of as many that are all the same.
func alike(quiet bool, many int) []bool {
	return slices.Repeat([]bool{quiet}, many)
}

// checkRun holds Run against what it should tell, and that twice.
func checkRun(t *testing.T, p setup.Params, x Pace, quiet []bool, should Pace) {
	t.Helper()
	for _, p := range []setup.Params{p, p, filled(p)} {
		if is := Run(p, x, quiet); is != should {
			t.Errorf("Run of %d to %d, %+v, %v = %+v, not %+v", p.MinPoll, p.MaxPoll, x, quiet, is, should)
		}
	}
}

// P20.2: x held, of none, and that once.
func TestRunNone(t *testing.T) {
	for _, none := range [][]bool{nil, {}, alike(true, 2)[:0]} {
		for _, x := range []struct {
			low, high int
			x, should Pace
		}{
			{6, 10, Pace{}, Pace{6, 0}}, {6, 10, Pace{8, 20}, Pace{8, 20}}, {6, 10, Pace{6, 30}, Pace{6, 30}}, {6, 10, Pace{10, -30}, Pace{10, -30}}, {6, 10, Pace{5, 31}, Pace{6, 30}}, {6, 10, Pace{11, -31}, Pace{10, -30}}, {6, 10, Pace{most, most}, Pace{10, 30}}, {6, 10, Pace{least, least}, Pace{6, -30}},
			{10, 5, Pace{12, 1}, Pace{5, 1}}, {10, 5, Pace{10, 1}, Pace{5, 1}}, {10, 5, Pace{9, 1}, Pace{10, 1}}, {10, 5, Pace{5, 1}, Pace{10, 1}}, {10, 5, Pace{4, 1}, Pace{10, 1}},
			{least, most, Pace{least, 0}, Pace{least, 0}}, {least, most, Pace{most, 0}, Pace{most, 0}}, {-3, -3, Pace{0, 0}, Pace{-3, 0}}, {0, 0, Pace{4, 4}, Pace{0, 4}},
		} {
			checkRun(t, between(x.low, x.high), x.x, none, x.should)
		}
	}
}

// P20.2: one by one, in the list's order.
func TestRun(t *testing.T) {
	p := between(4, 7)
	for _, x := range []struct {
		x      Pace
		quiet  []bool
		should Pace
	}{
		{Pace{6, 0}, alike(true, 2), Pace{6, 12}}, {Pace{6, 0}, alike(true, 5), Pace{6, 30}}, {Pace{6, 0}, alike(true, 6), Pace{7, 0}}, {Pace{6, 0}, alike(true, 7), Pace{7, 7}}, {Pace{6, 0}, alike(true, 10), Pace{7, 28}}, {Pace{6, 0}, alike(true, 11), Pace{7, 0}}, {Pace{6, 0}, alike(true, 12), Pace{7, 7}},
		{Pace{6, 0}, alike(false, 2), Pace{6, -24}}, {Pace{6, 0}, alike(false, 3), Pace{5, 0}}, {Pace{6, 0}, alike(false, 6), Pace{5, -30}}, {Pace{6, 0}, alike(false, 7), Pace{4, 0}}, {Pace{6, 0}, alike(false, 10), Pace{4, -24}}, {Pace{6, 0}, alike(false, 11), Pace{4, 0}},
		{Pace{6, 0}, []bool{true, false}, Pace{6, -6}}, {Pace{6, 0}, []bool{false, true}, Pace{6, -6}}, {Pace{6, 25}, []bool{true, false}, Pace{7, -14}}, {Pace{6, 25}, []bool{false, true}, Pace{6, 19}}, {Pace{6, -19}, []bool{true, false}, Pace{6, -25}}, {Pace{6, -19}, []bool{false, true}, Pace{5, 5}},
		// What turned ahead of the end is not the end.
		{Pace{6, 25}, []bool{true, false, false, false, true}, Pace{6, 6}}, {Pace{6, 25}, []bool{true, true, false, true}, Pace{7, 0}},
		{Pace{99, 99}, []bool{true, true}, Pace{7, 7}}, {Pace{99, 99}, []bool{false, false}, Pace{7, 2}}, {Pace{-9, -99}, []bool{false, true}, Pace{4, 4}},
	} {
		checkRun(t, p, x.x, x.quiet, x.should)
	}
	// Each one holds what the ones ahead of it left.
	checkRun(t, between(-5, -5), Pace{-5, -28}, alike(true, 2), Pace{-5, -35})
	checkRun(t, between(-5, -5), Pace{-5, -28}, []bool{true, false}, Pace{-5, -20})
	checkRun(t, between(-5, -5), Pace{-5, 28}, alike(false, 2), Pace{-5, 40})
	checkRun(t, between(-5, -5), Pace{-5, 28}, []bool{false, true}, Pace{-5, 25})
	checkRun(t, between(10, 5), Pace{12, 0}, alike(true, 2), Pace{10, 15})
	checkRun(t, between(10, 5), Pace{12, 0}, alike(true, 3), Pace{5, 20})
	checkRun(t, between(10, 5), Pace{12, 0}, []bool{true, false, true}, Pace{5, -10})
}

// R3: the list is left as it is, and what lies behind its length is not asked.
func TestRunList(t *testing.T) {
	l := []bool{true, false, true, true, false, false, false, false}
	was := slices.Clone(l)
	for n := range l {
		should := Run(between(6, 10), Pace{6, 20}, slices.Clone(l[:n]))
		for i := n; i < len(l); i++ {
			l[i] = !l[i]
		}
		checkRun(t, between(6, 10), Pace{6, 20}, l[:n], should)
		for i := n; i < len(l); i++ {
			l[i] = !l[i]
		}
		if !slices.Equal(l, was) {
			t.Fatal(l)
		}
	}
}

// model is what the chapter's words say of numbers of any size.
type model struct{ low, high *big.Int }

// modelOf tells the model of p.
func modelOf(p setup.Params) model {
	return model{big.NewInt(int64(p.MinPoll)), big.NewInt(int64(p.MaxPoll))}
}

// hold tells poll, held.
func (m model) hold(poll *big.Int) *big.Int {
	switch {
	case poll.Cmp(m.low) < 0:
		return m.low
	case poll.Cmp(m.high) > 0:
		return m.high
	}
	return poll
}

// bound tells n from -most to most.
func (m model) bound(n *big.Int, most int64) *big.Int {
	return model{big.NewInt(-most), big.NewInt(most)}.hold(n)
}

// pace tells x held.
func (m model) pace(x Pace) (poll, count *big.Int) {
	return m.hold(big.NewInt(int64(x.Poll))), m.bound(big.NewInt(int64(x.Count)), 30)
}

// next tells the pace behind one time.
func (m model) next(x Pace, quiet bool) Pace {
	poll, count := m.pace(x)
	counts := m.bound(poll, 1000)
	turn := int64(0)
	if quiet {
		if count = new(big.Int).Add(count, counts); count.Cmp(big.NewInt(30)) > 0 {
			turn = 1
		}
	} else {
		count = new(big.Int).Sub(count, counts)
		if count.Sub(count, counts); count.Cmp(big.NewInt(-30)) < 0 {
			turn = -1
		}
	}
	if turn != 0 {
		poll, count = m.hold(new(big.Int).Add(poll, big.NewInt(turn))), new(big.Int)
	}
	return Pace{int(poll.Int64()), int(count.Int64())}
}

// quiet tells whether an offset is quiet: its distance is below the product, which is rounded down and cut.
func (m model) quiet(gate, offset, jitter int64) bool {
	product := new(big.Int).Mul(big.NewInt(gate), big.NewInt(jitter))
	product.Rsh(product, 32)
	if product.Cmp(big.NewInt(top)) > 0 {
		product.SetInt64(top)
	}
	return new(big.Int).Abs(big.NewInt(offset)).Cmp(product) < 0
}

// polls are exponents about which something turns, and those far away.
func polls() []int {
	l := []int{least, least + 1, -1 << 40, -1001, -1000, -999, -31, -30, -15}
	for n := -2; n <= 19; n++ {
		l = append(l, n)
	}
	return append(l, 29, 30, 31, 32, 60, 61, 999, 1000, 1001, 1<<40, most-1, most)
}

// P20.2: Next and Run of one hold to the chapter's own words, at all Polls and Counts beside each other.
func TestModelNext(t *testing.T) {
	counts := []int{least, least + 1, least + 999, -1000, -61, most - 999, most - 1, most, 61, 1000}
	for n := -33; n <= 33; n++ {
		counts = append(counts, n)
	}
	for _, low := range []int{least, -1001, -7, 0, 1, 4, 6, 10, 17, 1001, most} {
		for _, high := range []int{least, -1001, -6, 0, 2, 4, 9, 10, 17, 1001, most} {
			p := between(low, high)
			m := modelOf(p)
			for _, poll := range polls() {
				for _, count := range counts {
					for _, quiet := range []bool{false, true} {
						x := Pace{poll, count}
						should := m.next(x, quiet)
						if is, run := Next(p, x, offsetOf(quiet), 1), Run(p, x, []bool{quiet}); is != should || run != should {
							t.Fatalf("Next of %d to %d, %+v, quiet %v = %+v, Run %+v, not %+v", low, high, x, quiet, is, run, should)
						}
					}
				}
			}
		}
	}
}

// P20.1 and P20.2: Quiet holds to the chapter's own words, whatever it is given, and Next to Quiet.
func TestModelQuiet(t *testing.T) {
	draw := draws()
	edges := []int64{lowest, -top, -second, -1, 0, 1, second, 4 * second, top - 1, top}
	number := func() int64 {
		if draw()%8 == 0 {
			return edges[draw()%uint64(len(edges))]
		}
		return int64(draw()) >> (draw() % 64)
	}
	var many [2]int
	for range 200000 {
		p := between(4, 17)
		p.Gate = number()
		m := modelOf(p)
		offset, jitter := number(), number()
		if draw()%4 == 0 {
			// What is at the edge itself, and next to it.
			offset = fix.Mul(p.Gate, jitter) + int64(draw()%3) - 1
		}
		should := m.quiet(p.Gate, offset, jitter)
		if is := Quiet(p, offset, jitter); is != should {
			t.Fatalf("Quiet by %d of %d, %d = %v", p.Gate, offset, jitter, is)
		}
		x := Pace{int(draw() % 20), int(draw()%64) - 32}
		if is := Next(p, x, offset, jitter); is != m.next(x, should) {
			t.Fatalf("Next by %d of %+v, %d, %d = %+v", p.Gate, x, offset, jitter, is)
		}
		if should {
			many[1]++
		} else {
			many[0]++
		}
	}
	if min(many[0], many[1]) < 20000 {
		t.Error(many)
	}
}

// P20.2: Run is Next, one by one, whatever was quiet.
func TestModelRun(t *testing.T) {
	draw := draws()
	some := polls()
	drawn := func() int {
		if draw()%4 == 0 {
			return some[draw()%uint64(len(some))]
		}
		return int(draw()%24) - 3
	}
	for range 5000 {
		p := between(drawn(), drawn())
		m := modelOf(p)
		start := Pace{drawn(), drawn()}
		likely := draw()%7 + 1
		var quiet []bool
		x := start
		for range draw()%300 + 1 {
			quiet = append(quiet, draw()%8 < likely)
			is := quiet[len(quiet)-1]
			if x = m.next(x, is); draw()%16 == 0 && Run(p, start, quiet) != x {
				t.Fatalf("Run of %d to %d, %+v, %v = %+v, not %+v", p.MinPoll, p.MaxPoll, start, quiet, Run(p, start, quiet), x)
			}
		}
		checkRun(t, p, start, quiet, x)
	}
}

// allowed tells all pairs of polls that may be set.
func allowed() []setup.Params {
	var l []setup.Params
	for low := api.MinPoll; low <= api.MaxPoll; low++ {
		for high := low; high <= api.MaxPoll; high++ {
			l = append(l, between(low, high))
		}
	}
	return l
}

// P20.3: where it is always quiet it comes to MaxPoll, never going back, and stays; where it never is, to MinPoll.
func TestFollows(t *testing.T) {
	for _, p := range allowed() {
		for poll := p.MinPoll - 1; poll <= p.MaxPoll+1; poll++ {
			for count := -31; count <= 31; count++ {
				for _, quiet := range []bool{false, true} {
					follow(t, p, Pace{poll, count}, quiet)
				}
			}
		}
	}
}

// follow goes on where it is always quiet, or never, and looks at what it comes to.
func follow(t *testing.T, p setup.Params, x Pace, quiet bool) {
	t.Helper()
	end, way := p.MinPoll, -1
	if quiet {
		end, way = p.MaxPoll, 1
	}
	start := x
	x = Run(p, x, nil)
	for range 150 {
		was := x
		x = Next(p, x, offsetOf(quiet), 1)
		if turn := (x.Poll - was.Poll) * way; turn < 0 || turn > 1 || x.Count < -30 || x.Count > 30 || (x.Poll-end)*way > 0 {
			t.Fatalf("of %d to %d, %+v, quiet %v: %+v behind %+v", p.MinPoll, p.MaxPoll, start, quiet, x, was)
		}
	}
	if x.Poll != end || Run(p, start, alike(quiet, 150)) != x {
		t.Fatalf("of %d to %d, %+v, quiet %v: %+v", p.MinPoll, p.MaxPoll, start, quiet, x)
	}
	for range 100 {
		if x = Next(p, x, offsetOf(quiet), 1); x.Poll != end {
			t.Fatalf("of %d to %d, %+v, quiet %v: %+v does not stay", p.MinPoll, p.MaxPoll, start, quiet, x)
		}
	}
}
