package checks

import (
	"math"
	"testing"

	"analemma/api"
	"analemma/header"
	"analemma/setup"
)

const (
	second = api.Second
	half   = 1 << 63
	last   = math.MaxUint64
	sent   = 900 * second
)

// usual tells what is standard: servers that are a second and a half away, or more, are too far.
func usual(t *testing.T) setup.Params {
	t.Helper()
	p, _, e := setup.Check(setup.Standard())
	if e != api.OK {
		t.Fatal(e)
	}
	return p
}

// asked is what is known of a server that answered once and was asked again.
func asked() Asked {
	return Asked{Version: 4, Pending: sent, Last: 836*second + 5}
}

// answer is the one to what asked was asked.
func answer() api.Header {
	return api.Header{
		Leap: 1, Version: 4, Mode: 4, Stratum: 2, Poll: 6, Precision: -20,
		RootDelay: 1 << 14, RootDisp: 1 << 13, Ref: 0x0a000001,
		Reference: 870 * second, Origin: sent, Receive: 901 * second, Transmit: 901*second + 7,
	}
}

// draws hands on numbers of 64 bits, the same ones each time.
func draws() func() uint64 {
	state := uint64(88172645463325252)
	return func() uint64 {
		state ^= state << 13
		state ^= state >> 7
		state ^= state << 17
		return state
	}
}

// checkJudge holds Judge's answer against what it should be, and Take's against that.
func checkJudge(t *testing.T, p setup.Params, a Asked, h api.Header, should api.Errno) {
	t.Helper()
	if e := Judge(p, a, h); e != should {
		t.Errorf("Judge of %+v, %+v = %d, not %d", a, h, e, should)
	}
	behind := a
	switch should {
	case api.OK, api.ErrKiss, api.ErrUnsync, api.ErrRoot:
		behind.Pending, behind.Last = 0, h.Transmit
	}
	if is, e := Take(p, a, h); is != behind || e != should {
		t.Errorf("Take of %+v, %+v = %+v, %d, not %+v, %d", a, h, is, e, behind, should)
	}
}

// P12.1: half of the delay, and the dispersion, as 2^-32 seconds; nothing else of a header counts.
func TestFar(t *testing.T) {
	for _, x := range []struct {
		delay, disp uint32
		far         int64
	}{
		{0, 0, 0}, {1, 0, 1 << 15}, {0, 1, 1 << 16}, {1, 1, 3 << 15}, {3, 0, 3 << 15}, {2, 5, 6 << 16},
		{1 << 16, 0, second / 2}, {0, 1 << 16, second}, {1 << 16, 1 << 16, 3 * second / 2}, {1 << 17, 1 << 15, 3 * second / 2},
		{1 << 31, 0, 1 << 46}, {0, 1 << 31, 1 << 47}, {math.MaxUint32, 0, 1<<47 - 1<<15}, {0, math.MaxUint32, 1<<48 - 1<<16},
		{math.MaxUint32, math.MaxUint32, 3<<47 - 3<<15},
	} {
		full := answer()
		full.RootDelay, full.RootDisp = x.delay, x.disp
		for _, h := range []api.Header{full, {RootDelay: x.delay, RootDisp: x.disp}} {
			if is := Far(h); is != x.far {
				t.Errorf("Far of %d, %d = %d, not %d", x.delay, x.disp, is, x.far)
			}
		}
	}
}

// P12.1: an answer is one, however little it says.
func TestJudgeOK(t *testing.T) {
	p := usual(t)
	checkJudge(t, p, asked(), answer(), api.OK)
	checkJudge(t, p, Asked{Version: 4, Pending: sent}, answer(), api.OK)
	least := api.Header{Version: 1, Mode: 4, Stratum: 1, Origin: 1, Receive: 1, Transmit: 1}
	checkJudge(t, p, Asked{Version: 1, Pending: 1}, least, api.OK)
	checkJudge(t, setup.Params{MaxDist: 1}, Asked{Version: 1, Pending: 1}, least, api.OK)
}

// P12.1: ErrVersion, if the Version is not the one that was asked by, whichever that is.
func TestJudgeVersion(t *testing.T) {
	versions := []int{math.MinInt, -4, -1, 0, 1, 2, 3, 4, 5, 8, 1<<32 + 4, math.MaxInt}
	for _, ours := range versions {
		for _, its := range versions {
			a, h := asked(), answer()
			a.Version, h.Version = ours, its
			should := api.ErrVersion
			if ours == its {
				should = api.OK
			}
			checkJudge(t, usual(t), a, h, should)
		}
	}
}

// P12.1: ErrMode of each one but 4.
func TestJudgeMode(t *testing.T) {
	for _, mode := range []int{math.MinInt, -4, -1, 0, 1, 2, 3, 4, 5, 6, 7, 8, 12, 1<<32 + 4, math.MaxInt} {
		h := answer()
		h.Mode = mode
		should := api.ErrMode
		if mode == 4 {
			should = api.OK
		}
		checkJudge(t, usual(t), asked(), h, should)
	}
}

// P12.1: ErrDup, if Transmit is Last; a Transmit of 0 is no answer that came, but ErrBogus.
func TestJudgeDup(t *testing.T) {
	p := usual(t)
	for _, transmit := range []uint64{1, 5 * second, 900 * second, 901*second + 7, half - 1, half, half + 1, last - 1, last} {
		h := answer()
		h.Reference, h.Transmit = transmit, transmit
		for _, x := range []struct {
			last   uint64
			should api.Errno
		}{{transmit, api.ErrDup}, {0, api.OK}, {transmit - 1, api.OK}, {transmit + 1, api.OK}, {transmit ^ half, api.OK}, {transmit ^ 1<<32, api.OK}, {^transmit, api.OK}} {
			a := asked()
			a.Last = x.last
			checkJudge(t, p, a, h, x.should)
		}
		// One that came already is that, whoever asked for it.
		checkJudge(t, p, Asked{4, 0, transmit}, h, api.ErrDup)
		checkJudge(t, p, Asked{4, sent + 1, transmit}, h, api.ErrDup)
		h.Receive = 0
		checkJudge(t, p, Asked{4, sent, transmit}, h, api.ErrDup)
	}
	h := answer()
	h.Transmit = 0
	for _, l := range []uint64{0, 1, last} {
		checkJudge(t, p, Asked{4, sent, l}, h, api.ErrBogus)
		checkJudge(t, p, Asked{4, 0, l}, h, api.ErrBogus)
	}
}

// P12.1: ErrBogus, if nothing was asked, or something else, or a time is missing.
func TestJudgeBogus(t *testing.T) {
	p := usual(t)
	for _, pending := range []uint64{1, 2, sent, half - 1, half, half + 1, last} {
		a, h := asked(), answer()
		a.Pending, h.Origin = pending, pending
		checkJudge(t, p, a, h, api.OK)
		for _, origin := range []uint64{0, pending - 1, pending + 1, pending ^ half, pending ^ 1<<32, ^pending, a.Last, h.Receive} {
			if origin != pending {
				h.Origin = origin
				checkJudge(t, p, a, h, api.ErrBogus)
			}
		}
	}
	for _, origin := range []uint64{0, 1, sent, last} {
		a, h := asked(), answer()
		a.Pending, h.Origin = 0, origin
		checkJudge(t, p, a, h, api.ErrBogus)
		checkJudge(t, p, Asked{Version: 4}, h, api.ErrBogus)
	}
	a, h := asked(), answer()
	h.Receive = 0
	checkJudge(t, p, a, h, api.ErrBogus)
	h = answer()
	h.Transmit = 0
	checkJudge(t, p, a, h, api.ErrBogus)
	h.Receive, h.Reference = 0, 0
	checkJudge(t, p, a, h, api.ErrBogus)
	h = answer()
	h.Receive, h.Transmit, h.Reference = last, 1, 1
	checkJudge(t, p, a, h, api.OK)
	// The Reference is the root's, not the server's: it may be missing.
	h.Reference = 0
	checkJudge(t, p, a, h, api.OK)
}

// P12.1: ErrKiss of any kiss at all, and of the stratum 0 alone.
func TestJudgeKiss(t *testing.T) {
	p := usual(t)
	for _, s := range []string{"DENY", "RSTR", "RATE", "INIT", "STEP", "deny", "GPS", "", "\xff\xff\xff\xff", "\x7f\x00\x00\x01"} {
		h := answer()
		h.Ref = header.Ref(s)
		for stratum, should := range map[int]api.Errno{
			0: api.ErrKiss, 1: api.OK, 2: api.OK, 15: api.OK, 16: api.ErrUnsync, 255: api.ErrUnsync, 256: api.ErrUnsync,
			-1: api.OK, -16: api.OK, 1 << 32: api.ErrUnsync, math.MinInt: api.OK, math.MaxInt: api.ErrUnsync,
		} {
			h.Stratum = stratum
			checkJudge(t, p, asked(), h, should)
		}
	}
}

// P12.1: ErrUnsync, if Leap is 3, or Stratum above 15.
func TestJudgeUnsync(t *testing.T) {
	p := usual(t)
	for _, leap := range []int{math.MinInt, -3, -1, 0, 1, 2, 3, 4, 7, 1<<32 + 3, math.MaxInt} {
		for stratum := 1; stratum < 300; stratum++ {
			h := answer()
			h.Leap, h.Stratum = leap, stratum
			should := api.OK
			if leap == 3 || stratum > 15 {
				should = api.ErrUnsync
			}
			checkJudge(t, p, asked(), h, should)
		}
	}
}

// P12.1: ErrRoot, if Far is not below MaxDist, whatever that is.
func TestJudgeRoot(t *testing.T) {
	for _, x := range []struct{ delay, disp uint32 }{{0, 0}, {1, 0}, {0, 1}, {1 << 16, 1 << 16}, {1<<16 + 1, 1 << 16}, {1<<16 - 1, 1 << 16}, {3 << 16, 0}, {0, 3 << 15}, {math.MaxUint32, math.MaxUint32}} {
		h := answer()
		h.RootDelay, h.RootDisp = x.delay, x.disp
		far := int64(x.delay)*(1<<15) + int64(x.disp)*(1<<16)
		for _, most := range []int64{math.MinInt64, -api.Max, -second, -1, 0, 1, far - 1, far, far + 1, far + second, api.MaxDist, api.Max} {
			should := api.OK
			if far >= most {
				should = api.ErrRoot
			}
			checkJudge(t, setup.Params{MaxDist: most}, asked(), h, should)
		}
	}
	p := usual(t)
	if p.MaxDist != api.MaxDist {
		t.Fatal(p.MaxDist)
	}
	h := answer()
	h.RootDelay, h.RootDisp = 1<<16, 1<<16
	checkJudge(t, p, asked(), h, api.ErrRoot)
	h.RootDelay--
	checkJudge(t, p, asked(), h, api.OK)
}

// P12.1: ErrRoot, if Reference is behind Transmit, the shorter way round; half an era is as far either way, and told as ahead.
func TestJudgeReference(t *testing.T) {
	p := usual(t)
	for _, transmit := range []uint64{1, 2, 901 * second, half - 1, half, half + 1, last - 1, last} {
		for gap, should := range map[uint64]api.Errno{
			0: api.OK, 1: api.ErrRoot, second: api.ErrRoot, half - 1: api.ErrRoot,
			half: api.OK, half + 1: api.OK, last - second: api.OK, last: api.OK,
		} {
			h := answer()
			h.Transmit, h.Reference = transmit, transmit+gap
			checkJudge(t, p, asked(), h, should)
		}
	}
	h := answer()
	h.Transmit, h.Reference = 5, last-5
	checkJudge(t, p, asked(), h, api.OK)
	h.Transmit, h.Reference = last-5, 5
	checkJudge(t, p, asked(), h, api.ErrRoot)
}

// wrong is a way to spoil an answer, and what it is then.
type wrong struct {
	by    func(*Asked, *api.Header)
	fault api.Errno
}

// wrongs are in the order of the chapter; each leaves the others as they are.
func wrongs() []wrong {
	return []wrong{
		{func(a *Asked, h *api.Header) { h.Version = 3 }, api.ErrVersion},
		{func(a *Asked, h *api.Header) { h.Mode = 3 }, api.ErrMode},
		{func(a *Asked, h *api.Header) { a.Last = h.Transmit }, api.ErrDup},
		{func(a *Asked, h *api.Header) { a.Pending = 0 }, api.ErrBogus},
		{func(a *Asked, h *api.Header) { h.Origin++ }, api.ErrBogus},
		{func(a *Asked, h *api.Header) { h.Receive = 0 }, api.ErrBogus},
		{func(a *Asked, h *api.Header) { h.Stratum = 0 }, api.ErrKiss},
		{func(a *Asked, h *api.Header) { h.Leap = 3 }, api.ErrUnsync},
		{func(a *Asked, h *api.Header) { h.RootDisp = 1 << 20 }, api.ErrRoot},
		{func(a *Asked, h *api.Header) { h.Reference = h.Transmit + 1 }, api.ErrRoot},
	}
}

// P12.1: where several hold, the first one counts, whichever others are with it.
func TestFirstError(t *testing.T) {
	p := usual(t)
	l := wrongs()
	for these := range 1 << len(l) {
		a, h := asked(), answer()
		should := api.OK
		for i := len(l) - 1; i >= 0; i-- {
			if these>>i&1 != 0 {
				l[i].by(&a, &h)
				should = l[i].fault
			}
		}
		checkJudge(t, p, a, h, should)
	}
	// The stratum 0 leaves no room for one above 15; what else may be with that does.
	a, h := asked(), answer()
	h.Stratum, h.RootDisp = 16, 1<<20
	checkJudge(t, p, a, h, api.ErrUnsync)
	h.Version = 0
	checkJudge(t, p, a, h, api.ErrVersion)
	checkJudge(t, p, Asked{}, api.Header{}, api.ErrMode)
	checkJudge(t, p, Asked{}, api.Header{Mode: 4}, api.ErrBogus)
}

// P12.2: what is known behind each answer of Judge, written out.
func TestTake(t *testing.T) {
	p := usual(t)
	before, came := asked(), answer().Transmit
	behind := Asked{Version: 4, Last: came}
	if a, e := Take(p, before, answer()); a != behind || e != api.OK {
		t.Errorf("%+v, %d", a, e)
	}
	for i, x := range wrongs() {
		a, h := asked(), answer()
		x.by(&a, &h)
		should := a
		switch x.fault {
		case api.ErrKiss, api.ErrUnsync, api.ErrRoot:
			should = behind
		}
		if is, e := Take(p, a, h); is != should || e != x.fault {
			t.Errorf("%d: %+v, %d, not %+v, %d", i, is, e, should, x.fault)
		}
	}
	if before != asked() {
		t.Errorf("what was known is %+v", before)
	}
}

// modelOf tells Judge's answer by the chapter's own words.
func modelOf(p setup.Params, a Asked, h api.Header) api.Errno {
	gap := h.Reference - h.Transmit
	switch {
	case h.Version != a.Version:
		return api.ErrVersion
	case h.Mode != 4:
		return api.ErrMode
	case h.Transmit > 0 && h.Transmit == a.Last:
		return api.ErrDup
	case a.Pending == 0, h.Origin != a.Pending, h.Transmit == 0, h.Receive == 0:
		return api.ErrBogus
	case h.Stratum == 0:
		return api.ErrKiss
	case h.Leap == 3, h.Stratum >= 16:
		return api.ErrUnsync
	case int64(h.RootDelay)*65536/2+int64(h.RootDisp)*65536 >= p.MaxDist, gap > 0 && gap < half:
		return api.ErrRoot
	}
	return api.OK
}

// drawn tells a packet, mostly near an answer to a, and what it is held against.
func drawn(draw func() uint64) (setup.Params, Asked, api.Header) {
	stamps := []uint64{0, 1, sent, 836*second + 5, 901 * second, 901*second + 7, half, half + 1, last}
	dists := []int64{math.MinInt64, -1, 0, 1, second / 100, second/4 + 1, api.MaxDist, 16 * second, api.Max}
	pick := func(n int) int { return int(draw() >> 20 % uint64(n)) }
	stamp := func() uint64 {
		if pick(4) == 0 {
			return draw()
		}
		return stamps[pick(len(stamps))]
	}
	p, a, h := setup.Params{MaxDist: api.MaxDist}, asked(), answer()
	for range pick(4) {
		switch pick(13) {
		case 0:
			h.Leap = pick(5)
		case 1:
			h.Version = pick(6)
		case 2:
			h.Mode = pick(8)
		case 3:
			h.Stratum = pick(20) - 1
		case 4:
			h.RootDelay = uint32(draw()) >> pick(32)
		case 5:
			h.RootDisp = uint32(draw()) >> pick(32)
		case 6:
			h.Reference = stamp()
		case 7:
			h.Origin = stamp()
		case 8:
			h.Receive = stamp()
		case 9:
			h.Transmit = stamp()
		case 10:
			a.Pending = stamp()
		case 11:
			a.Last = stamp()
		case 12:
			p.MaxDist = dists[pick(len(dists))]
		}
	}
	return p, a, h
}

// P12.1, P12.2: both hold to the chapter's own words, whatever they are given.
func TestModel(t *testing.T) {
	draw := draws()
	seen := map[api.Errno]int{}
	for range 200000 {
		p, a, h := drawn(draw)
		should := modelOf(p, a, h)
		seen[should]++
		checkJudge(t, p, a, h, should)
		if t.Failed() {
			return
		}
	}
	for _, e := range []api.Errno{api.OK, api.ErrVersion, api.ErrMode, api.ErrDup, api.ErrBogus, api.ErrKiss, api.ErrUnsync, api.ErrRoot} {
		if seen[e] < 500 {
			t.Errorf("%d came %d times only", e, seen[e])
		}
	}
}

// P12.1: of p nothing counts but MaxDist; of a header neither Poll nor Precision.
func TestNothingElseCounts(t *testing.T) {
	draw := draws()
	for range 20000 {
		p, a, h := drawn(draw)
		is := Judge(p, a, h)
		q := setup.Params{Step: 1, Watch: 2, Panic: 3, MaxRate: 4, Phi: 5, Gate: 6, MinPoll: 7, MaxPoll: 8, Burst: 9, MinSane: 10, MinLeft: 11}
		q.MaxDist = p.MaxDist
		h.Poll, h.Precision = int(draw()), int(draw())
		if e := Judge(q, a, h); e != is {
			t.Fatalf("Judge of %+v, %+v = %d, then %d", a, h, is, e)
		}
	}
}

// causesOf are the errors that have a cause of their own, as the chapter has them.
func causesOf() map[api.Errno]int {
	return map[api.Errno]int{0: 0, 50: 1, 60: 1, 1: 1, 51: 2, 120: 3, 121: 4, 122: 5, 123: 6, 124: 7, 125: 8}
}

// P12.3: each error's cause; 9 of all that have none, whether they are errors or not.
func TestCause(t *testing.T) {
	l := []api.Errno{math.MinInt, math.MinInt32, 1 << 32, 1<<32 + 50, math.MaxInt}
	for e := api.Errno(-300); e <= 600; e++ {
		l = append(l, e)
	}
	for _, e := range l {
		should, is := causesOf()[e]
		if !is {
			should = 9
		}
		if Cause(e) != should {
			t.Errorf("the cause of %d is %d, not %d", e, Cause(e), should)
		}
	}
}

// P12.3: one more at the cause, and all others as they were; what was handed in stays.
func TestCount(t *testing.T) {
	for _, before := range []Counts{{}, {10, 11, 12, 13, 14, 15, 16, 17, 18, 19}, {-1, -2, -3, math.MinInt, 1 << 32, math.MaxInt - 1, 0, 1 << 31, math.MaxInt32, -10}} {
		for e := api.Errno(-2); e < 250; e++ {
			c := before
			is := Count(c, e)
			should := before
			should[Cause(e)] = before[Cause(e)] + 1
			if is != should || c != before {
				t.Errorf("Count of %d: %v, %v", e, is, c)
			}
		}
	}
	var c Counts
	for _, e := range []api.Errno{api.OK, api.OK, api.ErrShort, api.ErrForm, api.ErrArg, api.ErrVersion, api.ErrMode, api.ErrMode, api.ErrDup, api.ErrBogus, api.ErrUnsync, api.ErrRoot, api.ErrKiss, api.ErrSpike, api.ErrLine, -7} {
		c = Count(c, e)
	}
	if c != (Counts{2, 3, 1, 2, 1, 1, 1, 1, 1, 3}) {
		t.Error(c)
	}
}

// P12.4: a packet that nobody asked for changes nothing, whatever it says.
func TestNobodyAsked(t *testing.T) {
	draw := draws()
	for range 50000 {
		p, a, h := drawn(draw)
		if draw()>>40%2 == 0 {
			a.Pending = 0
		} else if a.Pending == h.Origin {
			h.Origin ^= 1 << (draw() >> 40 % 64)
		}
		is, e := Take(p, a, h)
		if is != a || e == api.OK || e == api.ErrKiss || e == api.ErrUnsync || e == api.ErrRoot {
			t.Fatalf("Take of %+v, %+v = %+v, %d", a, h, is, e)
		}
	}
	h := answer()
	h.Origin = 0
	if a, e := Take(usual(t), Asked{Version: 4}, h); a != (Asked{Version: 4}) || e != api.ErrBogus {
		t.Errorf("%+v, %d", a, e)
	}
}

// P12.4: of two that answer one question the second one is none, be it the same one or another, and of whatever use the first one was.
func TestSecondAnswer(t *testing.T) {
	p := usual(t)
	for _, x := range wrongs() {
		spoilt := answer()
		x.by(&Asked{}, &spoilt)
		for _, first := range []api.Header{answer(), spoilt} {
			a, e := Take(p, asked(), first)
			if e != api.OK && a == asked() {
				// What was no answer at all leaves the question open.
				checkJudge(t, p, a, answer(), api.OK)
				continue
			}
			checkJudge(t, p, a, first, api.ErrDup)
			other := first
			other.Transmit++
			checkJudge(t, p, a, other, api.ErrBogus)
			// Nor does either answer the next question.
			a.Pending = sent + 64*second
			checkJudge(t, p, a, first, api.ErrDup)
			checkJudge(t, p, a, other, api.ErrBogus)
		}
	}
}

// P12.4: forged packets between a question and its answer are counted, and the answer is heard still, once.
func TestForged(t *testing.T) {
	draw := draws()
	p := usual(t)
	a := Asked{Version: 4}
	var c Counts
	taken := func(h api.Header) (e api.Errno) {
		before := c
		a, e = Take(p, a, h)
		c = Count(c, e)
		changed := 0
		for i := range c {
			changed += c[i] - before[i]
		}
		if changed != 1 {
			t.Fatalf("%v behind %v", c, before)
		}
		return e
	}
	for i := range 200 {
		a.Pending = sent + uint64(i)*64*second
		known := a
		for range 20 {
			_, _, h := drawn(draw)
			h.Origin = a.Pending + 1 + draw()>>1
			if e := taken(h); a != known {
				t.Fatalf("%+v behind %+v, %d", a, known, e)
			}
		}
		h := answer()
		h.Origin, h.Receive, h.Transmit = a.Pending, a.Pending+second, a.Pending+second+1
		if e := taken(h); e != api.OK || a != (Asked{Version: 4, Last: h.Transmit}) {
			t.Fatalf("%+v, %d", a, e)
		}
		if e := taken(h); e != api.ErrDup {
			t.Fatal(e)
		}
		h.Transmit++
		if e := taken(h); e != api.ErrBogus {
			t.Fatal(e)
		}
	}
	if c[0] != 200 || c[4] < 200 || c[5] < 200 {
		t.Error(c)
	}
}

// R5: the same arguments have the same answer, in whichever order they come.
func TestSameAnswer(t *testing.T) {
	type given struct {
		p setup.Params
		a Asked
		h api.Header
	}
	draw := draws()
	var l []given
	var first []api.Errno
	for range 500 {
		p, a, h := drawn(draw)
		l = append(l, given{p, a, h})
		_, e := Take(p, a, h)
		first = append(first, e)
	}
	for i := len(l) - 1; i >= 0; i-- {
		if _, e := Take(l[i].p, l[i].a, l[i].h); e != first[i] {
			t.Fatalf("%d, then %d", first[i], e)
		}
	}
}
