package loop

import (
	"math"
	"math/big"
	"testing"

	"analemma/api"
	"analemma/fix"
	"analemma/setup"
)

const (
	second = api.Second
	top    = api.Max
	lowest = math.MinInt64
)

// usual tells what is standard.
func usual(t *testing.T) setup.Params {
	t.Helper()
	p, _, e := setup.Check(setup.Standard())
	if e != api.OK {
		t.Fatal(e)
	}
	return p
}

// plain is what most tests are reckoned by: far is above a second, Watch is 256 seconds, 1000 are too many.
func plain() setup.Params {
	return setup.Params{Step: second, Watch: 256 * second, Panic: 1000 * second, MaxRate: 1 << 24}
}

// full is a discipline of that state that has something in each field: it was updated at 100 seconds.
func full(state int) Disc {
	return Disc{State: state, At: 100 * second, Offset: second / 4, Freq: 5000, Jitter: second / 2, Wander: 1 << 20, Rest: 77}
}

// stateless are numbers that are no state.
func stateless() []int {
	return []int{lowest, lowest + 1, -1 << 32, -5, -4, -1, 5, 6, 7, 255, 256, 1 << 32, 1<<32 + 4, math.MaxInt}
}

// draws hands on numbers of 64 bits, the same ones each time.
func draws() func() uint64 {
	state := uint64(88172645463325252)
	return func() uint64 {
		state ^= state << 13
		state ^= state >> 7
		state ^= state << 17
		return state
	}
}

// checkUpdate holds what Update tells against what it should, and that twice.
func checkUpdate(t *testing.T, p setup.Params, d Disc, offset, at int64, poll int, should Disc, what int, by int64, fault api.Errno) {
	t.Helper()
	for range 2 {
		is, done, told, e := Update(p, d, offset, at, poll)
		if is != should || done != what || told != by || e != fault {
			t.Errorf("Update of %+v, %+v, %d, %d, %d = %+v, %d, %d, %d, not %+v, %d, %d, %d", p, d, offset, at, poll, is, done, told, e, should, what, by, fault)
		}
	}
}

// checkTurn holds Turn against what it should tell, with a discipline whose offset was that.
func checkTurn(t *testing.T, was, offset, gone int64, poll int, should int64) {
	t.Helper()
	if is := Turn(plain(), Disc{Offset: was}, offset, gone, poll); is != should {
		t.Errorf("Turn of %d behind %d, %d, %d = %d, not %d", offset, was, gone, poll, is, should)
	}
}

// The chapter's numbers of states, and of what is done.
func TestNumbers(t *testing.T) {
	if is := [...]int{NSet, FSet, Spik, Freq, Sync}; is != [...]int{0, 1, 2, 3, 4} {
		t.Error(is)
	}
	if is := [...]int{None, Slew, Step}; is != [...]int{0, 1, 2} {
		t.Error(is)
	}
}

// The chapter's example, and the whole's sixth one: the first offset of two seconds steps the clock, the next one is awaited for as long as Watch.
func TestExample(t *testing.T) {
	p := usual(t)
	d, what, by, e := Update(p, Start(p, 0, false), 2*second, 0, 6)
	if d.State != Freq || what != Step || by != 2*second || e != api.OK {
		t.Fatal(d, what, by, e)
	}
	for _, at := range []int64{second, 2 * second, 300*second + second - 1} {
		if d, what, by, e = Update(p, d, 2*second, at, 6); d.State != Spik || what != None || by != 0 || e != api.OK {
			t.Fatal(at, d, what, by, e)
		}
	}
	if d, what, by, e = Update(p, d, 2*second, 301*second, 6); d.State != Sync || what != Step || by != 2*second || e != api.OK {
		t.Fatal(d, what, by, e)
	}
}

// P19.1: the frequency, held, if it is known.
func TestStartKnown(t *testing.T) {
	for _, x := range []struct{ rate, freq, should int64 }{
		{9, 0, 0}, {9, 1, 1}, {9, -1, -1}, {9, 8, 8}, {9, 9, 9}, {9, 10, 9}, {9, 11, 9}, {9, -8, -8}, {9, -9, -9}, {9, -10, -9}, {9, top, 9}, {9, lowest, -9},
		{0, 0, 0}, {0, 1, 0}, {0, -1, 0}, {top, top, top}, {top, lowest, -top}, {top, -top, -top}, {2147483, second, 2147483}, {2147483, -second, -2147483},
		// Where the greatest rate is below 0, its opposite goes ahead of it.
		{-9, 0, 9}, {-9, 8, 9}, {-9, 9, -9}, {-9, 10, -9}, {-9, lowest, 9}, {-top, 0, top}, {-top, top, -top},
	} {
		should := Disc{State: 1, Freq: x.should}
		if is := Start(setup.Params{MaxRate: x.rate}, x.freq, true); is != should {
			t.Errorf("Start of %d within %d = %+v, not %+v", x.freq, x.rate, is, should)
		}
		// Nothing else of what was set counts.
		all := setup.Params{Step: 1, Watch: 2, Panic: 3, MaxRate: x.rate, Phi: 4, MaxDist: 5, Gate: 6, MinPoll: 7, MaxPoll: 8, Burst: 9, MinSane: 10, MinLeft: 11}
		if is := Start(all, x.freq, true); is != should {
			t.Errorf("Start of %d by %+v = %+v, not %+v", x.freq, all, is, should)
		}
	}
}

// P19.1: nothing at all, else, whatever the frequency is.
func TestStartUnknown(t *testing.T) {
	for _, freq := range []int64{lowest, -second, -1, 0, 1, second, top} {
		for _, p := range []setup.Params{{}, plain(), usual(t), {MaxRate: -9}, {MaxRate: lowest}, {MaxRate: top}} {
			if is := Start(p, freq, false); is != (Disc{}) {
				t.Errorf("Start of %d by %+v = %+v", freq, p, is)
			}
		}
	}
}

// P19.1: the root of a square, of which a quarter of what the new one is more is added.
func TestSmooth(t *testing.T) {
	for _, x := range []struct{ old, new, should int64 }{
		{0, 0, 0}, {0, 2 * second, second}, {0, -2 * second, second}, {3 * second, 3 * second, 3 * second}, {3 * second, -3 * second, 3 * second}, {-3 * second, 3 * second, 3 * second}, {-3 * second, -3 * second, 3 * second},
		// Of 16 and 1 it is 12 and a quarter, of 16 and 42 and a quarter 22 and nine sixteenths, of 16 and 121 it is 42 and a quarter.
		{4 * second, second, 7 * second / 2}, {4 * second, -second, 7 * second / 2}, {-4 * second, second, 7 * second / 2}, {4 * second, 13 * second / 2, 19 * second / 4}, {4 * second, 11 * second, 13 * second / 2}, {-4 * second, -11 * second, 13 * second / 2},
		{second, 0, 3719550786}, {2 * second, 0, 7439101573}, {0, second, second / 2},
	} {
		if is := Smooth(x.old, x.new); is != x.should {
			t.Errorf("Smooth of %d, %d = %d, not %d", x.old, x.new, is, x.should)
		}
	}
}

// P19.1: both squares are rounded down, and the quarter, also where the new one is less.
func TestSmoothRounded(t *testing.T) {
	for _, x := range []struct{ old, new, should int64 }{
		{0, 65535, 0}, {0, 65536, 0}, {0, 131071, 0}, {0, 131072, 65536}, {65535, 0, 0}, {65536, 65536, 65536}, {65537, 65537, 65536}, {131071, 131071, 113511}, {131072, 131072, 131072},
		// A quarter of 1 less is 1 less.
		{65536, 0, 0}, {65536, 65535, 0}, {131072, 0, 113511}, {131072, 65536, 113511}, {131072, 131071, 113511},
	} {
		if is := Smooth(x.old, x.new); is != x.should {
			t.Errorf("Smooth of %d, %d = %d, not %d", x.old, x.new, is, x.should)
		}
	}
}

// P19.1: both squares are cut, of which 46341 seconds have the first one that is.
func TestSmoothCut(t *testing.T) {
	const root = 199032864766430
	for _, x := range []struct{ old, new, should int64 }{
		{top, top, root}, {lowest, lowest, root}, {-top, lowest, root}, {46341 * second, 46341 * second, root}, {46341 * second, top, root}, {46340 * second, 46340 * second, 46340 * second},
		{0, top, 99516432383215}, {0, lowest, 99516432383215}, {0, 46341 * second, 99516432383215}, {0, 46340 * second, 23170 * second},
		{top, 0, 172367517075721}, {lowest, 0, 172367517075721}, {46341 * second, 0, 172367517075721}, {46340 * second, 0, 172363983458428}, {46340 * second, top, 199029804571929},
	} {
		if is := Smooth(x.old, x.new); is != x.should {
			t.Errorf("Smooth of %d, %d = %d, not %d", x.old, x.new, is, x.should)
		}
	}
}

// P19.2: an offset over the time that is gone, or over a wait, if that is less; by a power of 2 that the wait tells.
func TestTurn(t *testing.T) {
	for _, x := range []struct {
		offset, gone int64
		poll         int
		should       int64
	}{
		{second, second, 4, 1 << 16}, {second, 8 * second, 4, 1 << 19}, {second, 16 * second, 4, 1 << 20}, {second, 16*second + 1, 4, 1 << 20}, {second, 17 * second, 4, 1 << 20}, {second, 2048 * second, 4, 1 << 20}, {-second, 16 * second, 4, -1 << 20}, {3 * second / 2, 16 * second, 4, 3 << 19}, {0, 16 * second, 4, 0}, {second, 0, 4, 0},
		{second, 64 * second, 6, 1 << 18}, {second, 65 * second, 6, 1 << 18}, {second, 32 * second, 6, 1 << 17}, {-7 * second, 32 * second, 6, -7 << 17},
		{second, 1024 * second, 10, 1 << 14}, {second, 1025 * second, 10, 1 << 14}, {second, 512 * second, 10, 1 << 13}, {second, 2048 * second, 11, 1 << 13}, {second, 2048 * second, 17, 2}, {second, 1024 * second, 17, 1}, {second, 1023 * second, 17, 0}, {-second, 1023 * second, 17, -1},
		// Time that goes back turns it the other way.
		{second, -16 * second, 4, -1 << 20}, {second, -32 * second, 4, -1 << 21}, {-second, -16 * second, 4, 1 << 20}, {second, -4096 * second, 4, -1 << 28},
	} {
		for _, was := range []int64{0, 5 * second, lowest} {
			checkTurn(t, was, x.offset, x.gone, x.poll, x.should)
		}
	}
}

// P19.2: above 2048 seconds a quarter of what lies between both offsets, by the time that is gone, is added.
func TestTurnLong(t *testing.T) {
	for _, x := range []struct {
		was, offset, gone int64
		poll              int
		should            int64
	}{
		{0, second, 4096 * second, 4, 1<<20 + 1<<18}, {5 * second, second, 4096 * second, 4, 0}, {-7 * second, second, 4096 * second, 4, 1<<20 + 1<<21}, {9 * second, second, 4096 * second, 4, -1 << 20}, {second, second, 4096 * second, 4, 1 << 20}, {-second, -second, 4096 * second, 4, -1 << 20}, {4 * second, 0, 4096 * second, 4, -1 << 20},
		{0, second, 4096 * second, 12, 1<<12 + 1<<18}, {0, second, 1 << 18 * second, 17, 1<<7 + 1<<12}, {0, second, 1 << 17 * second, 17, 1<<7 + 1<<13},
		// Of 2048 seconds themselves nothing is.
		{9 * second, second, 2048*second - 1, 4, 1 << 20}, {9 * second, second, 2048 * second, 4, 1 << 20}, {9 * second, second, 2048*second + 1, 4, 1<<20 - 1<<22}, {0, second, 2048*second + 1, 4, 1<<20 + 1<<19 - 1}, {-7 * second, second, 2048*second + 1, 11, 1<<13 + 1<<22 - 1},
	} {
		checkTurn(t, x.was, x.offset, x.gone, x.poll, x.should)
	}
}

// P19.2: the product is rounded down, its shift, the quotient, and its quarter.
func TestTurnRounded(t *testing.T) {
	for _, x := range []struct {
		was, offset, gone int64
		poll              int
		should            int64
	}{
		{0, 65535, second, 4, 0}, {0, 65536, second, 4, 1}, {0, 65536, second - 1, 4, 0}, {0, 131071, second, 4, 1}, {0, -1, second, 4, -1}, {0, -65536, second, 4, -1}, {0, -65537, second, 4, -2}, {0, 1, second / 2, 4, 0}, {0, -1, 1, 4, -1}, {0, -65536, second + 1, 4, -2},
		{0, 0, 4096 * second, 4, 0}, {1, 0, 4096 * second, 4, -1}, {0, -1, 4096 * second, 4, -2}, {4096 * 4, 0, 4096 * second, 4, -1}, {4096*4 + 1, 0, 4096 * second, 4, -2}, {-4096*4 + 1, 0, 4096 * second, 4, 0}, {-4096 * 4, 0, 4096 * second, 4, 1},
	} {
		checkTurn(t, x.was, x.offset, x.gone, x.poll, x.should)
	}
}

// P19.2: what lies between is cut.
func TestTurnCut(t *testing.T) {
	for _, x := range []struct {
		was, offset, gone int64
		poll              int
		should            int64
	}{
		{0, top, second, 4, 1<<47 - 1}, {0, top, 16 * second, 4, 1<<47 - 1}, {0, lowest, 16 * second, 4, -1 << 47}, {0, -top, 16 * second, 4, -1 << 47}, {0, top, lowest, 4, -1 << 47}, {0, lowest, lowest, 4, 1<<47 - 1}, {0, top, lowest, 17, -1 << 21}, {0, top, 1 << 31 * second >> 1, 17, 1<<21 - 1 + 1<<31 - 1},
		{0, top, top, 17, 1<<21 - 1 + 1<<30}, {-top, top, top, 17, 1<<21 - 1 + 1<<30}, {-top, 0, top, 17, 1 << 30}, {lowest, 0, top, 17, 1 << 30}, {top, 0, top, 17, -1 << 30}, {top, lowest, top, 17, -1<<21 - 1<<30}, {top, -top, top, 17, -1<<21 - 1<<30},
		{lowest, lowest, top, 17, -1 << 21}, {top, top, top, 17, 1<<21 - 1},
		{lowest, 0, 4096 * second, 4, 1<<49 - 1}, {top, 0, 4096 * second, 4, -1 << 49}, {-top, top, 4096 * second, 4, 1<<47 - 1 + 1<<49 - 1},
	} {
		checkTurn(t, x.was, x.offset, x.gone, x.poll, x.should)
	}
}

// The chapter's head: a poll exponent counts as 4, if it is below, and as 17, if it is above.
func TestPolls(t *testing.T) {
	rest := Disc{Rest: 3 << 50}
	for _, poll := range []int{lowest, lowest + 1, -1 << 32, -17, -4, -1, 0, 1, 2, 3, 18, 19, 31, 32, 64, 1 << 32, 1<<32 + 6, 1 << 62, math.MaxInt - 3, math.MaxInt} {
		as := 4
		if poll > 4 {
			as = 17
		}
		checkTurn(t, 0, 5*second, 1<<18*second, poll, Turn(plain(), Disc{}, 5*second, 1<<18*second, as))
		d, part := Tick(rest, poll)
		if should, much := Tick(rest, as); d != should || part != much {
			t.Errorf("Tick by %d: %+v, %d", poll, d, part)
		}
		for _, state := range []int{Sync, Spik} {
			should, what, by, e := Update(plain(), full(state), second, 1<<18*second, as)
			checkUpdate(t, plain(), full(state), second, 1<<18*second, poll, should, what, by, e)
		}
	}
	if Turn(plain(), Disc{}, 5*second, 1<<18*second, 4) == Turn(plain(), Disc{}, 5*second, 1<<18*second, 17) {
		t.Error("no exponent counts")
	}
}

// P19.2: nothing else of the discipline counts, nor what was set.
func TestTurnAlone(t *testing.T) {
	for _, p := range []setup.Params{{}, plain(), usual(t), {Step: top, Watch: top, Panic: top, MaxRate: 1}, {MaxRate: lowest}} {
		for state := -1; state <= 5; state++ {
			if is := Turn(p, full(state), 5*second/4, 4096*second, 4); is != 5<<18+1<<18 {
				t.Errorf("%+v, %d: %d", p, state, is)
			}
		}
	}
}

// row is one of what the chapter's table tells: of full(state), and an offset at a raw time.
type row struct {
	state      int
	offset, at int64
	what       int
	should     Disc
}

const (
	// far is an offset above the Step of plain, near one that is not, and is as full has it already.
	far  = 7 * second / 4
	near = second / 4
	// From soon on it is just Watch since full was updated, but for the last bit.
	soon = 356*second - 1
	due  = 356 * second
	late = 612 * second
	// calm is the Jitter behind near: three quarters of a quarter's square are left.
	calm = 1859775393
)

// stepped tells full behind a step.
func stepped(state int, at int64) Disc {
	return Disc{State: state, At: at, Freq: 5000, Jitter: second / 2, Wander: 1 << 20}
}

// taken tells full behind an offset that was taken, whose frequency is that much more.
func taken(state int, at, offset, more, jitter, wander int64) Disc {
	return Disc{State: state, At: at, Offset: offset, Freq: 5000 + more, Jitter: jitter, Wander: wander, Rest: offset}
}

// waited tells full from when on an offset was far.
func waited(at int64) Disc {
	d := full(Spik)
	d.At = at
	return d
}

// rowsOfTimes tells what hangs on no time, and what is too soon.
func rowsOfTimes() []row {
	var l []row
	for _, at := range []int64{0, 100 * second, soon, due, late} {
		l = append(l,
			row{NSet, far, at, Step, stepped(Freq, at)}, row{NSet, near, at, Slew, taken(Freq, at, near, 0, calm, 1<<20)},
			row{FSet, far, at, Step, stepped(Sync, at)}, row{FSet, near, at, Slew, taken(Sync, at, near, 0, calm, 1<<20)},
			row{Freq, far, at, None, waited(at)}, row{Sync, far, at, None, waited(at)},
		)
		if at <= soon {
			l = append(l, row{Freq, near, at, None, full(Freq)}, row{Spik, far, at, None, full(Spik)})
			continue
		}
		l = append(l, row{Spik, far, at, Step, stepped(Sync, at)})
	}
	return l
}

// rowsOfOffsets tells what each offset does to the frequency, and how both wander.
func rowsOfOffsets() []row {
	// The Jitter behind -3/4 of a second, which is one less than what was there: the root of 7/16; and that behind -1, the root of 37/64.
	const loud, loudest = 2840853838, 3265658267
	return []row{
		// A quarter of a second in 256 seconds, or in 512.
		{Freq, near, due, Slew, taken(Sync, due, near, 1<<22, calm, 1<<20)},
		{Freq, near, late, Slew, taken(Sync, late, near, 1<<21, calm, 1<<20)},
		{Freq, -second, due, Slew, taken(Sync, due, -second, -1<<24, loudest, 1<<20)},
		// Over 16 seconds or more a quarter turns by 2^18. Of Wander's 256 a quarter goes, and of 16 one comes: 196.
		{Sync, near, due, Slew, taken(Sync, due, near, 1<<18, calm, 14<<16)},
		{Sync, near, 116 * second, Slew, taken(Sync, 116*second, near, 1<<18, calm, 14<<16)},
		{Spik, near, soon, Slew, taken(Sync, soon, near, 1<<18, calm, 14<<16)},
		{Spik, near, late, Slew, taken(Sync, late, near, 1<<18, calm, 14<<16)},
		// Over no time it turns by nothing: 192 are left; over 8 seconds, by 36: 201.
		{Sync, near, 100 * second, Slew, taken(Sync, 100*second, near, 0, calm, 908093)},
		{Sync, near, 0, Slew, taken(Sync, 0, near, 0, calm, 908093)},
		{Spik, near, 0, Slew, taken(Sync, 0, near, 0, calm, 908093)},
		{Sync, -3 * near, 108 * second, Slew, taken(Sync, 108*second, -3*near, -3<<17, loud, 929133)},
		{Spik, -3 * near, 108 * second, Slew, taken(Sync, 108*second, -3*near, -3<<17, loud, 929133)},
		{NSet, -3 * near, 5, Slew, taken(Freq, 5, -3*near, 0, loud, 1<<20)},
		{FSet, -second, 7, Slew, taken(Sync, 7, -second, 0, loudest, 1<<20)},
		{FSet, -far, 7, Step, stepped(Sync, 7)},
	}
}

// P19.3: each row of the table.
func TestUpdate(t *testing.T) {
	for _, x := range append(rowsOfTimes(), rowsOfOffsets()...) {
		by := int64(0)
		if x.what != None {
			by = x.offset
		}
		checkUpdate(t, plain(), full(x.state), x.offset, x.at, 4, x.should, x.what, by, api.OK)
	}
}

// P19.3: a state that is none of the five counts as NSet, also where an offset is above Panic.
func TestNoState(t *testing.T) {
	for _, state := range stateless() {
		checkUpdate(t, plain(), full(state), far, late, 4, stepped(Freq, late), Step, far, api.OK)
		checkUpdate(t, plain(), full(state), near, late, 4, taken(Freq, late, near, 0, calm, 1<<20), Slew, near, api.OK)
		checkUpdate(t, plain(), full(state), 2000*second, 0, 4, stepped(Freq, 0), Step, 2000*second, api.OK)
		checkUpdate(t, plain(), full(state), lowest, 0, 4, stepped(Freq, 0), Step, lowest, api.OK)
	}
}

// P19.3: an offset is far, if its distance from 0 is above Step.
func TestFar(t *testing.T) {
	for _, x := range []struct {
		step, offset int64
		far          bool
	}{
		{second, second, false}, {second, second + 1, true}, {second, second - 1, false}, {second, -second, false}, {second, -second - 1, true}, {second, -second + 1, false}, {second, 0, false}, {second, top, true}, {second, lowest, true}, {second, -top, true},
		{0, 0, false}, {0, 1, true}, {0, -1, true}, {-1, 0, true}, {-1, second, true}, {lowest, 0, true}, {top, top, false}, {top, -top, false}, {top - 1, top, true}, {top - 1, -top, true}, {top - 1, lowest, true},
	} {
		p := plain()
		p.Step, p.Panic = x.step, top
		for state := NSet; state <= Sync; state++ {
			_, what, by, e := Update(p, full(state), x.offset, late, 4)
			should, much := Slew, x.offset
			if x.far {
				should = Step
			}
			if x.far && (state == Freq || state == Sync) {
				should, much = None, 0
			}
			if what != should || by != much || e != api.OK {
				t.Errorf("%+v, %d: %d, %d, %d, not %d", x, state, what, by, e, should)
			}
		}
	}
}

// P19.3: ErrPanic of what is further from 0 than Panic, but at NSet; the discipline stays, whatever it is.
func TestPanic(t *testing.T) {
	for _, x := range []struct {
		panic, offset int64
		is            bool
	}{
		{1000 * second, 1000 * second, false}, {1000 * second, 1000*second + 1, true}, {1000 * second, -1000 * second, false}, {1000 * second, -1000*second - 1, true}, {1000 * second, top, true}, {1000 * second, -top, true}, {1000 * second, lowest, true},
		{0, 0, false}, {0, 1, true}, {0, -1, true}, {-1, 0, true}, {lowest, 0, true}, {lowest, lowest, true}, {top, top, false}, {top, -top, false}, {top - 1, top, true}, {top - 1, lowest, true},
		// Where Panic is not above Step, what is near is no less a panic.
		{second / 2, second/2 + 1, true}, {second / 2, second / 2, false},
	} {
		p := plain()
		p.Panic = x.panic
		for state := NSet; state <= Sync; state++ {
			for _, at := range []int64{lowest, 0, 100 * second, soon, due, top} {
				if x.is && state != NSet {
					checkUpdate(t, p, full(state), x.offset, at, 4, full(state), None, 0, api.ErrPanic)
					continue
				}
				if _, _, _, e := Update(p, full(state), x.offset, at, 4); e != api.OK {
					t.Errorf("%+v, %d, %d: %d", x, state, at, e)
				}
			}
		}
	}
	wild := Disc{State: Sync, At: lowest, Offset: lowest, Freq: top, Jitter: -5, Wander: lowest, Rest: lowest}
	checkUpdate(t, plain(), wild, top, lowest, lowest, wild, None, 0, api.ErrPanic)
}

// P19.3: what is gone is 0, where time goes back, and is cut.
func TestGone(t *testing.T) {
	for _, x := range []struct {
		was, at, watch int64
		soon           bool
	}{
		{0, 0, 1, true}, {0, 0, 0, false}, {0, 1, 1, false}, {0, 9, 10, true}, {0, 10, 10, false}, {5, 14, 10, true}, {5, 15, 10, false}, {-5, 4, 10, true}, {-5, 5, 10, false}, {7, 6, 1, true}, {7, 6, 0, false}, {7, 6, -1, false}, {7, 0, lowest, false},
		{top, lowest, 1, true}, {top, lowest, 0, false}, {lowest, top, top, false}, {-top, top, top, false}, {lowest, -1, top, false}, {lowest, -2, top, true}, {0, top, top, false}, {0, top - 1, top, true}, {1, top, top, true},
	} {
		p := plain()
		p.Watch = x.watch
		for _, state := range []int{Freq, Spik} {
			d := full(state)
			d.At = x.was
			offset, what := int64(near), Slew
			if state == Spik {
				offset, what = far, Step
			}
			if x.soon {
				checkUpdate(t, p, d, offset, x.at, 4, d, None, 0, api.OK)
				continue
			}
			if is, done, by, e := Update(p, d, offset, x.at, 4); is.At != x.at || is.State != Sync || done != what || by != offset || e != api.OK {
				t.Errorf("%+v, %d: %+v, %d, %d, %d", x, state, is, done, by, e)
			}
		}
	}
}

// P19.3: the frequency that is measured is what was there and the offset by the time that is gone, held.
func TestMeasure(t *testing.T) {
	const rate = 1 << 24
	for _, x := range []struct{ freq, offset, gone, should int64 }{
		{0, second, 256 * second, rate}, {0, -second, 256 * second, -rate}, {1, second, 256 * second, rate}, {-1, second, 256 * second, rate - 1}, {0, second, 256*second - 1, rate}, {0, second, 256*second + 1, rate - 1}, {0, -second, 256*second + 1, -rate}, {0, 0, 256 * second, 0}, {-rate, second, 128 * second, rate}, {-rate, second, 255 * second, 65793}, {rate, -second, 512 * second, rate / 2},
		// Rounded down; of no time it is as much as may be, on the offset's side.
		{0, 1, 2 * second, 0}, {0, -1, 2 * second, -1}, {5, -3, 2 * second, 3}, {5, 3, 2 * second, 6}, {5, 1, 0, rate}, {5, -1, 0, -rate}, {5, 0, 0, 5}, {rate + 9, 0, 0, rate}, {-rate - 9, 0, 0, -rate},
		{top, second, second, rate}, {-top, -second, second, -rate}, {lowest, second, 1 << 10 * second, -rate}, {top, -second, 1, 0}, {-top, second, 1, 0}, {lowest, second, 1, -1},
	} {
		p, d := plain(), full(Freq)
		p.Watch = 0
		d.Freq = x.freq
		is, what, by, e := Update(p, d, x.offset, 100*second+x.gone, 17)
		if is.Freq != x.should || is.Wander != 1<<20 || is.State != Sync || what != Slew || by != x.offset || e != api.OK {
			t.Errorf("%+v: %+v, %d, %d, %d", x, is, what, by, e)
		}
	}
}

// P19.3: the frequency is what was there and its turn, held; what it was turned by, as it is then, tells how it wanders.
func TestTurned(t *testing.T) {
	const rate = 1 << 24
	for _, x := range []struct{ freq, wander, offset, gone, should, wanders int64 }{
		// A quarter of a square has half of its root.
		{0, 0, second, 16 * second, 1 << 20, 1 << 19}, {0, 0, -second, 16 * second, -1 << 20, 1 << 19}, {9, 0, second, 16 * second, 1<<20 + 9, 1 << 19}, {-9, 0, second, 16 * second, 1<<20 - 9, 1 << 19},
		// Held, it was turned by less, or by nothing, or back.
		{rate - 1<<19, 0, second, 16 * second, rate, 1 << 18}, {rate, 0, second, 16 * second, rate, 0}, {-rate + 1<<18, 0, -second, 16 * second, -rate, 1 << 17}, {-rate, 0, -second, 16 * second, -rate, 0}, {rate + 1<<20, 0, second, 16 * second, rate, 1 << 19}, {rate + 1<<22, 0, 0, 0, rate, 1 << 21}, {-rate - 1<<21, 0, -second, 16 * second, -rate, 1 << 20}, {rate, 0, -second, 16 * second, rate - 1<<20, 1 << 19},
		// What was there has three quarters: of 1024 and 256 it is 832, of 256 and 0 it is 192.
		{0, 1 << 21, second, 16 * second, 1 << 20, 1890347}, {0, 1 << 20, second, 16 * second, 1 << 20, 1 << 20}, {0, -1 << 20, -second, 16 * second, -1 << 20, 1 << 20}, {0, 1 << 20, 0, 16 * second, 0, 908093},
		{top, 0, 0, 0, rate, 99516432383215}, {lowest, 0, 0, 0, -rate, 99516432383215}, {lowest, 0, second, 16 * second, -rate, 99516432383215},
		// Behind a long time, what lies between both offsets turns it, too: by a quarter of 3 * 2^18. A quarter of 361 is 90.
		{0, 0, second, 4096 * second, 1<<20 + 3<<16, 621729},
	} {
		for _, state := range []int{Sync, Spik} {
			d := full(state)
			d.Freq, d.Wander = x.freq, x.wander
			is, what, by, e := Update(plain(), d, x.offset, 100*second+x.gone, 4)
			if is.Freq != x.should || is.Wander != x.wanders || is.State != Sync || what != Slew || by != x.offset || e != api.OK {
				t.Errorf("%+v, %d: %+v, %d, %d, %d", x, state, is, what, by, e)
			}
		}
	}
}

// P19.3: both hold a frequency by what was set, also where that is 0, or below it.
func TestHeldByAny(t *testing.T) {
	for _, x := range []struct{ rate, up, down int64 }{
		{0, 0, 0}, {1, 1, -1}, {5000, 5000, -5000}, {6000, 6000, -6000}, {-3, -3, 3}, {top, 5000 + 1<<20, 5000 - 1<<20},
	} {
		p := plain()
		p.MaxRate = x.rate
		for _, state := range []int{Freq, Sync, Spik} {
			// Where 1 << 20 is what a second turns by, it is what 2^12 seconds measure by.
			d, gone := full(state), int64(16*second)
			if state == Freq {
				gone = 4096 * second
			}
			for _, sign := range []int64{1, -1} {
				should := x.up
				if sign < 0 {
					should = x.down
				}
				if is, _, _, e := Update(p, d, sign*second, 100*second+gone, 4); is.Freq != should || e != api.OK {
					t.Errorf("%d, %d, %d: %+v, %d", x.rate, state, sign, is, e)
				}
			}
		}
	}
	// A frequency that is neither measured nor turned is not held.
	p := plain()
	p.MaxRate = 7
	checkUpdate(t, p, full(NSet), far, late, 4, stepped(Freq, late), Step, far, api.OK)
	checkUpdate(t, p, full(FSet), near, late, 4, taken(Sync, late, near, 0, calm, 1<<20), Slew, near, api.OK)
	checkUpdate(t, p, full(Spik), far, late, 4, stepped(Sync, late), Step, far, api.OK)
	checkUpdate(t, p, full(Sync), far, late, 4, waited(late), None, 0, api.OK)
}

// P19.3: an offset is taken, and stepped by, as it is, wherever it lies.
func TestTakenAsItIs(t *testing.T) {
	p := plain()
	p.Step, p.Panic = top, top
	for _, offset := range []int64{lowest, -top, -1, 0, 1, top - 1, top} {
		for _, at := range []int64{lowest, -top, -1, 0, top} {
			for _, state := range []int{NSet, FSet, Sync, Spik} {
				is, what, by, e := Update(p, full(state), offset, at, 4)
				jitter := Smooth(second/2, fix.Sub(offset, second/4))
				if is.At != at || is.Offset != offset || is.Rest != offset || is.Jitter != jitter || what != Slew || by != offset || e != api.OK {
					t.Errorf("%d of %d at %d: %+v, %d, %d, %d", state, offset, at, is, what, by, e)
				}
			}
			checkUpdate(t, setup.Params{Step: -1}, full(NSet), offset, at, 4, stepped(Freq, at), Step, offset, api.OK)
		}
	}
}

// P19.3: nothing counts of what was set but Step, Watch, Panic and MaxRate.
func TestParams(t *testing.T) {
	for _, x := range append(rowsOfTimes(), rowsOfOffsets()...) {
		p := plain()
		p.Phi, p.MaxDist, p.Gate, p.MinPoll, p.MaxPoll, p.Burst, p.MinSane, p.MinLeft = 1, 2, 3, 4, 5, 6, 7, 8
		if is, what, _, e := Update(p, full(x.state), x.offset, x.at, 4); is != x.should || what != x.what || e != api.OK {
			t.Errorf("%+v: %+v, %d, %d", x, is, what, e)
		}
	}
}

// P19.4: a part of what is left is slewed, rounded down; nothing else changes.
func TestTick(t *testing.T) {
	for _, x := range []struct {
		rest       int64
		poll       int
		left, part int64
	}{
		{0, 4, 0, 0}, {256, 4, 255, 1}, {255, 4, 255, 0}, {1, 4, 1, 0}, {511, 4, 510, 1}, {512, 4, 510, 2}, {-1, 4, 0, -1}, {-255, 4, -254, -1}, {-256, 4, -255, -1}, {-257, 4, -255, -2},
		{second, 4, second - 1<<24, 1 << 24}, {-second, 4, 1<<24 - second, -1 << 24}, {second, 6, second - 1<<22, 1 << 22}, {second, 10, second - 1<<18, 1 << 18}, {second, 16, second - 1<<12, 1 << 12}, {second, 17, second - 1<<11, 1 << 11}, {2097151, 17, 2097151, 0}, {2097152, 17, 2097151, 1}, {-1, 17, 0, -1}, {1, 17, 1, 0},
		{top, 4, top - 1<<55 + 1, 1<<55 - 1}, {-top, 4, -top + 1<<55, -1 << 55}, {lowest, 4, lowest + 1<<55, -1 << 55}, {lowest, 17, lowest + 1<<42, -1 << 42}, {top, 17, top - 1<<42 + 1, 1<<42 - 1},
	} {
		for state := -1; state <= 5; state++ {
			d := full(state)
			d.Rest = x.rest
			should := full(state)
			should.Rest = x.left
			for range 2 {
				if is, part := Tick(d, x.poll); is != should || part != x.part {
					t.Errorf("Tick of %d by %d, %d: %+v, %d, not %+v, %d", x.rest, x.poll, state, is, part, should, x.part)
				}
			}
		}
	}
}

// P19.4: what is slewed, and what is left, is what there was; less is left each second, and never on the other side.
func TestTicks(t *testing.T) {
	for _, rest := range []int64{5 * second, -5 * second, second / 8, -second / 8, 1000000, -1000000, 7, -7} {
		d, slewed := Disc{Rest: rest}, int64(0)
		for range 100000 {
			was := d.Rest
			var part int64
			d, part = Tick(d, 4)
			slewed += part
			if slewed+d.Rest != rest || fix.Abs(d.Rest) > fix.Abs(was) || d.Rest != 0 && (d.Rest < 0) != (rest < 0) {
				t.Fatalf("of %d: %+v, %d", rest, d, slewed)
			}
		}
		// A rest above 0 that is less than a part of 1 stays.
		if rest < 0 && d.Rest != 0 || rest > 0 && d.Rest != min(rest, 255) {
			t.Errorf("of %d: %+v", rest, d)
		}
	}
}

// model is what the chapter's words say of numbers of any size.
type model struct{}

// num tells a number of any size.
func (model) num(a int64) *big.Int { return big.NewInt(a) }

// cut tells a number from -Max to Max.
func (m model) cut(a *big.Int) int64 {
	if a.CmpAbs(m.num(top)) > 0 {
		return int64(a.Sign()) * top
	}
	return a.Int64()
}

// add tells a and b.
func (m model) add(a, b int64) int64 { return m.cut(new(big.Int).Add(m.num(a), m.num(b))) }

// sub tells a less b.
func (m model) sub(a, b int64) int64 { return m.cut(new(big.Int).Sub(m.num(a), m.num(b))) }

// mul tells a times b, one of which is a factor; Rsh rounds down.
func (m model) mul(a, b int64) int64 {
	product := new(big.Int).Mul(m.num(a), m.num(b))
	return m.cut(product.Rsh(product, 32))
}

// div tells a by b, which is not below 0: of these Div rounds down.
func (m model) div(a, b int64) int64 {
	if b == 0 {
		return int64(m.num(a).Sign()) * top
	}
	quotient := new(big.Int).Lsh(m.num(a), 32)
	return m.cut(quotient.Div(quotient, m.num(b)))
}

// lower tells a by 2^n.
func (m model) lower(a int64, n int) int64 { return m.cut(new(big.Int).Rsh(m.num(a), uint(n))) }

// root tells the root of a; 0 of what is below 0.
func (m model) root(a int64) int64 {
	square := new(big.Int).Lsh(m.num(max(a, 0)), 32)
	return m.cut(square.Sqrt(square))
}

// away tells how far a is from 0.
func (m model) away(a int64) int64 { return m.cut(new(big.Int).Abs(m.num(a))) }

// hold tells Clamp's answer of a frequency.
func (m model) hold(p setup.Params, freq int64) int64 {
	switch {
	case freq < -p.MaxRate:
		freq = -p.MaxRate
	case freq > p.MaxRate:
		freq = p.MaxRate
	}
	return m.cut(m.num(freq))
}

// exponent tells what a poll exponent counts as.
func (model) exponent(poll int) int {
	switch {
	case poll < 4:
		return 4
	case poll > 17:
		return 17
	}
	return poll
}

// smooth tells Smooth's answer.
func (m model) smooth(old, new int64) int64 {
	return m.root(m.add(m.mul(old, old), m.lower(m.sub(m.mul(new, new), m.mul(old, old)), 2)))
}

// turn tells Turn's answer.
func (m model) turn(d Disc, offset, gone int64, poll int) int64 {
	poll = m.exponent(poll)
	span := int64(second) << poll
	if gone < span {
		span = gone
	}
	told := m.lower(m.mul(offset, span), 2*poll+8)
	if gone > 2048*second {
		told = m.add(told, m.lower(m.div(m.sub(offset, d.Offset), gone), 2))
	}
	return told
}

// answer is all that Update tells.
type answer struct {
	d    Disc
	what int
	by   int64
	e    api.Errno
}

// update tells Update's answer: what is done is found by the table's words.
func (m model) update(p setup.Params, d Disc, offset, at int64, poll int) answer {
	state, gone := d.State, m.sub(at, d.At)
	if state < 0 || state > 4 {
		state = 0
	}
	if state != 0 && m.away(offset) > p.Panic {
		return answer{d, 0, 0, 190}
	}
	if gone < 0 {
		gone = 0
	}
	words := [5][2]string{{"take Freq", "step Freq"}, {"take Sync", "step Sync"}, {"turn Sync", "step Sync"}, {"measure Sync", "wait Spik"}, {"turn Sync", "wait Spik"}}
	place := 0
	if m.away(offset) > p.Step {
		place = 1
	}
	if gone < p.Watch && (state == 2 && place == 1 || state == 3 && place == 0) {
		return answer{d: d}
	}
	return m.do(words[state][place], p, d, offset, at, gone, poll)
}

// do tells what a word of the table does.
func (m model) do(word string, p setup.Params, d Disc, offset, at, gone int64, poll int) answer {
	was := d
	d.At = at
	d.State = map[string]int{"Freq": 3, "Sync": 4, "Spik": 2}[word[len(word)-4:]]
	switch word[:4] {
	case "wait":
		return answer{d: d}
	case "step":
		d.Offset, d.Rest = 0, 0
		return answer{d, 2, offset, 0}
	case "meas":
		d.Freq = m.hold(p, m.add(was.Freq, m.div(offset, gone)))
	case "turn":
		d.Freq = m.hold(p, m.add(was.Freq, m.turn(was, offset, gone, poll)))
		d.Wander = m.smooth(was.Wander, m.sub(d.Freq, was.Freq))
	}
	d.Jitter = m.smooth(was.Jitter, m.sub(offset, was.Offset))
	d.Offset, d.Rest = offset, offset
	return answer{d, 1, offset, 0}
}

// drawing tells how numbers and small ones are drawn: wild ones of any size, tame ones of some seconds.
func drawing(draw func() uint64, wild bool) (number func() int64, small func(n int) int) {
	small = func(n int) int { return int(draw() % uint64(n)) }
	number = func() int64 {
		if !wild {
			return int64(draw()) >> (20 + draw()%20)
		}
		if draw()%8 == 0 {
			edges := []int64{lowest, -top, -2048 * second, -second, -1, 0, 1, second, 2048 * second, 2048*second + 1, top - 1, top}
			return edges[draw()%uint64(len(edges))]
		}
		return int64(draw()) >> (draw() % 64)
	}
	return number, small
}

// P19.1, P19.2 and P19.4: all hold to the chapter's own words, whatever they are given.
func TestModelNumbers(t *testing.T) {
	draw, m := draws(), model{}
	for _, wild := range []bool{false, true} {
		number, small := drawing(draw, wild)
		for range 60000 {
			a, b, c, poll := number(), number(), number(), small(24)-3
			if is, should := Smooth(a, b), m.smooth(a, b); is != should {
				t.Fatalf("Smooth of %d, %d = %d, not %d", a, b, is, should)
			}
			d := Disc{State: small(7) - 1, At: number(), Offset: b, Freq: number(), Jitter: number(), Wander: number(), Rest: c}
			if is, should := Turn(setup.Params{}, d, a, c, poll), m.turn(d, a, c, poll); is != should {
				t.Fatalf("Turn of %d behind %d, %d, %d = %d, not %d", a, b, c, poll, is, should)
			}
			should, much := d, m.lower(c, m.exponent(poll)+4)
			should.Rest = m.sub(c, much)
			if is, part := Tick(d, poll); is != should || part != much {
				t.Fatalf("Tick of %+v by %d = %+v, %d, not %+v, %d", d, poll, is, part, should, much)
			}
			p := setup.Params{MaxRate: number()}
			if is := Start(p, a, true); is != (Disc{State: 1, Freq: m.hold(p, a)}) {
				t.Fatalf("Start of %d within %d = %+v", a, p.MaxRate, is)
			}
		}
	}
}

// P19.3: it holds to the chapter's own words, whatever it is given.
func TestModelUpdate(t *testing.T) {
	draw, m := draws(), model{}
	for _, wild := range []bool{false, true} {
		number, small := drawing(draw, wild)
		var many [6][3]int
		panics := 0
		for range 200000 {
			p := setup.Params{Step: number(), Watch: number(), Panic: number(), MaxRate: number()}
			if small(3) > 0 {
				p.Step, p.Panic = fix.Abs(p.Step), fix.Abs(p.Panic)
			}
			d := Disc{State: small(6), At: number(), Offset: number(), Freq: number(), Jitter: number(), Wander: number(), Rest: number()}
			offset, at, poll := number(), number(), small(24)-3
			is, what, by, e := Update(p, d, offset, at, poll)
			if should := m.update(p, d, offset, at, poll); should != (answer{is, what, by, e}) {
				t.Fatalf("Update of %+v, %+v, %d, %d, %d = %+v, %d, %d, %d, not %+v", p, d, offset, at, poll, is, what, by, e, should)
			}
			if e != api.OK {
				panics++
				continue
			}
			many[d.State][what]++
		}
		if panics < 10000 {
			t.Errorf("wild %v: %d panics", wild, panics)
		}
		for state, done := range many {
			for what, n := range done {
				if never := state <= FSet || state == 5; n < 1000 && !(never && what == None) && !(state >= Freq && state <= Sync && what == Step) {
					t.Errorf("wild %v: %d does %d %d times", wild, state, what, n)
				}
			}
		}
	}
}

// run is a discipline that goes on, and what is to be known of it.
type run struct {
	t  *testing.T
	p  setup.Params
	d  Disc
	at int64
	// alarm is when the first one came of the offsets that were all far since; isSet, whether any was believed yet.
	alarm                  int64
	isAlarm, isSet         bool
	firsts, laters, panics int
}

// come lets an offset come, and looks at what it did.
func (r *run) come(offset int64, poll int) {
	was := r.d
	var what int
	var e api.Errno
	r.d, what, _, e = Update(r.p, r.d, offset, r.at, poll)
	if e == api.ErrPanic {
		if r.panics++; r.d != was || what != None || was.State == NSet {
			r.t.Fatalf("%+v, %d, not %+v", r.d, what, was)
		}
		return
	}
	isFar := fix.Abs(offset) > r.p.Step
	if isFar && !r.isAlarm {
		r.alarm = r.at
	}
	r.isAlarm = isFar
	switch {
	case what == Step && !r.isSet:
		r.firsts++
	case what == Step:
		if r.laters++; !isFar || r.at-r.alarm < r.p.Watch {
			r.t.Fatalf("stepped by %d at %d, though not all are far from %d on for long", offset, r.at, r.alarm)
		}
	}
	if what == Step {
		r.isAlarm = false
	}
	if r.isSet = true; fix.Abs(r.d.Freq) > r.p.MaxRate {
		r.t.Fatalf("%+v", r.d)
	}
}

// P19.5: the clock is stepped when it is set first, else only when all offsets were far for as long as Watch; the frequency stays held, and what nobody believes changes nothing.
func TestRuns(t *testing.T) {
	_, small := drawing(draws(), false)
	firsts, laters, panics := 0, 0, 0
	for range 300 {
		p := usual(t)
		r := run{t: t, p: p, d: Start(p, int64(small(1<<40))-1<<39, small(2) == 0), at: int64(small(second))}
		for range 200 {
			r.at += int64(small(60 * second))
			offset := int64(small(second/4)) - second/8
			// Mostly what comes is as far as what came last.
			if likely := small(8) != 0; likely == (r.d.State == Spik) {
				offset = int64(small(20*second)) + second/4
			}
			if small(40) == 0 {
				offset = (1001 + int64(small(1000))) * second * int64(1-2*small(2))
			}
			r.come(offset, 4+small(14))
		}
		firsts, laters, panics = firsts+r.firsts, laters+r.laters, panics+r.panics
	}
	if firsts < 20 || laters < 100 || panics < 500 {
		t.Errorf("%d first steps, %d later ones, %d panics", firsts, laters, panics)
	}
}
