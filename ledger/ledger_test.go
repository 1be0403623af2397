package ledger

import (
	"math"
	"math/big"
	"slices"
	"testing"

	"analemma/api"
)

const (
	top    = api.Max
	second = api.Second
	least  = math.MinInt64
	end    = 1 << 62
)

// draws hands on numbers of 64 bits, the same ones each time.
func draws() func() uint64 {
	state := uint64(88172645463325252)
	return func() uint64 {
		state ^= state << 13
		state ^= state >> 7
		state ^= state << 17
		return state
	}
}

// checkRead holds Total and Read at raw against what they should be.
func checkRead(t *testing.T, c *Clock, raw, total int64) {
	t.Helper()
	if is, fault := c.Total(raw); is != total || fault != api.OK {
		t.Errorf("Total(%d) = %d, %d, not %d", raw, is, fault, total)
	}
	if is, fault := c.Read(raw); is != raw+total || fault != api.OK {
		t.Errorf("Read(%d) = %d, %d, not %d", raw, is, fault, raw+total)
	}
}

// checkFault holds all that is asked of a clock at raw against one error, beside which nothing else is told.
func checkFault(t *testing.T, c *Clock, raw int64, fault api.Errno) {
	t.Helper()
	for name, call := range map[string]func(int64) (int64, api.Errno){
		"Total": c.Total,
		"Read":  c.Read,
		"Since": func(raw int64) (int64, api.Errno) { return c.Since(raw, -7) },
	} {
		if is, e := call(raw); is != 0 || e != fault {
			t.Errorf("%s(%d) = %d, %d, not 0, %d", name, raw, is, e, fault)
		}
	}
	for _, by := range []int64{0, 3, 1<<50 + 1, least} {
		if e := c.Correct(raw, by, true); e != fault {
			t.Errorf("Correct(%d, %d) = %d, not %d", raw, by, e, fault)
		}
		if e := c.Rate(raw, by); e != fault {
			t.Errorf("Rate(%d, %d) = %d, not %d", raw, by, e, fault)
		}
	}
}

// checkOK holds a call's error against none.
func checkOK(t *testing.T, fault api.Errno) {
	t.Helper()
	if fault != api.OK {
		t.Errorf("error %d", fault)
	}
}

// checkEntries holds a clock's entries against what they should be.
func checkEntries(t *testing.T, c *Clock, l ...Entry) {
	t.Helper()
	if is := c.Entries(); !slices.Equal(is, l) {
		t.Errorf("Entries() = %v, not %v", is, l)
	}
}

// P7.1: a new clock has the rate 0, no corrections, and is last at its raw time, or at the nearest one.
func TestNew(t *testing.T) {
	for raw, at := range map[int64]int64{
		0: 0, 1: 1, second: second, end - 1: end - 1, end: end,
		-1: 0, -second: 0, -top: 0, least: 0, end + 1: end, top: end,
	} {
		c := New(raw)
		checkRead(t, c, at, 0)
		checkRead(t, c, end, 0)
		if at > 0 {
			checkFault(t, c, at-1, api.ErrOld)
			checkFault(t, c, 0, api.ErrOld)
		}
		if c.Speed() != 0 {
			t.Errorf("New(%d) has the rate %d", raw, c.Speed())
		}
		checkEntries(t, c)
	}
}

// P7.1, P7.2, P7.3: of what is no raw time ErrArg is told, ahead of ErrOld and of what else is wrong.
func TestNoRawTime(t *testing.T) {
	for _, last := range []int64{0, 5, end} {
		c := New(last)
		for _, raw := range []int64{-1, -second, -end, -top, least, end + 1, end + second, top} {
			checkFault(t, c, raw, api.ErrArg)
		}
		checkRead(t, c, last, 0)
		checkEntries(t, c)
	}
}

// P7.1: the sum that was there at the last correction, and the rate by what is gone since, rounded down.
func TestTotal(t *testing.T) {
	for _, x := range []struct{ rate, gone, total int64 }{
		{0, 0, 0}, {0, end - 9, 0},
		{second / 4, 0, 0}, {second / 4, 3, 0}, {second / 4, 4, 1}, {second / 4, second, second / 4}, {second / 4, 3 * second, 3 * second / 4},
		{-second / 4, 0, 0}, {-second / 4, 1, -1}, {-second / 4, 4, -1}, {-second / 4, 5, -2}, {-second / 4, second, -second / 4},
		{1, second - 1, 0}, {1, second, 1}, {1, 2*second - 1, 1}, {-1, 1, -1}, {-1, second, -1}, {-1, second + 1, -2},
		{second / 2, end - 9, end/2 - 5}, {-second / 2, end - 9, -end/2 + 4}, {1, end - 9, end/second - 1},
	} {
		c := New(9)
		checkOK(t, c.Rate(9, x.rate))
		checkRead(t, c, 9+x.gone, x.total)
		d := New(0)
		checkOK(t, d.Correct(2, 1000, false))
		checkOK(t, d.Rate(9, x.rate))
		checkRead(t, d, 9+x.gone, 1000+x.total)
		e := New(0)
		checkOK(t, e.Rate(9, x.rate))
		checkOK(t, e.Correct(9, -1000, true))
		checkRead(t, e, 9+x.gone, x.total-1000)
	}
}

// P7.1: what is read changes nothing: neither the last raw time, nor what is read ahead of it, nor what is corrected.
func TestReadingChangesNothing(t *testing.T) {
	c := New(3)
	checkOK(t, c.Rate(3, second/4))
	checkOK(t, c.Correct(4, 50, true))
	for _, raw := range []int64{end, 5, 1000, 4, end, 4, 5} {
		checkRead(t, c, raw, 50+(raw-4)/4)
		c.Since(raw, 12)
		c.Total(-1)
		c.Read(3)
		c.Since(0, 0)
		c.Entries()
		c.Speed()
	}
	checkEntries(t, c, Entry{4, 50, true})
}

// P7.1, P7.2, R2: ahead of the last correction nothing is told or corrected; at it and behind it all is.
func TestOld(t *testing.T) {
	for _, correct := range []func(*Clock) api.Errno{
		func(c *Clock) api.Errno { return c.Correct(100, 8, false) },
		func(c *Clock) api.Errno { return c.Correct(100, 0, true) },
		func(c *Clock) api.Errno { return c.Rate(100, 2) },
		func(c *Clock) api.Errno { return c.Rate(100, 0) },
	} {
		c := New(10)
		checkOK(t, correct(c))
		total, _ := c.Total(100)
		speed, entries := c.Speed(), c.Entries()
		for _, raw := range []int64{0, 9, 10, 99} {
			checkFault(t, c, raw, api.ErrOld)
		}
		checkRead(t, c, 100, total)
		if c.Speed() != speed {
			t.Errorf("the rate is %d, not %d", c.Speed(), speed)
		}
		checkEntries(t, c, entries...)
		checkOK(t, c.Correct(100, 1, false))
		checkOK(t, c.Rate(100, 3))
		checkRead(t, c, 100, total+1)
	}
}

// P7.2: the chapter's example.
func TestExample(t *testing.T) {
	c := New(0)
	checkOK(t, c.Rate(0, second/4))
	checkOK(t, c.Correct(second, 7, false))
	checkRead(t, c, 2*second, second/2+7)
	checkEntries(t, c, Entry{second, 7, false})
}

// P7.2: a correction is put to the sum so far, the rate stays, and its entry is behind all others.
func TestCorrect(t *testing.T) {
	c := New(0)
	checkOK(t, c.Correct(0, 5, true))
	checkRead(t, c, 0, 5)
	checkRead(t, c, end, 5)
	checkOK(t, c.Rate(10*second, second/8))
	checkOK(t, c.Correct(18*second, -9, false))
	if c.Speed() != second/8 {
		t.Errorf("the rate is %d", c.Speed())
	}
	checkRead(t, c, 18*second, second-4)
	checkRead(t, c, 26*second, 2*second-4)
	checkOK(t, c.Correct(18*second, 0, true))
	checkOK(t, c.Correct(18*second, 1, false))
	checkRead(t, c, 34*second, 3*second-3)
	checkEntries(t, c, Entry{0, 5, true}, Entry{18 * second, -9, false}, Entry{18 * second, 0, true}, Entry{18 * second, 1, false})
}

// P7.2: what each piece comes to is rounded by itself.
func TestPiecesAreRounded(t *testing.T) {
	c := New(0)
	checkOK(t, c.Rate(0, second/2))
	checkRead(t, c, 2, 1)
	checkOK(t, c.Correct(1, 0, false))
	checkRead(t, c, 2, 0)
	checkRead(t, c, 3, 1)
	checkOK(t, c.Rate(2, -second/2))
	checkRead(t, c, 3, -1)
	checkOK(t, c.Rate(3, -second/2))
	checkRead(t, c, 4, -2)
}

// P7.2: corrections are from -2^50 to 2^50; others change nothing.
func TestCorrectBounds(t *testing.T) {
	for _, by := range []int64{1<<50 + 1, 1 << 51, end, top, -1<<50 - 1, -end, -top, least} {
		c := New(1)
		checkOK(t, c.Rate(1, second/2))
		if e := c.Correct(9, by, true); e != api.ErrArg {
			t.Errorf("Correct(9, %d) = %d", by, e)
		}
		checkRead(t, c, 1, 0)
		checkRead(t, c, 9, 4)
		checkEntries(t, c)
	}
	for _, by := range []int64{0, 1, -1, 1<<50 - 1, 1 << 50, -1<<50 + 1, -1 << 50} {
		for _, step := range []bool{false, true} {
			c := New(1)
			checkOK(t, c.Correct(end, by, step))
			checkRead(t, c, end, by)
			checkFault(t, c, end-1, api.ErrOld)
			checkEntries(t, c, Entry{end, by, step})
		}
	}
}

// P7.2: of entries there are MaxPast at most; then ErrFull is behind all other errors, and the rate may still be another one.
func TestCorrectFull(t *testing.T) {
	c := New(0)
	var l []Entry
	for n := range int64(api.MaxPast) {
		checkOK(t, c.Correct(n/2, n, n%3 == 0))
		l = append(l, Entry{n / 2, n, n%3 == 0})
	}
	checkEntries(t, c, l...)
	total := int64(api.MaxPast * (api.MaxPast - 1) / 2)
	for range 3 {
		if e := c.Correct(600, 1, false); e != api.ErrFull {
			t.Errorf("Correct behind MaxPast entries = %d", e)
		}
		if e := c.Correct(600, 1<<50+1, false); e != api.ErrArg {
			t.Errorf("Correct by too much behind MaxPast entries = %d", e)
		}
		checkFault(t, c, 498, api.ErrOld)
		checkFault(t, c, -1, api.ErrArg)
		checkRead(t, c, 499, total)
		checkEntries(t, c, l...)
	}
	checkOK(t, c.Rate(700, second/2))
	checkRead(t, c, 702, total+1)
	checkEntries(t, c, l...)
}

// P7.2: as many other rates as are asked for leave no entries.
func TestRateIsNoEntry(t *testing.T) {
	c := New(0)
	for n := range int64(3 * api.MaxPast) {
		checkOK(t, c.Rate(n*second, n%2*second/2))
	}
	checkEntries(t, c)
	checkRead(t, c, 3*api.MaxPast*second, 3*api.MaxPast/2*second/2)
}

// P7.2: rates are from -2^31 to 2^31; others change nothing.
func TestRateBounds(t *testing.T) {
	for _, rate := range []int64{1<<31 + 1, second, end, top, -1<<31 - 1, -second, -end, -top, least} {
		c := New(1)
		checkOK(t, c.Rate(1, 77))
		if e := c.Rate(9, rate); e != api.ErrArg {
			t.Errorf("Rate(9, %d) = %d", rate, e)
		}
		checkRead(t, c, 1, 0)
		checkRead(t, c, 1+second, 77)
		if c.Speed() != 77 {
			t.Errorf("the rate is %d, not 77", c.Speed())
		}
	}
	for _, rate := range []int64{0, 1, -1, 1<<31 - 1, 1 << 31, -1<<31 + 1, -1 << 31} {
		c := New(1)
		checkOK(t, c.Rate(1, second/2))
		checkOK(t, c.Rate(1+4*second, rate))
		if c.Speed() != rate {
			t.Errorf("the rate is %d, not %d", c.Speed(), rate)
		}
		checkFault(t, c, 4*second, api.ErrOld)
		checkRead(t, c, 1+4*second, 2*second)
		checkRead(t, c, 1+5*second, 2*second+rate)
		checkEntries(t, c)
	}
}

// P7.3: the sum, less another one; the difference is cut.
func TestSince(t *testing.T) {
	c := New(0)
	checkOK(t, c.Rate(0, second/2))
	checkOK(t, c.Correct(second, 100, true))
	for _, x := range []struct{ raw, total, is int64 }{
		{second, 0, second/2 + 100},
		{second, second / 2, 100},
		{second, second/2 + 100, 0},
		{3 * second, second/2 + 100, second},
		{3 * second, 2 * second, 100 - second/2},
		{second, top, second/2 + 100 - top},
		{second, -top, top},
		{second, least, top},
		{end, least, top},
		{end, top, end/2 + 100 - top},
	} {
		if is, fault := c.Since(x.raw, x.total); is != x.is || fault != api.OK {
			t.Errorf("Since(%d, %d) = %d, %d, not %d", x.raw, x.total, is, fault, x.is)
		}
	}
	d := New(0)
	checkOK(t, d.Correct(0, -1<<50, true))
	for total, is := range map[int64]int64{top: -top, top - 1<<50: -top, top - 1<<50 - 1: -top + 1, least: top - 1<<50 + 1} {
		if since, fault := d.Since(0, total); since != is || fault != api.OK {
			t.Errorf("Since(0, %d) = %d, %d, not %d", total, since, fault, is)
		}
	}
}

// P7.3: what was corrected since a total was read is all that came behind it.
func TestSinceTotal(t *testing.T) {
	c := New(0)
	checkOK(t, c.Rate(0, 1<<20))
	total, _ := c.Total(5 * second)
	checkOK(t, c.Correct(6*second, 31, true))
	checkOK(t, c.Correct(7*second, -1, false))
	checkOK(t, c.Rate(8*second, 0))
	if is, fault := c.Since(9*second, total); is != 30+3<<20 || fault != api.OK {
		t.Errorf("Since = %d, %d, not %d", is, fault, 30+3<<20)
	}
}

// model is a clock as the chapter tells it, by whole numbers of any length.
type model struct {
	last, rate int64
	sum        *big.Int
	entries    []Entry
}

// total tells the sum of corrections at raw.
func (m *model) total(raw int64) *big.Int {
	n := new(big.Int).Mul(big.NewInt(m.rate), big.NewInt(raw-m.last))
	return n.Add(n.Div(n, big.NewInt(second)), m.sum)
}

// fault tells the error of raw.
func (m *model) fault(raw int64) api.Errno {
	if raw < 0 || raw > end {
		return api.ErrArg
	}
	if raw < m.last {
		return api.ErrOld
	}
	return api.OK
}

// correct tells what Correct should, and does it.
func (m *model) correct(raw, by int64, step bool) api.Errno {
	if e := m.fault(raw); e != api.OK {
		return e
	}
	if by < -1<<50 || by > 1<<50 {
		return api.ErrArg
	}
	if len(m.entries) == 1000 {
		return api.ErrFull
	}
	m.sum = new(big.Int).Add(m.total(raw), big.NewInt(by))
	m.last = raw
	m.entries = append(m.entries, Entry{raw, by, step})
	return api.OK
}

// turn tells what Rate should, and does it.
func (m *model) turn(raw, rate int64) api.Errno {
	if e := m.fault(raw); e != api.OK {
		return e
	}
	if rate < -1<<31 || rate > 1<<31 {
		return api.ErrArg
	}
	m.sum = m.total(raw)
	m.last, m.rate = raw, rate
	return api.OK
}

// checkModel holds a clock at raw against its model.
func checkModel(t *testing.T, c *Clock, m *model, raw, since int64) {
	t.Helper()
	e := m.fault(raw)
	if e != api.OK {
		for _, call := range []func(int64) (int64, api.Errno){c.Total, c.Read} {
			if is, fault := call(raw); is != 0 || fault != e {
				t.Fatalf("at %d: %d, %d, not 0, %d", raw, is, fault, e)
			}
		}
		return
	}
	total := m.total(raw)
	checkRead(t, c, raw, total.Int64())
	gap := new(big.Int).Sub(total, big.NewInt(since))
	if is, fault := c.Since(raw, since); is != cutOf(gap) || fault != api.OK {
		t.Fatalf("Since(%d, %d) = %d, %d, not %d", raw, since, is, fault, gap)
	}
	if c.Speed() != m.rate {
		t.Fatalf("the rate is %d, not %d", c.Speed(), m.rate)
	}
}

// cutOf cuts a whole number of any length.
func cutOf(n *big.Int) int64 {
	if n.Cmp(big.NewInt(top)) > 0 {
		return top
	}
	if n.Cmp(big.NewInt(-top)) < 0 {
		return -top
	}
	return n.Int64()
}

// P7.1 to P7.3: clocks that are corrected as it comes are what the chapter says.
func TestAgainstModel(t *testing.T) {
	draw := draws()
	number := func() int64 { return int64(draw()) >> (draw() % 64) }
	for run := range 60 {
		start := number() & (end - 1) >> (run % 50)
		c, m := New(start), &model{last: start, sum: new(big.Int)}
		for range 1200 {
			raw := m.last + number()>>(12+run%40)
			switch draw() % 8 {
			case 0:
				raw = number()
			case 1, 2, 3, 4:
				by, step := number(), draw()%2 == 0
				if draw()%8 != 0 {
					by >>= 13
				}
				if is, should := c.Correct(raw, by, step), m.correct(raw, by, step); is != should {
					t.Fatalf("Correct(%d, %d) behind %d, %d entries = %d, not %d", raw, by, m.last, len(m.entries), is, should)
				}
			case 5, 6:
				rate := number()
				if draw()%8 != 0 {
					rate >>= 32
				}
				if is, should := c.Rate(raw, rate), m.turn(raw, rate); is != should {
					t.Fatalf("Rate(%d, %d) behind %d = %d, not %d", raw, rate, m.last, is, should)
				}
			}
			checkModel(t, c, m, raw, number())
		}
		checkEntries(t, c, m.entries...)
		if t.Failed() {
			return
		}
	}
}

// P7.1: as far as all corrections and rates may go, nothing is cut.
func TestFurthest(t *testing.T) {
	for _, sign := range []int64{1, -1} {
		c := New(0)
		checkOK(t, c.Rate(0, sign<<31))
		for range api.MaxPast {
			checkOK(t, c.Correct(0, sign<<50, false))
		}
		checkRead(t, c, end, sign*(end/2+api.MaxPast<<50))
	}
}

// P7.4: between corrections no clock goes back, whatever its rate is.
func TestNeverBack(t *testing.T) {
	draw := draws()
	for _, rate := range []int64{0, 1, -1, second / 3, -second / 3, second / 2, -second / 2, -second/2 + 1, 1 << 20, -1 << 20} {
		for _, from := range []int64{0, 12345, 1 << 40, end - 1<<20} {
			c := New(from)
			checkOK(t, c.Rate(from, rate))
			checkOK(t, c.Correct(from+1, -1<<50, true))
			raw := from + 1
			before, _ := c.Read(raw)
			for range 3000 {
				raw += int64(draw() % 3)
				now, fault := c.Read(raw)
				if now < before || fault != api.OK {
					t.Fatalf("by the rate %d: %d behind %d, %d", rate, now, before, fault)
				}
				before = now
			}
		}
	}
}

// P7.4: what is read twice is the same, whatever is read between, and of whatever clock.
func TestSameAgain(t *testing.T) {
	draw := draws()
	c, other := New(0), New(0)
	for range 500 {
		last := int64(draw() >> 20)
		checkOK(t, other.Rate(0, int64(draw()%second)-second/2))
		raw := last + int64(draw()>>3)
		total, fault := c.Total(raw)
		read, again := c.Read(raw)
		since, third := c.Since(raw, last)
		c.Total(int64(draw()))
		c.Read(last)
		c.Since(last, raw)
		other.Read(raw)
		if is, e := c.Total(raw); is != total || e != fault {
			t.Fatalf("Total(%d) = %d, and then %d", raw, total, is)
		}
		if is, e := c.Read(raw); is != read || e != again {
			t.Fatalf("Read(%d) = %d, and then %d", raw, read, is)
		}
		if is, e := c.Since(raw, last); is != since || e != third {
			t.Fatalf("Since(%d, %d) = %d, and then %d", raw, last, since, is)
		}
		c.Rate(last, int64(draw()%second)-second/2)
	}
}

// R3: the lists that are told are new memory each time: nothing that is done to one is seen in another, or in the clock.
func TestEntriesAreTheirOwn(t *testing.T) {
	c := New(0)
	var l []Entry
	for n := range int64(40) {
		before := c.Entries()
		checkOK(t, c.Correct(n, 2*n, n%2 == 0))
		l = append(l, Entry{n, 2 * n, n%2 == 0})
		if !slices.Equal(before, l[:n]) {
			t.Fatalf("what was told is %v then", before)
		}
		told, again := c.Entries(), c.Entries()
		told[n] = Entry{-1, -1, false}
		_ = append(told[:n], Entry{-2, -2, true})
		_ = append(again, Entry{-3, -3, true})
		if !slices.Equal(again, l) {
			t.Fatalf("what was told is %v then", again)
		}
		checkEntries(t, c, l...)
	}
}

// R5: what is done to a clock is not seen in another one, be it a copy.
func TestClocksAreTheirOwn(t *testing.T) {
	c, other := New(0), New(0)
	for n := range int64(40) {
		checkOK(t, c.Correct(n, 1, false))
		twin := *c
		checkOK(t, c.Correct(n, 2, false))
		checkOK(t, twin.Correct(n, 3, true))
		checkRead(t, c, n, 3*n+3)
		checkRead(t, &twin, n, 3*n+4)
		if l := c.Entries(); l[2*n+1] != (Entry{n, 2, false}) {
			t.Fatalf("the copy's entry stands in the clock: %v", l)
		}
		checkOK(t, twin.Rate(n, 1))
	}
	if c.Speed() != 0 {
		t.Errorf("the copies' rate is the clock's: %d", c.Speed())
	}
	checkRead(t, other, 0, 0)
	checkEntries(t, other)
}

// R1: a clock that nobody made is one of the raw time 0; one that is none has no raw times, and no call of it panics.
func TestNobodyMadeIt(t *testing.T) {
	var c Clock
	checkRead(t, &c, 5, 0)
	checkOK(t, c.Rate(6, second/2))
	checkOK(t, c.Correct(8, 1, true))
	checkRead(t, &c, 10, 3)
	checkEntries(t, &c, Entry{8, 1, true})
	var none *Clock
	for _, raw := range []int64{0, 1, end, -1, least} {
		checkFault(t, none, raw, api.ErrArg)
	}
	if none.Speed() != 0 || len(none.Entries()) != 0 {
		t.Error("no clock has a rate or entries")
	}
}
