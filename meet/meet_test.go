package meet

import (
	"math"
	"slices"
	"testing"

	"analemma/api"
)

const (
	top    = math.MaxInt64
	lowest = math.MinInt64
)

// draws hands on numbers of 64 bits, the same ones each time.
func draws() func() uint64 {
	state := uint64(88172645463325252)
	return func() uint64 {
		state ^= state << 13
		state ^= state >> 7
		state ^= state << 17
		return state
	}
}

// checkKept holds a list, and what lies behind its end, against what they were.
func checkKept(t *testing.T, is, was []Cand) {
	t.Helper()
	if !slices.Equal(is, was) {
		t.Fatalf("%v was made of %v", is, was)
	}
}

// checkMeet holds Meet against what it should tell.
func checkMeet(t *testing.T, l []Cand, should api.Span, allow int, told bool) {
	t.Helper()
	if is, many, ok := Meet(l); is != should || many != allow || ok != told {
		t.Errorf("Meet of %v = %v, %d, %v, not %v, %d, %v", l, is, many, ok, should, allow, told)
	}
}

// checkNoMeet holds Meet against nothing.
func checkNoMeet(t *testing.T, l []Cand) {
	t.Helper()
	checkMeet(t, l, api.Span{}, 0, false)
}

// checkMajor holds Major against what it should tell.
func checkMajor(t *testing.T, l []Cand, should api.Span, told bool) {
	t.Helper()
	if is, ok := Major(l); is != should || ok != told {
		t.Errorf("Major of %v = %v, %v, not %v, %v", l, is, ok, should, told)
	}
}

// checkSelect holds Select against what it should tell.
func checkSelect(t *testing.T, l []Cand, should api.Span, told bool, places ...int) {
	t.Helper()
	is, at, ok := Select(l)
	if is != should || ok != told || !slices.Equal(at, places) {
		t.Errorf("Select of %v = %v, %v, %v, not %v, %v, %v", l, is, at, ok, should, places, told)
	}
	if !ok && at != nil {
		t.Errorf("Select of %v tells places and nothing else: %v", l, at)
	}
}

// P16.1: OK of candidates whose numbers stand in their order, of which there may be none.
func TestCheck(t *testing.T) {
	ten := slices.Repeat([]Cand{{1, 2, 3}}, api.MaxPeer)
	for _, l := range [][]Cand{nil, {}, {{}}, {{0, 1, 2}}, {{1, 1, 2}}, {{1, 2, 2}}, {{2, 2, 2}}, {{-3, -2, -1}}, {{lowest, 0, top}}, {{lowest, lowest, lowest}}, {{top, top, top}}, {{lowest, lowest, top}}, {{lowest, top, top}}, {{5, 6, 7}, {0, 1, 2}, {5, 6, 7}}, ten[:9], ten} {
		if e := Check(l); e != api.OK {
			t.Errorf("Check of %v = %d", l, e)
		}
	}
}

// P16.1: ErrArg of a candidate whose numbers are out of order, wherever it stands.
func TestCheckOrder(t *testing.T) {
	for _, wrong := range []Cand{{1, 0, 1}, {1, 0, 2}, {0, 2, 1}, {0, 1, 0}, {2, 1, 0}, {1, 1, 0}, {1, 0, 0}, {-1, -2, -1}, {top, lowest, top}, {lowest, top, lowest}, {top, 0, lowest}, {lowest + 1, lowest, lowest + 1}, {top - 1, top, top - 1}, {lowest + 1, lowest, top}, {lowest, top, top - 1}} {
		for many := 1; many <= api.MaxPeer; many++ {
			for place := range many {
				l := slices.Repeat([]Cand{{1, 2, 3}}, many)
				l[place] = wrong
				if e := Check(l); e != api.ErrArg {
					t.Errorf("Check of %v = %d", l, e)
				}
				if e := Check(l[:place]); e != api.OK {
					t.Errorf("Check of %v, behind which one is wrong, = %d", l[:place], e)
				}
			}
		}
	}
}

// P16.1: ErrArg of more than MaxPeer, whatever they are.
func TestCheckMany(t *testing.T) {
	for _, many := range []int{api.MaxPeer + 1, api.MaxPeer + 2, 20, 700} {
		for _, c := range []Cand{{}, {1, 2, 3}, {3, 2, 1}} {
			l := slices.Repeat([]Cand{c}, many)
			if e := Check(l); e != api.ErrArg {
				t.Errorf("Check of %d times %v = %d", many, c, e)
			}
		}
	}
}

// P16.1: a number lies in a span, both ends with it.
func TestDepth(t *testing.T) {
	l := []Cand{{0, 1, 5}, {3, 9, 9}, {5, 5, 5}, {-4, -4, 0}, {lowest, 0, -7}, {20, 20, top}, {5, 6, 7}}
	for _, x := range []struct {
		at   int64
		many int
	}{{lowest, 1}, {-8, 1}, {-7, 1}, {-6, 0}, {-5, 0}, {-4, 1}, {-1, 1}, {0, 2}, {1, 1}, {2, 1}, {3, 2}, {4, 2}, {5, 4}, {6, 2}, {7, 2}, {8, 1}, {9, 1}, {10, 0}, {19, 0}, {20, 1}, {21, 1}, {top, 1}} {
		if is := Depth(l, x.at); is != x.many {
			t.Errorf("Depth at %d = %d, not %d", x.at, is, x.many)
		}
	}
	for _, at := range []int64{lowest, -1, 0, 1, top} {
		if is := Depth(nil, at); is != 0 {
			t.Errorf("Depth of none at %d = %d", at, is)
		}
		if is := Depth(slices.Repeat([]Cand{{lowest, 0, top}}, 10), at); is != 10 {
			t.Errorf("Depth of ten at %d = %d", at, is)
		}
	}
}

// P16.2: the chapter's example, in any order.
func TestMeetExample(t *testing.T) {
	a, b, c := Cand{0, 1, 2}, Cand{1, 2, 3}, Cand{10, 11, 12}
	for _, l := range [][]Cand{{a, b, c}, {a, c, b}, {b, a, c}, {b, c, a}, {c, a, b}, {c, b, a}} {
		checkMeet(t, l, api.Span{Low: 1, High: 2}, 1, true)
	}
}

// P16.2: where all spans meet, and each Mid lies there, nobody is allowed for.
func TestMeetAll(t *testing.T) {
	checkMeet(t, []Cand{{0, 1, 2}}, api.Span{Low: 0, High: 2}, 0, true)
	checkMeet(t, []Cand{{5, 5, 5}}, api.Span{Low: 5, High: 5}, 0, true)
	checkMeet(t, []Cand{{}}, api.Span{}, 0, true)
	checkMeet(t, []Cand{{lowest, 0, top}}, api.Span{Low: lowest, High: top}, 0, true)
	checkMeet(t, []Cand{{0, 4, 10}, {3, 5, 8}}, api.Span{Low: 3, High: 8}, 0, true)
	checkMeet(t, []Cand{{0, 3, 10}, {3, 8, 8}}, api.Span{Low: 3, High: 8}, 0, true)
	checkMeet(t, []Cand{{0, 5, 5}, {5, 5, 9}}, api.Span{Low: 5, High: 5}, 0, true)
	checkMeet(t, []Cand{{0, 4, 9}, {1, 4, 8}, {2, 4, 7}, {3, 4, 6}}, api.Span{Low: 3, High: 6}, 0, true)
	checkMeet(t, []Cand{{lowest, -1, top}, {lowest, lowest, top}, {lowest, top, top}}, api.Span{Low: lowest, High: top}, 0, true)
	checkMeet(t, []Cand{{lowest, lowest, lowest}, {lowest, lowest, 0}}, api.Span{Low: lowest, High: lowest}, 0, true)
	checkMeet(t, []Cand{{top, top, top}, {0, top, top}}, api.Span{Low: top, High: top}, 0, true)
	for many := 1; many <= api.MaxPeer; many++ {
		checkMeet(t, slices.Repeat([]Cand{{7, 7, 7}}, many), api.Span{Low: 7, High: 7}, 0, true)
		checkMeet(t, slices.Repeat([]Cand{{6, 7, 9}}, many), api.Span{Low: 6, High: 9}, 0, true)
	}
}

// P16.2: as many as are allowed for may be elsewhere, as long as they are fewer than half.
func TestMeetMost(t *testing.T) {
	for many := 1; many <= api.MaxPeer; many++ {
		for others := 0; others <= many; others++ {
			l := slices.Repeat([]Cand{{0, 1, 2}}, many-others)
			for n := range others {
				away := int64(10 * (n + 1))
				l = append([]Cand{{away, away, away}}, l...)
			}
			switch {
			case 2*others < many:
				checkMeet(t, l, api.Span{Low: 0, High: 2}, others, true)
			case many == 1:
				checkMeet(t, l, api.Span{Low: 10, High: 10}, 0, true)
			default:
				checkNoMeet(t, l)
			}
		}
	}
	// A half is not enough.
	checkNoMeet(t, []Cand{{0, 1, 2}, {0, 1, 2}, {5, 6, 7}, {5, 6, 7}})
	checkNoMeet(t, []Cand{{0, 1, 2}, {5, 6, 7}})
	checkNoMeet(t, []Cand{{0, 1, 2}, {3, 4, 5}, {6, 7, 8}})
	checkNoMeet(t, nil)
	checkNoMeet(t, []Cand{})
	checkMeet(t, []Cand{{0, 1, 2}, {1, 2, 3}, {0, 2, 4}, {10, 11, 12}}, api.Span{Low: 1, High: 2}, 1, true)
	checkMeet(t, []Cand{{0, 1, 2}, {0, 1, 2}, {1, 1, 3}, {8, 8, 8}, {9, 9, 9}}, api.Span{Low: 1, High: 2}, 2, true)
	// Between both ends fewer may meet.
	checkMeet(t, []Cand{{0, 1, 2}, {1, 1, 9}, {8, 9, 9}}, api.Span{Low: 1, High: 9}, 1, true)
	checkMeet(t, []Cand{{0, 1, 2}, {1, 5, 9}, {8, 9, 10}}, api.Span{Low: 1, High: 9}, 1, true)
}

// P16.2: Mids that lie outside are counted at both sides, and added; as many as are allowed for may lie there.
func TestMeetMids(t *testing.T) {
	// One lies below, and one above.
	checkNoMeet(t, []Cand{{0, 1, 10}, {3, 5, 8}})
	checkNoMeet(t, []Cand{{0, 9, 10}, {3, 5, 8}})
	checkNoMeet(t, []Cand{{0, 2, 10}, {3, 5, 8}})
	checkNoMeet(t, []Cand{{0, 0, 5}, {5, 9, 9}})
	checkNoMeet(t, []Cand{{0, 4, 5}, {5, 5, 9}})
	checkNoMeet(t, []Cand{{0, 5, 5}, {5, 6, 9}})
	// With three of them one is allowed for, and more meet then.
	checkMeet(t, []Cand{{0, 1, 10}, {3, 5, 8}, {4, 5, 9}}, api.Span{Low: 3, High: 9}, 1, true)
	checkMeet(t, []Cand{{0, 9, 10}, {3, 5, 8}, {4, 5, 7}}, api.Span{Low: 3, High: 8}, 1, true)
	// Each side has one, which is two.
	checkNoMeet(t, []Cand{{0, 0, 6}, {4, 9, 9}, {4, 5, 6}})
	checkMeet(t, []Cand{{0, 0, 6}, {4, 9, 9}, {4, 5, 6}, {4, 5, 6}, {5, 5, 5}}, api.Span{Low: 4, High: 6}, 2, true)
	// Two lie below, or above, of five.
	checkMeet(t, []Cand{{0, 0, 6}, {0, 1, 6}, {4, 5, 6}, {4, 5, 6}, {5, 5, 5}}, api.Span{Low: 4, High: 6}, 2, true)
	checkMeet(t, []Cand{{4, 7, 7}, {4, 8, 8}, {4, 5, 6}, {4, 5, 6}, {5, 5, 5}}, api.Span{Low: 4, High: 6}, 2, true)
	// What was gone by for fewer who are allowed for is not counted again.
	checkMeet(t, []Cand{{0, 3, 20}, {4, 6, 20}, {5, 7, 20}, {6, 8, 9}, {6, 8, 9}}, api.Span{Low: 6, High: 9}, 1, true)
	checkMeet(t, []Cand{{-20, -3, 0}, {-20, -6, -4}, {-20, -7, -5}, {-9, -8, -6}, {-9, -8, -6}}, api.Span{Low: -9, High: -6}, 1, true)
}

// P16.2: of the same number Lows stand ahead of Mids, and these ahead of Highs.
func TestMeetSame(t *testing.T) {
	// The Low of one is the High of another one: both meet.
	checkMeet(t, []Cand{{0, 3, 3}, {3, 3, 9}, {3, 3, 3}}, api.Span{Low: 3, High: 3}, 0, true)
	checkMeet(t, []Cand{{3, 3, 9}, {0, 3, 3}}, api.Span{Low: 3, High: 3}, 0, true)
	// A Mid that has the number itself is not gone by.
	checkMeet(t, []Cand{{0, 3, 9}, {3, 5, 9}}, api.Span{Low: 3, High: 9}, 0, true)
	checkMeet(t, []Cand{{0, 6, 9}, {0, 5, 6}}, api.Span{Low: 0, High: 6}, 0, true)
	checkNoMeet(t, []Cand{{0, 2, 9}, {3, 5, 9}})
	checkNoMeet(t, []Cand{{0, 7, 9}, {0, 5, 6}})
	// Of many Lows of the same number no Mid is gone by either; on the way down the Mid at 4 is, till one is allowed for.
	checkMeet(t, []Cand{{3, 3, 3}, {3, 3, 4}, {3, 3, 4}, {2, 3, 4}}, api.Span{Low: 3, High: 3}, 0, true)
	checkMeet(t, []Cand{{3, 3, 3}, {3, 3, 4}, {3, 4, 4}, {2, 3, 4}}, api.Span{Low: 3, High: 4}, 1, true)
	checkMeet(t, []Cand{{1, 1, 1}, {1, 1, 1}, {1, 1, 1}, {2, 2, 2}, {2, 2, 2}}, api.Span{Low: 1, High: 1}, 2, true)
}

// P16.3: wherever their Mids are, from where to where more than half of them meet.
func TestMajor(t *testing.T) {
	checkMajor(t, nil, api.Span{}, false)
	checkMajor(t, []Cand{}, api.Span{}, false)
	for _, x := range []struct {
		l         []Cand
		low, high int64
	}{
		{[]Cand{{0, 1, 2}}, 0, 2}, {[]Cand{{5, 5, 5}}, 5, 5}, {[]Cand{{}}, 0, 0}, {[]Cand{{lowest, 0, top}}, lowest, top},
		{[]Cand{{0, 0, 5}, {5, 9, 9}}, 5, 5}, {[]Cand{{0, 1, 10}, {3, 5, 8}}, 3, 8}, {[]Cand{{0, 0, 6}, {4, 9, 9}}, 4, 6},
		{[]Cand{{0, 1, 2}, {1, 2, 3}, {10, 11, 12}}, 1, 2}, {[]Cand{{0, 1, 2}, {0, 1, 2}, {1, 1, 3}, {8, 8, 8}, {9, 9, 9}}, 1, 2},
		// Where all of them meet is not all of it: two of three are enough, and three of four.
		{[]Cand{{0, 5, 6}, {4, 5, 9}, {5, 5, 20}}, 4, 9}, {[]Cand{{0, 5, 6}, {4, 5, 9}, {5, 5, 20}, {3, 5, 7}}, 4, 7},
		// Between both ends it may be fewer.
		{[]Cand{{0, 1, 2}, {1, 1, 9}, {8, 9, 9}}, 1, 9}, {[]Cand{{0, 0, 1}, {1, 1, 1}, {9, 9, 9}, {9, 9, 9}, {0, 5, 10}}, 1, 9},
		{[]Cand{{lowest, lowest, lowest}, {lowest, top, top}, {top, top, top}}, lowest, top}, {[]Cand{{lowest, lowest, 0}, {lowest, top, top}, {7, top, top}}, lowest, top},
	} {
		checkMajor(t, x.l, api.Span{Low: x.low, High: x.high}, true)
	}
	for _, l := range [][]Cand{{{0, 1, 2}, {3, 4, 5}}, {{0, 1, 2}, {3, 4, 5}, {6, 7, 8}}, {{0, 1, 2}, {0, 1, 2}, {5, 6, 7}, {5, 6, 7}}, {{lowest, lowest, lowest}, {top, top, top}}, {{0, 1, 2}, {2, 3, 4}, {4, 5, 6}, {6, 7, 8}}} {
		checkMajor(t, l, api.Span{}, false)
	}
	for many := 1; many <= api.MaxPeer; many++ {
		for same := 1; same <= many; same++ {
			l := slices.Repeat([]Cand{{0, 0, 3}}, same)
			for n := range many - same {
				away := int64(10 * (n + 1))
				l = append(l, Cand{away, away, away})
			}
			if 2*same > many {
				checkMajor(t, l, api.Span{Low: 0, High: 3}, true)
			} else {
				checkMajor(t, l, api.Span{}, false)
			}
		}
	}
}

// P16.4: those are told whose Mid lies in Meet's span, in order.
func TestSelectMeet(t *testing.T) {
	checkSelect(t, []Cand{{0, 1, 2}}, api.Span{Low: 0, High: 2}, true, 0)
	checkSelect(t, []Cand{{}}, api.Span{}, true, 0)
	checkSelect(t, []Cand{{0, 1, 2}, {1, 2, 3}, {10, 11, 12}}, api.Span{Low: 1, High: 2}, true, 0, 1)
	checkSelect(t, []Cand{{10, 11, 12}, {1, 2, 3}, {-9, -8, -7}, {0, 1, 2}, {1, 1, 1}}, api.Span{Low: 1, High: 1}, true, 3, 4)
	checkSelect(t, []Cand{{0, 1, 10}, {3, 5, 8}, {4, 5, 9}}, api.Span{Low: 3, High: 9}, true, 1, 2)
	// Both ends lie in it.
	checkSelect(t, []Cand{{0, 3, 10}, {3, 8, 8}}, api.Span{Low: 3, High: 8}, true, 0, 1)
	checkSelect(t, []Cand{{0, 2, 9}, {3, 3, 9}, {3, 9, 9}, {3, 10, 10}, {3, 4, 9}}, api.Span{Low: 3, High: 9}, true, 1, 2, 4)
	// A Mid may lie in it by chance: its span is not asked.
	checkSelect(t, []Cand{{0, 1, 2}, {1, 1, 9}, {8, 9, 9}, {1, 2, 2}, {4, 5, 6}}, api.Span{Low: 1, High: 2}, true, 0, 1, 3)
	checkSelect(t, []Cand{{0, 1, 2}, {1, 1, 9}, {8, 9, 9}}, api.Span{Low: 1, High: 9}, true, 0, 1, 2)
	checkSelect(t, []Cand{{lowest, lowest, top}, {lowest, top, top}}, api.Span{Low: lowest, High: top}, true, 0, 1)
}

// P16.4: where Meet tells nothing it is Major's span; where no Mid lies in it, those are told who have a number in common with it.
func TestSelectMajor(t *testing.T) {
	checkSelect(t, []Cand{{0, 1, 10}, {3, 5, 8}}, api.Span{Low: 3, High: 8}, true, 1)
	checkSelect(t, []Cand{{0, 0, 6}, {4, 9, 9}, {4, 5, 6}}, api.Span{Low: 4, High: 6}, true, 2)
	checkSelect(t, []Cand{{0, 0, 5}, {5, 9, 9}}, api.Span{Low: 5, High: 5}, true, 0, 1)
	checkSelect(t, []Cand{{0, 0, 6}, {4, 9, 9}}, api.Span{Low: 4, High: 6}, true, 0, 1)
	checkSelect(t, []Cand{{0, 0, 5}, {20, 20, 20}, {5, 9, 9}}, api.Span{Low: 5, High: 5}, true, 0, 2)
	checkSelect(t, []Cand{{10, 10, 10}, {0, 0, 5}, {5, 9, 9}, {5, 9, 9}, {4, 4, 4}}, api.Span{Low: 5, High: 5}, true, 1, 2, 3)
	// Who meets the span at one of its ends alone has a number in common with it, too.
	checkSelect(t, []Cand{{0, 0, 9}, {4, 20, 20}, {-5, -5, 4}, {9, 20, 20}}, api.Span{Low: 4, High: 9}, true, 0, 1, 2, 3)
	checkSelect(t, []Cand{{0, 0, 9}, {30, 30, 30}, {4, 20, 20}, {-5, -5, 4}, {9, 20, 20}}, api.Span{Low: 4, High: 9}, true, 0, 2, 3, 4)
	// A Mid at an end is enough, and then the others are not told.
	checkSelect(t, []Cand{{0, 0, 9}, {0, 0, 9}, {3, 20, 20}, {9, 20, 20}, {-5, -5, 3}}, api.Span{Low: 0, High: 9}, true, 0, 1)
	checkSelect(t, []Cand{{0, 0, 9}, {4, 20, 20}, {-5, -5, 4}, {9, 9, 20}}, api.Span{Low: 4, High: 9}, true, 3)
	checkSelect(t, []Cand{{lowest, lowest, 0}, {0, top, top}}, api.Span{}, true, 0, 1)
}

// P16.4: nothing, where there is neither.
func TestSelectNothing(t *testing.T) {
	for _, l := range [][]Cand{nil, {}, {{0, 1, 2}, {3, 4, 5}}, {{0, 1, 2}, {3, 4, 5}, {6, 7, 8}}, {{0, 1, 2}, {0, 1, 2}, {5, 6, 7}, {5, 6, 7}}, {{0, 0, 0}, {1, 1, 1}}, {{lowest, lowest, lowest}, {top, top, top}}} {
		checkSelect(t, l, api.Span{}, false)
	}
}

// model is what the chapter's words say, gone through number by number.
type model struct{ numbers []int64 }

// modelOf tells a model of a list: its numbers, and what is next to them.
func modelOf(l []Cand) model {
	var m model
	for _, c := range l {
		for _, n := range []int64{c.Low, c.Mid, c.High} {
			m.numbers = append(m.numbers, below(n), n, above(n))
		}
	}
	slices.Sort(m.numbers)
	m.numbers = slices.Compact(m.numbers)
	return m
}

// below tells the number ahead of n, if there is one.
func below(n int64) int64 {
	if n == lowest {
		return n
	}
	return n - 1
}

// above tells the number behind n, if there is one.
func above(n int64) int64 {
	if n == top {
		return n
	}
	return n + 1
}

// depth tells in how many spans at lies.
func (m model) depth(l []Cand, at int64) int {
	many := 0
	for _, c := range l {
		if !(at < c.Low) && !(at > c.High) {
			many++
		}
	}
	return many
}

// along goes through numbers, at each of which spans are entered first and left last: the number at which that many are counted, and how many Mids are gone by then.
func (m model) along(l []Cand, numbers []int64, enters, leaves func(Cand) int64, many int) (at int64, gone int, ok bool) {
	counted := 0
	for _, n := range numbers {
		for _, c := range l {
			if enters(c) == n {
				counted++
				if counted == many {
					return n, gone, true
				}
			}
		}
		for _, c := range l {
			if c.Mid == n {
				gone++
			}
			if leaves(c) == n {
				counted--
			}
		}
	}
	return 0, 0, false
}

// meet tells Meet's answer.
func (m model) meet(l []Cand) (api.Span, int, bool) {
	down := slices.Clone(m.numbers)
	slices.Reverse(down)
	lows, highs := func(c Cand) int64 { return c.Low }, func(c Cand) int64 { return c.High }
	for allow := range len(l) {
		if 2*allow >= len(l) {
			break
		}
		first, under, begins := m.along(l, m.numbers, lows, highs, len(l)-allow)
		last, over, ends := m.along(l, down, highs, lows, len(l)-allow)
		if begins && ends && under+over <= allow && first <= last {
			return api.Span{Low: first, High: last}, allow, true
		}
	}
	return api.Span{}, 0, false
}

// major tells Major's answer.
func (m model) major(l []Cand) (api.Span, bool) {
	others := 0
	for 2*(others+1) < len(l) {
		others++
	}
	var span api.Span
	is := false
	for _, n := range m.numbers {
		if m.depth(l, n) >= len(l)-others {
			if !is {
				span.Low = n
			}
			span.High, is = n, true
		}
	}
	return span, is
}

// selected tells Select's answer.
func (m model) selected(l []Cand) (api.Span, []int, bool) {
	span, _, is := m.meet(l)
	if !is {
		span, is = m.major(l)
	}
	if !is {
		return api.Span{}, nil, false
	}
	var right, near []int
	for place, c := range l {
		if c.Mid >= span.Low && c.Mid <= span.High {
			right = append(right, place)
		}
		if max(c.Low, span.Low) <= min(c.High, span.High) {
			near = append(near, place)
		}
	}
	if right == nil {
		right = near
	}
	return span, right, true
}

// check holds all answers of a list against the model's.
func (m model) check(t *testing.T, l []Cand) {
	t.Helper()
	for _, n := range m.numbers {
		if is, should := Depth(l, n), m.depth(l, n); is != should {
			t.Fatalf("Depth of %v, %d = %d, not %d", l, n, is, should)
		}
	}
	span, allow, is := m.meet(l)
	checkMeet(t, l, span, allow, is)
	span, is = m.major(l)
	checkMajor(t, l, span, is)
	span, places, is := m.selected(l)
	checkSelect(t, l, span, is, places...)
}

// drawn tells a list of any candidates that Check takes, of numbers up to a bound at most (0: of any).
func drawn(draw func() uint64, bound uint64) []Cand {
	l := make([]Cand, draw()>>20%(api.MaxPeer+1))
	for i := range l {
		var numbers [3]int64
		for k := range numbers {
			if numbers[k] = int64(draw()) >> (draw() >> 20 % 64); bound > 0 {
				numbers[k] = int64(draw() >> 20 % bound)
			}
		}
		slices.Sort(numbers[:])
		l[i] = Cand{numbers[0], numbers[1], numbers[2]}
		if i > 0 && draw()>>20%4 == 0 {
			l[i] = l[draw()>>20%uint64(i)]
		}
	}
	return l
}

// seen counts what was told of lists, so that a test sees that its draws tell something: nothing, Major's span, Meet's with nobody allowed for, and with some; and who has but a number in common with it.
type seen struct{ nothing, major, meet, some, near int }

// add counts what a list tells.
func (s *seen) add(l []Cand) {
	span, places, is := Select(l)
	_, allow, meets := Meet(l)
	switch {
	case !is:
		s.nothing++
	case !meets:
		s.major++
	case allow == 0:
		s.meet++
	default:
		s.some++
	}
	if is && (l[places[0]].Mid < span.Low || l[places[0]].Mid > span.High) {
		s.near++
	}
}

// P16.1 to P16.4: all of them hold to the chapter's own words, of numbers that are often the same, and of any.
func TestModel(t *testing.T) {
	draw := draws()
	for _, bound := range []uint64{2, 3, 6, 12, 30, 0} {
		var s seen
		for range 8000 {
			l := drawn(draw, bound)
			if e := Check(l); e != api.OK {
				t.Fatalf("Check of %v = %d", l, e)
			}
			modelOf(l).check(t, l)
			s.add(l)
			if t.Failed() {
				return
			}
		}
		if s.major < 100 || s.meet < 100 || bound > 2 && (s.nothing < 100 || s.some < 100) || bound > 3 && s.near < 20 {
			t.Errorf("bound %d: seen %+v", bound, s)
		}
	}
}

// everyCand tells all candidates of numbers below a bound.
func everyCand(bound int64) []Cand {
	var all []Cand
	for a := range bound {
		for b := a; b < bound; b++ {
			for c := b; c < bound; c++ {
				all = append(all, Cand{a, b, c})
			}
		}
	}
	return all
}

// P16.1 to P16.4: all lists of up to three candidates of few numbers.
func TestEvery(t *testing.T) {
	all := everyCand(4)
	for _, a := range all {
		modelOf([]Cand{a}).check(t, []Cand{a})
		for _, b := range all {
			modelOf([]Cand{a, b}).check(t, []Cand{a, b})
			for _, c := range all {
				modelOf([]Cand{a, b, c}).check(t, []Cand{a, b, c})
			}
		}
	}
}

// P16.5: a number that more than half of all spans have lies in Major's span, and Select tells something; so it is with all of them.
func TestMostAreRight(t *testing.T) {
	draw := draws()
	for _, bound := range []uint64{4, 9, 25, 0} {
		right := 0
		for range 20000 {
			l := drawn(draw, bound)
			span, is := Major(l)
			_, places, tells := Select(l)
			for _, n := range modelOf(l).numbers {
				if 2*Depth(l, n) <= len(l) {
					continue
				}
				right++
				if !is || n < span.Low || n > span.High {
					t.Fatalf("Major of %v = %v, %v, without %d", l, span, is, n)
				}
				if !tells || len(places) == 0 {
					t.Fatalf("Select of %v tells nothing, and they meet at %d", l, n)
				}
			}
		}
		if right < 10000 {
			t.Errorf("bound %d: %d", bound, right)
		}
	}
	// Whatever the Mids are.
	checkMajor(t, []Cand{{0, 0, 7}, {0, 1, 7}, {7, 20, 20}, {7, 30, 30}}, api.Span{Low: 7, High: 7}, true)
}

// P16.5: a span that Meet tells lies in Major's.
func TestMeetInMajor(t *testing.T) {
	draw := draws()
	for _, bound := range []uint64{4, 9, 25, 0} {
		told, less := 0, 0
		for range 20000 {
			l := drawn(draw, bound)
			is, _, meets := Meet(l)
			if !meets {
				continue
			}
			in, most := Major(l)
			if !most || is.Low < in.Low || is.High > in.High || is.Low > is.High {
				t.Fatalf("of %v Meet tells %v, Major %v, %v", l, is, in, most)
			}
			told++
			if is != in {
				less++
			}
		}
		if told < 4000 || less < 500 {
			t.Errorf("bound %d: %d, of which %d are not the same", bound, told, less)
		}
	}
}

// P16.2 to P16.4: in whatever order candidates stand, they tell the same, by other places.
func TestAnyOrder(t *testing.T) {
	draw := draws()
	for range 5000 {
		l := drawn(draw, 9)
		turned := slices.Clone(l)
		slices.Reverse(turned)
		span, allow, is := Meet(l)
		checkMeet(t, turned, span, allow, is)
		span, is = Major(l)
		checkMajor(t, turned, span, is)
		span, places, is := Select(l)
		slices.Reverse(places)
		for i := range places {
			places[i] = len(l) - 1 - places[i]
		}
		checkSelect(t, turned, span, is, places...)
	}
}

// R3: nothing is changed of a list, nor of what lies behind its end; places are new memory each time.
func TestMemory(t *testing.T) {
	behind := []Cand{{10, 11, 12}, {1, 2, 3}, {0, 1, 2}, {5, 4, 3}, {0, 1, 9}}
	was := slices.Clone(behind)
	l := behind[:3]
	for range 2 {
		if e := Check(l); e != api.OK {
			t.Errorf("Check of %v = %d", l, e)
		}
		if is := Depth(l, 1); is != 2 {
			t.Errorf("Depth of %v = %d", l, is)
		}
		checkMeet(t, l, api.Span{Low: 1, High: 2}, 1, true)
		checkMajor(t, l, api.Span{Low: 1, High: 2}, true)
		checkSelect(t, l, api.Span{Low: 1, High: 2}, true, 1, 2)
		_, places, _ := Select(l)
		for i := range places {
			places[i] = -1
		}
		_ = append(places, -1)
		checkKept(t, behind, was)
	}
}

// P16.1 and R1: of lists that Check refuses each call ends, and changes nothing.
func TestWrong(t *testing.T) {
	draw := draws()
	turned := func(many int, bound uint64) []Cand {
		l := make([]Cand, many)
		for i := range l {
			for _, n := range []*int64{&l[i].Low, &l[i].Mid, &l[i].High} {
				if *n = int64(draw()); bound > 0 {
					*n = int64(draw() >> 20 % bound)
				}
			}
		}
		return l
	}
	lists := [][]Cand{{{1, 0, 0}}, {{2, 1, 0}}, {{0, 1, 0}}, {{1, 0, 1}}, {{top, 0, lowest}}, {{top, lowest, top}, {lowest, top, lowest}}, slices.Repeat([]Cand{{1, 2, 3}}, 11), slices.Repeat([]Cand{{3, 2, 1}}, 400), drawn(draw, 0)}
	for range 2000 {
		lists = append(lists, turned(int(draw()>>20%12), 5), turned(int(draw()>>20%12), 0))
	}
	lists = append(lists, turned(500, 9), turned(500, 0), turned(500, 1))
	for _, l := range lists {
		was := slices.Clone(l)
		Check(l)
		for _, at := range []int64{lowest, -1, 0, 1, 3, top} {
			Depth(l, at)
		}
		Meet(l)
		Major(l)
		Select(l)
		checkKept(t, l, was)
	}
}
