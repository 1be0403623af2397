package cluster

import (
	"math"
	"math/big"
	"slices"
	"testing"

	"analemma/api"
)

const (
	top    = math.MaxInt64
	lowest = math.MinInt64
	second = api.Second
	// farthest is the Apart of a node from which all others are as far away as may be: the root of Max.
	farthest = 199032864766430
)

// draws hands on numbers of 64 bits, the same ones each time.
func draws() func() uint64 {
	state := uint64(88172645463325252)
	return func() uint64 {
		state ^= state << 13
		state ^= state >> 7
		state ^= state << 17
		return state
	}
}

// at tells nodes of these offsets, and of nothing else.
func at(offsets ...int64) []Node {
	l := make([]Node, len(offsets))
	for i, offset := range offsets {
		l[i].Offset = offset
	}
	return l
}

// wavering tells nodes of these offsets, all of one jitter.
func wavering(jitter int64, offsets ...int64) []Node {
	l := at(offsets...)
	for i := range l {
		l[i].Jitter = jitter
	}
	return l
}

// checkApart holds Apart against what it should tell.
func checkApart(t *testing.T, l []Node, i int, should int64) {
	t.Helper()
	if is := Apart(l, i); is != should {
		t.Errorf("Apart of %v, %d = %d, not %d", l, i, is, should)
	}
}

// checkWorst holds Worst against what it should tell.
func checkWorst(t *testing.T, l []Node, place int, apart int64) {
	t.Helper()
	if is, far := Worst(l); is != place || far != apart {
		t.Errorf("Worst of %v = %d, %d, not %d, %d", l, is, far, place, apart)
	}
}

// checkPrune holds Prune against what it should tell.
func checkPrune(t *testing.T, l []Node, least int, apart int64, places ...int) {
	t.Helper()
	if is, far := Prune(l, least); !slices.Equal(is, places) || far != apart {
		t.Errorf("Prune of %v, %d = %v, %d, not %v, %d", l, least, is, far, places, apart)
	}
}

// checkSpread holds Spread against what it should tell.
func checkSpread(t *testing.T, l []Node, should int64) {
	t.Helper()
	if is := Spread(l); is != should {
		t.Errorf("Spread of %v = %d, not %d", l, is, should)
	}
}

// P17.1: the root of the mean of the squares of what lies between a node and each other one.
func TestApart(t *testing.T) {
	for _, x := range []struct {
		l      []Node
		should []int64
	}{
		{at(0, 5*second), []int64{5 * second, 5 * second}},
		{at(3*second, 3*second), []int64{0, 0}},
		// Squares of 49 and 289, whose mean is 169: of three there are two others.
		{at(0, 7*second, 17*second), []int64{13 * second, 37071315507, 59899012699}},
		{at(0, -7*second, -17*second), []int64{13 * second, 37071315507, 59899012699}},
		{at(17*second, 0, 7*second), []int64{59899012699, 13 * second, 37071315507}},
		{at(100*second, 101*second, 107*second), []int64{5 * second, 18473352845, 27999761126}},
		{at(0, second, 100*second), []int64{303715234620, 300678387492, 427354641605}},
		{at(second, second, second, 5*second), []int64{9918802097, 9918802097, 9918802097, 4 * second}},
	} {
		for i, should := range x.should {
			checkApart(t, x.l, i, should)
		}
	}
}

// P17.1: squares, their mean and the root are rounded down as chapter 2 says.
func TestApartRounded(t *testing.T) {
	for _, x := range []struct {
		l      []Node
		should int64
	}{
		{at(0, 65535), 0}, {at(0, -65535), 0}, {at(0, 65536), 65536}, {at(0, 65537), 65536}, {at(7, -65530), 65536},
		{at(0, 65536, 0), 0}, {at(0, 131072, 0), 92681}, {at(0, 0, -131072), 92681}, {at(0, 65535, 65535, 65535), 0},
	} {
		checkApart(t, x.l, 0, x.should)
	}
}

// P17.1: what lies between two offsets is cut, and so is its square.
func TestApartEnds(t *testing.T) {
	for _, x := range []struct {
		l      []Node
		should []int64
	}{
		{at(lowest, top), []int64{farthest, farthest}}, {at(top, lowest), []int64{farthest, farthest}},
		{at(0, top), []int64{farthest, farthest}}, {at(0, lowest), []int64{farthest, farthest}}, {at(lowest, lowest), []int64{0, 0}},
		{at(top, top, lowest), []int64{140737488355327, 140737488355327, farthest}},
		{at(lowest, top, top, top), []int64{farthest, 114911678050480, 114911678050480, 114911678050480}},
	} {
		for i, should := range x.should {
			checkApart(t, x.l, i, should)
		}
	}
}

// P17.1: nothing but offsets tells how far nodes are from each other.
func TestApartOffsetsAlone(t *testing.T) {
	l := []Node{{0, 9 * second, 7}, {7 * second, -8, lowest}, {17 * second, top, top}}
	checkApart(t, l, 0, 13*second)
	checkApart(t, l, 1, 37071315507)
	checkApart(t, l, 2, 59899012699)
}

// P17.1: 0 of what is no place, and of one that has no others.
func TestApartNoPlace(t *testing.T) {
	for _, i := range []int{math.MinInt, -2, -1, 3, 4, 1 << 32, math.MaxInt} {
		checkApart(t, at(0, 7*second, 17*second), i, 0)
	}
	// What lies behind a list's end is no place of it.
	checkApart(t, at(0, 7*second, 17*second)[:2], 2, 0)
	for _, i := range []int{math.MinInt, -1, 0, 1, math.MaxInt} {
		checkApart(t, nil, i, 0)
		checkApart(t, []Node{}, i, 0)
		checkApart(t, at(5*second), i, 0)
		checkApart(t, at(lowest), i, 0)
	}
}

// P17.1: the worst one is the furthest one.
func TestWorst(t *testing.T) {
	checkWorst(t, at(0, second, 100*second), 2, 427354641605)
	checkWorst(t, at(100*second, second, 0), 0, 427354641605)
	checkWorst(t, at(0, -100*second, second), 1, 431649555214)
	checkWorst(t, at(100*second, 101*second, 107*second), 2, 27999761126)
	checkWorst(t, at(100*second, 93*second, 83*second), 2, 59899012699)
	checkWorst(t, at(second, second, 5*second, second), 2, 4*second)
	checkWorst(t, at(top, lowest, top), 1, farthest)
	// However little it is to be trusted, a nearer one is none.
	checkWorst(t, []Node{{0, 0, top}, {second, 0, top}, {100 * second, 0, lowest}}, 2, 427354641605)
	checkWorst(t, []Node{{100 * second, 0, lowest}, {0, top, top}, {second, top, top}}, 0, 427354641605)
	checkWorst(t, []Node{{0, 0, 9}, {65536, 0, 0}, {0, 0, 9}}, 1, 65536)
}

// P17.1: of the same Apart it is the one with the greatest Metric, of these the last one.
func TestWorstSame(t *testing.T) {
	for _, x := range []struct {
		metrics []int64
		place   int
	}{
		{[]int64{0, 0}, 1}, {[]int64{1, 0}, 0}, {[]int64{0, 1}, 1}, {[]int64{-1, -2}, 0}, {[]int64{-2, -1}, 1}, {[]int64{0, -1}, 0}, {[]int64{-1, 0}, 1},
		{[]int64{lowest, lowest}, 1}, {[]int64{lowest, top}, 1}, {[]int64{top, lowest}, 0}, {[]int64{lowest + 1, lowest}, 0}, {[]int64{top, top - 1}, 0},
		{[]int64{4, 7, 7, 5}, 2}, {[]int64{7, 7, 7, 5}, 2}, {[]int64{7, 5, 5, 5}, 0}, {[]int64{4, 4, 4, 4}, 3}, {[]int64{7, 0, 7, 6, 5}, 2},
	} {
		l := make([]Node, len(x.metrics))
		for i, metric := range x.metrics {
			l[i] = Node{Offset: 3, Jitter: int64(-i), Metric: metric}
		}
		checkWorst(t, l, x.place, 0)
	}
	// Two are as far from each other, whichever of them is asked.
	checkWorst(t, []Node{{0, 0, 8}, {5 * second, 0, 7}}, 0, 5*second)
	checkWorst(t, []Node{{0, 0, 8}, {5 * second, 0, 8}}, 1, 5*second)
	checkWorst(t, []Node{{0, 0, 7}, {5 * second, 0, 8}}, 1, 5*second)
	// Both ends are as far from the middle.
	checkWorst(t, []Node{{-second, 0, 6}, {0, 0, 9}, {second, 0, 5}}, 0, 6790939565)
	checkWorst(t, []Node{{-second, 0, 6}, {0, 0, 9}, {second, 0, 6}}, 2, 6790939565)
	// What is lost by rounding makes no difference.
	checkWorst(t, []Node{{0, 0, 3}, {65535, 0, 2}, {3, 0, 1}}, 0, 0)
	checkWorst(t, []Node{{lowest, 0, 5}, {top, 0, 4}}, 0, farthest)
}

// P17.1: 0 and 0 of none; one alone is the worst one.
func TestWorstFew(t *testing.T) {
	checkWorst(t, nil, 0, 0)
	checkWorst(t, []Node{}, 0, 0)
	checkWorst(t, at(0, 9)[:0], 0, 0)
	for _, n := range []Node{{}, {5, 6, 7}, {lowest, lowest, lowest}, {top, top, top}} {
		checkWorst(t, []Node{n}, 0, 0)
	}
}

// P17.1: from the least Offset to the greatest one, wherever they stand; cut.
func TestSpread(t *testing.T) {
	checkSpread(t, nil, 0)
	checkSpread(t, []Node{}, 0)
	checkSpread(t, at(5)[:0], 0)
	for _, x := range []struct {
		l      []Node
		should int64
	}{
		{at(5), 0}, {at(-5), 0}, {at(lowest), 0}, {at(top), 0}, {at(5, 5, 5), 0}, {at(1, 5), 4}, {at(5, 1), 4}, {at(-5, -1), 4}, {at(-1, -5), 4}, {at(-1, 5), 6}, {at(5, -1), 6},
		{at(0, 3), 3}, {at(-3, 0), 3}, {at(4, 9, 2), 7}, {at(4, 2, 9), 7}, {at(9, 4, 2), 7}, {at(2, 9, 4), 7}, {at(-4, -9, -2, -3), 7}, {at(3, 3, 8, 3), 5},
		{at(lowest, top), top}, {at(top, lowest), top}, {at(lowest, 0), top}, {at(0, lowest), top}, {at(0, top), top}, {at(-1, top), top}, {at(1, top), top - 1}, {at(lowest, -1), top}, {at(lowest, -2), top - 1}, {at(lowest, 3, top), top},
		{[]Node{{1, 80, 7}, {3, -90, lowest}, {2, top, top}}, 2},
	} {
		checkSpread(t, x.l, x.should)
	}
}

// P17.2: the chapter's example.
func TestPruneExample(t *testing.T) {
	l := at(0, second, 100*second)
	checkPrune(t, l, 3, 427354641605, 0, 1, 2)
	checkPrune(t, l, 2, second, 0, 1)
	checkPrune(t, l, 1, 0, 0)
	// Which one of the two goes the Metric tells.
	checkPrune(t, []Node{{0, 0, 2}, {second, 0, 1}, {100 * second, 0, 0}}, 1, 0, 1)
	checkPrune(t, []Node{{0, 0, 1}, {second, 0, 2}, {100 * second, 0, 0}}, 1, 0, 0)
}

// P17.2: no fewer than the greater one of least and 1 are kept.
func TestPruneLeast(t *testing.T) {
	// The last one of those that say the same goes first.
	for many := 1; many <= api.MaxPeer; many++ {
		l := at(make([]int64, many)...)
		for _, least := range []int{math.MinInt, -1, 0, 1, 2, 3, 5, 9, 10, 11, math.MaxInt} {
			checkPrune(t, l, least, 0, numbered(min(many, max(least, 1)))...)
		}
	}
	l := at(9*second, 0, -40*second, second, second)
	for least, places := range [][]int{{3}, {3}, {3, 4}, {1, 3, 4}, {0, 1, 3, 4}, {0, 1, 2, 3, 4}, {0, 1, 2, 3, 4}} {
		_, apart := Worst(chosen(l, places))
		checkPrune(t, l, least, apart, places...)
	}
}

// chosen tells the nodes at these places.
func chosen(l []Node, places []int) []Node {
	var all []Node
	for _, place := range places {
		all = append(all, l[place])
	}
	return all
}

// P17.2: none of none, and one of one, however far it wavers.
func TestPruneFew(t *testing.T) {
	for _, least := range []int{math.MinInt, -1, 0, 1, 2, 10, math.MaxInt} {
		checkPrune(t, nil, least, 0)
		checkPrune(t, []Node{}, least, 0)
		for _, n := range []Node{{}, {5, 6, 7}, {5, 0, 7}, {lowest, lowest, lowest}, {top, top, top}} {
			checkPrune(t, []Node{n}, least, 0, 0)
		}
	}
}

// P17.2: it ends where the worst one is nearer than what the calmest one of those that are kept wavers by.
func TestPruneJitter(t *testing.T) {
	// 13 seconds apart at most, if the third one is gone; both sides of that.
	l := func(jitter int64) []Node { return wavering(jitter, 0, 13*second, 200*second) }
	_, all := Worst(l(0))
	for _, x := range []struct {
		jitter, apart int64
		places        []int
	}{
		{lowest, 0, []int{0}}, {-1, 0, []int{0}}, {0, 0, []int{0}}, {13 * second, 0, []int{0}}, {13*second + 1, 13 * second, []int{0, 1}},
		{all - 1, 13 * second, []int{0, 1}}, {all, 13 * second, []int{0, 1}}, {all + 1, all, []int{0, 1, 2}}, {top, all, []int{0, 1, 2}},
	} {
		checkPrune(t, l(x.jitter), 1, x.apart, x.places...)
	}
	// Any one of them may be the calmest one.
	for place := range 3 {
		calm := l(top)
		calm[place].Jitter = all + 1
		checkPrune(t, calm, 1, all, 0, 1, 2)
		calm[place].Jitter = all
		checkPrune(t, calm, 1, 13*second, 0, 1)
		calm[place].Jitter = 0
		if place == 2 {
			// It went first, and what it wavered by went with it.
			checkPrune(t, calm, 1, 13*second, 0, 1)
		} else {
			checkPrune(t, calm, 1, 0, 0)
		}
	}
}

// P17.2: how many are to be kept goes ahead of what they waver by.
func TestPruneBoth(t *testing.T) {
	l := wavering(second+1, 0, 13*second, 200*second, 14*second)
	for least, places := range [][]int{{1, 3}, {1, 3}, {1, 3}, {0, 1, 3}, {0, 1, 2, 3}} {
		_, apart := Worst(chosen(l, places))
		checkPrune(t, l, least, apart, places...)
	}
	// Who is far stays, if no more than least are there.
	checkPrune(t, at(0, 100*second), 2, 100*second, 0, 1)
	checkPrune(t, at(lowest, top), 2, farthest, 0, 1)
	checkPrune(t, wavering(lowest, lowest, top), 2, farthest, 0, 1)
}

// P17.2: the worst one is told of those that are kept, each time anew.
func TestPruneAnew(t *testing.T) {
	// Of all of them the first one is further away than the second one; without the last one it is the other way round.
	l := at(0, 9*second, 4*second, 3*second, 60*second)
	first, next := Apart(l, 0), Apart(l, 1)
	if first <= next || Apart(l[:4], 0) >= Apart(l[:4], 1) {
		t.Fatalf("%d, %d", first, next)
	}
	checkPrune(t, l, 3, 15185002499, 0, 2, 3)
	checkPrune(t, l, 2, second, 2, 3)
}

// unit is a second, as the model reckons with it.
var unit = big.NewInt(api.Second)

// cutBig tells n cut.
func cutBig(n *big.Int) *big.Int {
	end := big.NewInt(api.Max)
	if n.CmpAbs(end) > 0 {
		return end.Mul(end, big.NewInt(int64(n.Sign())))
	}
	return n
}

// apart tells Apart's answer by numbers of any size.
func apart(l []Node, i int) int64 {
	sum, many := new(big.Int), int64(0)
	for other, n := range l {
		if other == i {
			continue
		}
		gap := cutBig(new(big.Int).Sub(big.NewInt(l[i].Offset), big.NewInt(n.Offset)))
		square := new(big.Int).Mul(gap, gap)
		sum.Add(sum, cutBig(square.Div(square, unit)))
		many++
	}
	if many == 0 {
		return 0
	}
	mean := sum.Div(sum, big.NewInt(many))
	return mean.Sqrt(mean.Mul(mean, unit)).Int64()
}

// model is what is kept of a list: whether each place is.
type model struct {
	l    []Node
	kept []bool
}

// left tells the places of those that are kept.
func (m model) left() []int {
	var all []int
	for place, is := range m.kept {
		if is {
			all = append(all, place)
		}
	}
	return all
}

// worst tells which of those that are kept is the worst one, and how far it is away.
func (m model) worst() (int, int64) {
	places := m.left()
	found, far := 0, int64(-1)
	for n, place := range places {
		is := apart(chosen(m.l, places), n)
		if is > far || is == far && m.l[place].Metric >= m.l[found].Metric {
			found, far = place, is
		}
	}
	return found, max(far, 0)
}

// calm tells whether each one of those that are kept wavers by more than that.
func (m model) calm(far int64) bool {
	for _, place := range m.left() {
		if m.l[place].Jitter <= far {
			return false
		}
	}
	return true
}

// modelOf tells a model of a list that is kept whole.
func modelOf(l []Node) model {
	return model{l, slices.Repeat([]bool{true}, len(l))}
}

// check holds Prune of a list against the model's, and tells how many are kept.
func (m model) check(t *testing.T, least int) int {
	t.Helper()
	place, far := m.worst()
	for many := len(m.l); many > 1 && many > least && !m.calm(far); many-- {
		m.kept[place] = false
		place, far = m.worst()
	}
	checkPrune(t, m.l, least, far, m.left()...)
	return len(m.left())
}

// drawn tells a list of so many nodes at most, of numbers up to a bound at most (0: of any).
func drawn(draw func() uint64, many, bound uint64) []Node {
	l := make([]Node, draw()>>20%(many+1))
	for i := range l {
		for _, n := range []*int64{&l[i].Offset, &l[i].Jitter, &l[i].Metric} {
			if *n = int64(draw()) >> (draw() >> 20 % 64); bound > 0 {
				*n = int64(draw()>>20%bound) * second
			}
		}
	}
	return l
}

// spread tells Spread's answer by numbers of any size.
func spread(l []Node) int64 {
	var most big.Int
	for _, a := range l {
		for _, b := range l {
			if gap := new(big.Int).Sub(big.NewInt(a.Offset), big.NewInt(b.Offset)); gap.Cmp(&most) > 0 {
				most.Set(gap)
			}
		}
	}
	return cutBig(&most).Int64()
}

// P17.1 and P17.2: all of them hold to the chapter's own words, of numbers that are often the same, and of any.
func TestModel(t *testing.T) {
	draw := draws()
	for _, bound := range []uint64{1, 2, 3, 5, 12, 40, 0} {
		none, some, all := 0, 0, 0
		for range 1000 {
			l := drawn(draw, api.MaxPeer+2, bound)
			for i := range l {
				checkApart(t, l, i, apart(l, i))
			}
			place, far := modelOf(l).worst()
			checkWorst(t, l, place, far)
			checkSpread(t, l, spread(l))
			least := int(draw()>>20%8) - 1
			switch kept := modelOf(l).check(t, least); {
			case kept == len(l):
				none++
			case kept > max(least, 1):
				some++
			default:
				all++
			}
			if t.Failed() {
				return
			}
		}
		if none < 200 || all < 100 || bound > 2 && some < 30 {
			t.Errorf("bound %d: none of %d went, some of %d, all that may of %d", bound, none, some, all)
		}
	}
}

// P17.3: no fewer than least are kept, if there were as many, and they are no further spread than all were.
func TestWhatFollows(t *testing.T) {
	draw := draws()
	for _, bound := range []uint64{3, 9, 50, 0} {
		nearer := 0
		for range 5000 {
			l := drawn(draw, api.MaxPeer, bound)
			least := int(draw()>>20%14) - 2
			places, far := Prune(l, least)
			if len(places) < min(least, len(l)) || len(l) > 0 && len(places) == 0 {
				t.Fatalf("Prune of %v, %d = %v", l, least, places)
			}
			if !slices.IsSorted(places) || len(slices.Compact(slices.Clone(places))) != len(places) {
				t.Fatalf("Prune of %v, %d = %v, which is no order", l, least, places)
			}
			kept := chosen(l, places)
			if Spread(kept) > Spread(l) {
				t.Fatalf("Prune of %v, %d = %v, which is further spread", l, least, places)
			}
			if Spread(kept) < Spread(l) {
				nearer++
			}
			if _, should := Worst(kept); far != should {
				t.Fatalf("Prune of %v, %d tells %d, not %d", l, least, far, should)
			}
		}
		if nearer < 1000 {
			t.Errorf("bound %d: %d are nearer", bound, nearer)
		}
	}
}

// P17.3: nodes that say the same are all kept, if they have any jitter.
func TestSameAreKept(t *testing.T) {
	for many := 1; many <= api.MaxPeer; many++ {
		for _, offset := range []int64{lowest, -second, 0, 7, top} {
			for _, jitter := range []int64{1, 2, second, top} {
				l := wavering(jitter, slices.Repeat([]int64{offset}, many)...)
				for i := range l {
					l[i].Metric = int64(i%3) * second
				}
				checkPrune(t, l, 1, 0, numbered(many)...)
				// One that has none is enough for one of them to go: the one that is to be trusted least.
				l[many/2].Jitter = 0
				worst, _ := Worst(l)
				places, _ := Prune(l, many-1)
				if many > 1 && slices.Contains(places, worst) || len(places) != max(many-1, 1) {
					t.Errorf("Prune of %v, %d = %v", l, many-1, places)
				}
			}
		}
	}
}

// P17.2 and R1: of some hundreds it ends, too.
func TestHundreds(t *testing.T) {
	const many = 200
	l := make([]Node, many)
	for i := range l {
		l[i] = Node{Offset: int64(i*i) * second, Metric: int64(i)}
	}
	checkPrune(t, l, 2, second, 0, 1)
	checkPrune(t, l, many, Apart(l, many-1), numbered(many)...)
	checkSpread(t, l, (many-1)*(many-1)*second)
	checkWorst(t, l, many-1, Apart(l, many-1))
}

// R3: nothing is changed of a list, nor of what lies behind its end; places are new memory each time.
func TestMemory(t *testing.T) {
	behind := []Node{{100 * second, 1, 1}, {0, 2, 2}, {second, 3, 3}, {7, 8, 9}, {-5, 0, 2}}
	was := slices.Clone(behind)
	l := behind[:3]
	for range 2 {
		checkApart(t, l, 1, 303715234620)
		checkWorst(t, l, 0, 427354641605)
		checkSpread(t, l, 100*second)
		checkPrune(t, l, 2, second, 1, 2)
		checkPrune(t, l, 3, 427354641605, 0, 1, 2)
		for _, least := range []int{1, 2, 3} {
			places, _ := Prune(l, least)
			for i := range places {
				places[i] = -1
			}
			_ = append(places, -1)
		}
		if !slices.Equal(behind, was) {
			t.Fatalf("%v was made of %v", behind, was)
		}
	}
}
