package agenda

import (
	"math"
	"slices"
	"strings"
	"testing"

	"analemma/api"
)

const (
	top   = math.MaxInt64
	least = math.MinInt64
)

// draws hands on numbers of 64 bits, the same ones each time.
func draws() func() uint64 {
	state := uint64(88172645463325252)
	return func() uint64 {
		state ^= state << 13
		state ^= state >> 7
		state ^= state << 17
		return state
	}
}

// put puts an item, whose ticket should be that.
func put(t *testing.T, a *Agenda, at int64, kind int, data string, ticket int) {
	t.Helper()
	if is, fault := a.Put(at, kind, data); is != ticket || fault != api.OK {
		t.Errorf("Put(%d, %d) = %d, %d, not %d", at, kind, is, fault, ticket)
	}
}

// ofTimes tells an agenda of items that are due then, with the tickets 1, 2, ..
func ofTimes(t *testing.T, times ...int64) *Agenda {
	t.Helper()
	a := New()
	for n, at := range times {
		put(t, a, at, n%256, strings.Repeat("x", n), n+1)
	}
	return a
}

// checkFault holds an error against what it should be.
func checkFault(t *testing.T, is, fault api.Errno) {
	t.Helper()
	if is != fault {
		t.Errorf("error %d, not %d", is, fault)
	}
}

// checkNoTicket holds a ticket and an error against no ticket and that error.
func checkNoTicket(t *testing.T, ticket int, is, fault api.Errno) {
	t.Helper()
	if ticket != 0 || is != fault {
		t.Errorf("%d, %d, not 0, %d", ticket, is, fault)
	}
}

// checkNothing holds what Next or Take tells against nothing.
func checkNothing(t *testing.T, item Item, is bool) {
	t.Helper()
	if item != (Item{}) || is {
		t.Errorf("%v, %v where nothing should be", item, is)
	}
}

// checkItem holds what Next or Take tells against an item.
func checkItem(t *testing.T, item Item, is bool, should Item) {
	t.Helper()
	if item != should || !is {
		t.Errorf("%v, %v, not %v", item, is, should)
	}
}

// checkList holds an agenda against the items that should be there, in order.
func checkList(t *testing.T, a *Agenda, l ...Item) {
	t.Helper()
	if is := a.List(); !slices.Equal(is, l) {
		t.Errorf("List() = %v, not %v", is, l)
	}
	item, is := a.Next()
	if len(l) == 0 {
		checkNothing(t, item, is)
		return
	}
	checkItem(t, item, is, l[0])
}

// checkTickets holds an agenda against the tickets that should be there, in order.
func checkTickets(t *testing.T, a *Agenda, tickets ...int) {
	t.Helper()
	var l []int
	for _, item := range a.List() {
		l = append(l, item.Ticket)
	}
	if !slices.Equal(l, tickets) {
		t.Errorf("the tickets are %v, not %v", l, tickets)
	}
}

// The chapter's example.
func TestExample(t *testing.T) {
	a := New()
	put(t, a, 5, 1, "a", 1)
	put(t, a, 3, 2, "b", 2)
	item, is := a.Take(9)
	checkItem(t, item, is, Item{3, 2, "b", 2})
	checkList(t, a, Item{5, 1, "a", 1})
}

// P8.1, P8.2: a new agenda has no items.
func TestNew(t *testing.T) {
	a := New()
	checkList(t, a)
	for _, now := range []int64{0, 1, top, -1, least} {
		item, is := a.Take(now)
		checkNothing(t, item, is)
	}
	for _, ticket := range []int{0, 1, -1, 2, math.MaxInt, math.MinInt} {
		checkFault(t, a.Cancel(ticket), api.ErrNone)
		checkFault(t, a.Move(ticket, 3), api.ErrNone)
		double, fault := a.Double(ticket, 3)
		checkNoTicket(t, double, fault, api.ErrNone)
	}
	checkList(t, a)
}

// P8.1: what may be put is there as it was put.
func TestPut(t *testing.T) {
	long := strings.Repeat("\xff\x00", 1000)
	a := New()
	put(t, a, 0, 0, "", 1)
	put(t, a, top, 255, long, 2)
	put(t, a, 1, 254, "\x80 é \n", 3)
	put(t, a, 0, 1, long[1:], 4)
	checkList(t, a, Item{0, 0, "", 1}, Item{0, 1, long[1:], 4}, Item{1, 254, "\x80 é \n", 3}, Item{top, 255, long, 2})
}

// P8.1: what may not be put is not there, and takes no ticket.
func TestPutWrong(t *testing.T) {
	long := strings.Repeat("d", 2001)
	a := New()
	put(t, a, 7, 7, "seven", 1)
	for _, x := range []struct {
		at   int64
		kind int
		data string
	}{
		{-1, 0, ""}, {-api.Second, 5, "d"}, {-top, 5, "d"}, {least, 255, "d"},
		{0, -1, ""}, {5, 256, "d"}, {5, 257, "d"}, {5, 511, "d"}, {5, 1 << 32, "d"}, {5, math.MaxInt, "d"}, {5, math.MinInt, "d"},
		{0, 0, long}, {5, 5, long + long}, {5, 5, strings.Repeat("é", 1001)},
		{-1, 256, long},
	} {
		ticket, fault := a.Put(x.at, x.kind, x.data)
		checkNoTicket(t, ticket, fault, api.ErrArg)
		checkList(t, a, Item{7, 7, "seven", 1})
	}
	put(t, a, 8, 8, "eight", 2)
}

// P8.1: tickets go up by one, whatever is there no more.
func TestTickets(t *testing.T) {
	a := New()
	for ticket := 1; ticket <= 2100; ticket += 3 {
		put(t, a, int64(ticket), 3, "x", ticket)
		put(t, a, 0, 4, "y", ticket+1)
		double, fault := a.Double(ticket, top)
		if double != ticket+2 || fault != api.OK {
			t.Fatalf("Double = %d, %d, not %d", double, fault, ticket+2)
		}
		checkFault(t, a.Cancel(ticket), api.OK)
		item, is := a.Take(0)
		checkItem(t, item, is, Item{0, 4, "y", ticket + 1})
		checkFault(t, a.Move(ticket+2, 5), api.OK)
		item, is = a.Take(5)
		checkItem(t, item, is, Item{5, 3, "x", ticket + 2})
	}
	checkList(t, a)
}

// P8.1: there are MaxPast items at most; ErrFull is behind all that is wrong of an item itself.
func TestFull(t *testing.T) {
	a := New()
	var tickets []int
	for ticket := 1; ticket <= api.MaxPast; ticket++ {
		put(t, a, 50, 9, "x", ticket)
		tickets = append(tickets, ticket)
	}
	for range 3 {
		ticket, fault := a.Put(1, 0, "")
		checkNoTicket(t, ticket, fault, api.ErrFull)
		ticket, fault = a.Put(-1, 0, "")
		checkNoTicket(t, ticket, fault, api.ErrArg)
		ticket, fault = a.Put(1, 256, "")
		checkNoTicket(t, ticket, fault, api.ErrArg)
		ticket, fault = a.Put(1, 0, strings.Repeat("x", 2001))
		checkNoTicket(t, ticket, fault, api.ErrArg)
		ticket, fault = a.Double(5, 1)
		checkNoTicket(t, ticket, fault, api.ErrFull)
		ticket, fault = a.Double(5, -1)
		checkNoTicket(t, ticket, fault, api.ErrArg)
		ticket, fault = a.Double(api.MaxPast+1, 1)
		checkNoTicket(t, ticket, fault, api.ErrNone)
		checkTickets(t, a, tickets...)
	}
	checkFault(t, a.Move(api.MaxPast, 49), api.OK)
	item, is := a.Take(50)
	checkItem(t, item, is, Item{49, 9, "x", api.MaxPast})
	put(t, a, 1, 0, "", api.MaxPast+1)
	ticket, fault := a.Put(1, 0, "")
	checkNoTicket(t, ticket, fault, api.ErrFull)
	checkFault(t, a.Cancel(77), api.OK)
	double, fault := a.Double(api.MaxPast+1, 2)
	if double != api.MaxPast+2 || fault != api.OK {
		t.Errorf("Double = %d, %d", double, fault)
	}
	ticket, fault = a.Put(1, 0, "")
	checkNoTicket(t, ticket, fault, api.ErrFull)
}

// P8.1: a double has kind and data of what it is like, a time and a ticket of its own; what it is like stays.
func TestDouble(t *testing.T) {
	a := New()
	put(t, a, 5, 200, "data", 1)
	for n, at := range []int64{5, 0, 9, top} {
		if ticket, fault := a.Double(1, at); ticket != n+2 || fault != api.OK {
			t.Errorf("Double(1, %d) = %d, %d", at, ticket, fault)
		}
	}
	all := []Item{{0, 200, "data", 3}, {5, 200, "data", 1}, {5, 200, "data", 2}, {9, 200, "data", 4}, {top, 200, "data", 5}}
	checkList(t, a, all...)
	for _, at := range []int64{-1, -top, least} {
		ticket, fault := a.Double(1, at)
		checkNoTicket(t, ticket, fault, api.ErrArg)
		ticket, fault = a.Double(6, at)
		checkNoTicket(t, ticket, fault, api.ErrNone)
	}
	checkList(t, a, all...)
	checkFault(t, a.Cancel(1), api.OK)
	ticket, fault := a.Double(1, 5)
	checkNoTicket(t, ticket, fault, api.ErrNone)
	if ticket, fault := a.Double(5, 1); ticket != 6 || fault != api.OK {
		t.Errorf("a double's double is %d, %d", ticket, fault)
	}
	checkTickets(t, a, 3, 6, 2, 4, 5)
}

// P8.1: what is cancelled is there no more, wherever it stood; all others are, in order.
func TestCancel(t *testing.T) {
	times := []int64{1, 20, 3, 21, 22, 4, 5, 30, 31, 32, 33, 6, 7, 8, 9, 40, 2, 2}
	for ticket := 1; ticket <= len(times); ticket++ {
		a := ofTimes(t, times...)
		l := slices.DeleteFunc(a.List(), func(item Item) bool { return item.Ticket == ticket })
		checkFault(t, a.Cancel(ticket), api.OK)
		checkList(t, a, l...)
		for range 2 {
			checkFault(t, a.Cancel(ticket), api.ErrNone)
			checkFault(t, a.Move(ticket, 0), api.ErrNone)
			double, fault := a.Double(ticket, 0)
			checkNoTicket(t, double, fault, api.ErrNone)
			checkFault(t, a.Cancel(0), api.ErrNone)
			checkFault(t, a.Cancel(-ticket), api.ErrNone)
			checkFault(t, a.Cancel(len(times)+1), api.ErrNone)
		}
		for _, should := range l {
			item, is := a.Take(top)
			checkItem(t, item, is, should)
		}
		checkList(t, a)
	}
}

// P8.1: what is moved is due then, by its own ticket, and nothing else of it is another.
func TestMove(t *testing.T) {
	times := []int64{1, 20, 3, 21, 22, 4, 5, 30, 31, 32, 33, 6, 7, 8, 9, 40, 2, 2}
	for ticket := 1; ticket <= len(times); ticket++ {
		for _, at := range []int64{0, 1, 2, 5, 6, 20, 25, 33, 40, 41, top} {
			a := ofTimes(t, times...)
			l := a.List()
			for n := range l {
				if l[n].Ticket == ticket {
					l[n].At = at
				}
			}
			// The order is told by the chapter, not by what is tested.
			slices.SortStableFunc(l, func(a, b Item) int {
				if a.At < b.At || a.At == b.At && a.Ticket < b.Ticket {
					return -1
				}
				return 1
			})
			checkFault(t, a.Move(ticket, at), api.OK)
			checkList(t, a, l...)
			checkFault(t, a.Move(ticket, at), api.OK)
			for _, should := range l {
				item, is := a.Take(top)
				checkItem(t, item, is, should)
			}
		}
	}
}

// P8.1: to no time below 0 anything is moved; that there is no such ticket is told ahead of it.
func TestMoveWrong(t *testing.T) {
	a := ofTimes(t, 5, 3, 4)
	for _, at := range []int64{-1, -5, -top, least} {
		for ticket := 1; ticket <= 3; ticket++ {
			checkFault(t, a.Move(ticket, at), api.ErrArg)
		}
		for _, ticket := range []int{0, -1, 4, math.MaxInt, math.MinInt} {
			checkFault(t, a.Move(ticket, at), api.ErrNone)
			checkFault(t, a.Move(ticket, 6), api.ErrNone)
		}
		checkList(t, a, Item{3, 1, "x", 2}, Item{4, 2, "xx", 3}, Item{5, 0, "", 1})
	}
}

// P8.2: of what is due at once the lesser ticket is ahead, wherever it came from.
func TestTies(t *testing.T) {
	a := ofTimes(t, 9, 9, 9, 9, 9, 9, 9, 9, 9)
	checkTickets(t, a, 1, 2, 3, 4, 5, 6, 7, 8, 9)
	checkFault(t, a.Move(1, 10), api.OK)
	checkFault(t, a.Move(5, 8), api.OK)
	checkTickets(t, a, 5, 2, 3, 4, 6, 7, 8, 9, 1)
	checkFault(t, a.Move(5, 10), api.OK)
	checkTickets(t, a, 2, 3, 4, 6, 7, 8, 9, 1, 5)
	checkFault(t, a.Move(1, 9), api.OK)
	checkFault(t, a.Cancel(4), api.OK)
	checkTickets(t, a, 1, 2, 3, 6, 7, 8, 9, 5)
	for _, ticket := range []int{1, 2, 3, 6, 7, 8, 9, 5} {
		item, is := a.Take(10)
		if item.Ticket != ticket || !is {
			t.Errorf("took %v, %v, not %d", item, is, ticket)
		}
	}
	b := ofTimes(t, 11, 10, 9, 8)
	for ticket := 4; ticket >= 1; ticket-- {
		checkFault(t, b.Move(ticket, 7), api.OK)
	}
	checkTickets(t, b, 1, 2, 3, 4)
}

// P8.2: what is taken is due by then, not above it; it is taken once.
func TestTake(t *testing.T) {
	for _, at := range []int64{0, 1, 2, api.Second, top} {
		a := New()
		put(t, a, at, 7, "data", 1)
		for _, now := range []int64{at - 1, -1, -top, least} {
			if now < at {
				item, is := a.Take(now)
				checkNothing(t, item, is)
				checkList(t, a, Item{at, 7, "data", 1})
			}
		}
		item, is := a.Take(at)
		checkItem(t, item, is, Item{at, 7, "data", 1})
		item, is = a.Take(at)
		checkNothing(t, item, is)
		checkList(t, a)
		checkFault(t, a.Cancel(1), api.ErrNone)
		checkFault(t, a.Move(1, 0), api.ErrNone)
		put(t, a, at, 7, "data", 2)
		item, is = a.Take(top)
		checkItem(t, item, is, Item{at, 7, "data", 2})
	}
}

// P8.2: what is asked changes nothing.
func TestAskingChangesNothing(t *testing.T) {
	a := ofTimes(t, 5, 2, 7, 2)
	for range 10 {
		checkList(t, a, Item{2, 1, "x", 2}, Item{2, 3, "xxx", 4}, Item{5, 0, "", 1}, Item{7, 2, "xx", 3})
		item, is := a.Take(1)
		checkNothing(t, item, is)
	}
	put(t, a, 1, 0, "", 5)
}

// P8.3: what is taken by some time is in order, and all of it; what is left is not due.
func TestTakenInOrder(t *testing.T) {
	draw := draws()
	for size := range 80 {
		a := New()
		for range size {
			a.Put(int64(draw()%20), int(draw()%256), "")
		}
		for now := int64(-1); now <= 20; now += 3 {
			before := a.List()
			var taken []Item
			for item, is := a.Take(now); is; item, is = a.Take(now) {
				taken = append(taken, item)
			}
			due := 0
			for due < len(before) && before[due].At <= now {
				due++
			}
			if !slices.Equal(taken, before[:due]) {
				t.Fatalf("by %d are taken %v of %v", now, taken, before)
			}
			checkList(t, a, before[due:]...)
		}
		checkList(t, a)
	}
}

// model is an agenda as the chapter tells it: a list without order.
type model struct {
	items []Item
	last  int
}

// place tells where a ticket's item stands, or -1.
func (m *model) place(ticket int) int {
	return slices.IndexFunc(m.items, func(item Item) bool { return item.Ticket == ticket })
}

// first tells where the item stands that is ahead of all others, or -1.
func (m *model) first() int {
	first := -1
	for n, item := range m.items {
		if first < 0 || item.At < m.items[first].At || item.At == m.items[first].At && item.Ticket < m.items[first].Ticket {
			first = n
		}
	}
	return first
}

// put tells what Put should, and does it.
func (m *model) put(at int64, kind int, data string) (int, api.Errno) {
	if at < 0 || kind < 0 || kind > 255 || len(data) > 2000 {
		return 0, api.ErrArg
	}
	if len(m.items) == 1000 {
		return 0, api.ErrFull
	}
	m.last++
	m.items = append(m.items, Item{at, kind, data, m.last})
	return m.last, api.OK
}

// double tells what Double should, and does it.
func (m *model) double(ticket int, at int64) (int, api.Errno) {
	place := m.place(ticket)
	if place < 0 {
		return 0, api.ErrNone
	}
	return m.put(at, m.items[place].Kind, m.items[place].Data)
}

// move tells what Move should, and does it.
func (m *model) move(ticket int, at int64) api.Errno {
	place := m.place(ticket)
	if place < 0 {
		return api.ErrNone
	}
	if at < 0 {
		return api.ErrArg
	}
	m.items[place].At = at
	return api.OK
}

// cancel tells what Cancel should, and does it.
func (m *model) cancel(ticket int) api.Errno {
	place := m.place(ticket)
	if place < 0 {
		return api.ErrNone
	}
	m.items = slices.Delete(m.items, place, place+1)
	return api.OK
}

// take tells what Take should, and does it.
func (m *model) take(now int64) (Item, bool) {
	first := m.first()
	if first < 0 || m.items[first].At > now {
		return Item{}, false
	}
	item := m.items[first]
	m.items = slices.Delete(m.items, first, first+1)
	return item, true
}

// list tells what List should.
func (m *model) list() []Item {
	left := model{items: slices.Clone(m.items)}
	var l []Item
	for len(left.items) > 0 {
		item, _ := left.take(top)
		l = append(l, item)
	}
	return l
}

// checkSame holds one call of an agenda against the same one of its model.
func checkSame(t *testing.T, a *Agenda, m *model, draw func() uint64, times, growth uint64) {
	t.Helper()
	at, ticket := int64(draw()%times)-1, int(draw()%uint64(m.last+2))
	switch what := draw() % (4 + growth); what {
	case 0:
		is, was := a.Cancel(ticket), len(m.items)
		if should := m.cancel(ticket); is != should {
			t.Fatalf("Cancel(%d) of %d items = %d, not %d", ticket, was, is, should)
		}
	case 1:
		item, is := a.Take(at)
		if should, was := m.take(at); item != should || is != was {
			t.Fatalf("Take(%d) = %v, %v, not %v, %v", at, item, is, should, was)
		}
	case 2:
		is := a.Move(ticket, at)
		if should := m.move(ticket, at); is != should {
			t.Fatalf("Move(%d, %d) = %d, not %d", ticket, at, is, should)
		}
	case 3:
		is, fault := a.Double(ticket, at)
		if should, e := m.double(ticket, at); is != should || fault != e {
			t.Fatalf("Double(%d, %d) = %d, %d, not %d, %d", ticket, at, is, fault, should, e)
		}
	default:
		kind, data := int(draw()%260)-2, strings.Repeat("z", int(draw()%3))
		is, fault := a.Put(at, kind, data)
		if should, e := m.put(at, kind, data); is != should || fault != e {
			t.Fatalf("Put(%d, %d) = %d, %d, not %d, %d", at, kind, is, fault, should, e)
		}
	}
}

// P8.1 to P8.3: agendas that are changed as it comes are what the chapter says.
func TestAgainstModel(t *testing.T) {
	draw := draws()
	for run := range uint64(40) {
		a, m := New(), &model{}
		for range 1500 {
			checkSame(t, a, m, draw, 2+run*run, 1+run%8)
			item, is := a.Next()
			if first := m.first(); first < 0 {
				checkNothing(t, item, is)
			} else {
				checkItem(t, item, is, m.items[first])
			}
			if draw()%64 == 0 {
				checkList(t, a, m.list()...)
			}
			if t.Failed() {
				return
			}
		}
		checkList(t, a, m.list()...)
	}
}

// R3: the lists that are told are new memory each time: nothing that is done to one is seen in another, or in the agenda.
func TestListsAreTheirOwn(t *testing.T) {
	a := ofTimes(t, 5, 3, 4)
	l := []Item{{3, 1, "x", 2}, {4, 2, "xx", 3}, {5, 0, "", 1}}
	told, again := a.List(), a.List()
	told[0], told[2] = Item{9, 9, "nine", 9}, Item{-1, -1, "", -1}
	_ = append(told[:1], Item{8, 8, "eight", 8})
	_ = append(again, Item{7, 7, "seven", 7})
	if !slices.Equal(again, l) {
		t.Errorf("what was told is %v then", again)
	}
	checkList(t, a, l...)
	put(t, a, 0, 0, "", 4)
	checkFault(t, a.Move(2, 99), api.OK)
	a.Take(99)
	if !slices.Equal(again, l) {
		t.Errorf("what was told is %v then", again)
	}
	checkTickets(t, a, 3, 1, 2)
	if item, is := a.Take(99); item.Ticket != 3 || !is {
		t.Errorf("took %v, %v", item, is)
	}
}

// R5: what is done to an agenda is not seen in another one.
func TestAgendasAreTheirOwn(t *testing.T) {
	a, b := New(), New()
	put(t, a, 5, 1, "a", 1)
	checkList(t, b)
	put(t, b, 6, 2, "b", 1)
	put(t, b, 7, 2, "b", 2)
	checkFault(t, a.Move(2, 0), api.ErrNone)
	checkFault(t, a.Cancel(1), api.OK)
	checkList(t, a)
	checkList(t, b, Item{6, 2, "b", 1}, Item{7, 2, "b", 2})
}

// R1: a copy of an agenda is the same one, so that no call of either panics.
func TestCopyIsTheSame(t *testing.T) {
	a := ofTimes(t, 5, 3, 4)
	twin := *a
	put(t, &twin, 1, 0, "", 4)
	put(t, a, 2, 0, "", 5)
	checkTickets(t, &twin, 4, 5, 2, 3, 1)
	for ticket := range 5 {
		checkFault(t, a.Cancel(ticket+1), api.OK)
		checkFault(t, twin.Cancel(ticket+1), api.ErrNone)
	}
	checkList(t, &twin)
}

// R1: an agenda that nobody made has no items, and then what is put; one that is none has room for nothing.
func TestNobodyMadeIt(t *testing.T) {
	for _, a := range []*Agenda{{}, nil} {
		checkList(t, a)
		item, is := a.Take(top)
		checkNothing(t, item, is)
		for ticket := range 3 {
			checkFault(t, a.Cancel(ticket), api.ErrNone)
			checkFault(t, a.Move(ticket, 1), api.ErrNone)
			double, fault := a.Double(ticket, 1)
			checkNoTicket(t, double, fault, api.ErrNone)
		}
		ticket, fault := a.Put(-1, 0, "")
		checkNoTicket(t, ticket, fault, api.ErrArg)
	}
	var a Agenda
	put(t, &a, 6, 1, "a", 1)
	put(t, &a, 5, 2, "b", 2)
	checkList(t, &a, Item{5, 2, "b", 2}, Item{6, 1, "a", 1})
	var none *Agenda
	ticket, fault := none.Put(1, 0, "")
	checkNoTicket(t, ticket, fault, api.ErrFull)
}
