package agenda

import "cmp"

// order tells whether a is ahead of b (below 0), or behind it.
func order(a, b Item) int {
	return cmp.Or(cmp.Compare(a.At, b.At), cmp.Compare(a.Ticket, b.Ticket))
}

// heap of items, each ahead of the two below it; where each ticket's one stands; how many tickets there were.
type heap struct {
	items   []Item
	places  map[int]int
	tickets int
}

// newHeap tells a heap without items.
func newHeap() *heap {
	return &heap{places: map[int]int{}}
}

// ahead tells whether the item of place i is ahead of that of place j.
func (h *heap) ahead(i, j int) bool {
	return order(h.items[i], h.items[j]) < 0
}

// swap puts the items of two places each where the other one was.
func (h *heap) swap(i, j int) {
	h.items[i], h.items[j] = h.items[j], h.items[i]
	h.places[h.items[i].Ticket] = i
	h.places[h.items[j].Ticket] = j
}

// push puts item to the others, by the next ticket, and tells that.
func (h *heap) push(item Item) int {
	h.tickets++
	item.Ticket = h.tickets
	place := len(h.items)
	h.items = append(h.items, item)
	h.places[item.Ticket] = place
	rise(place, h.ahead, h.swap)
	return item.Ticket
}

// move lets the item of place be due at another time.
func (h *heap) move(place int, at int64) {
	h.items[place].At = at
	h.settle(place)
}

// remove takes the item of place away, and tells it.
func (h *heap) remove(place int) Item {
	item, last := h.items[place], len(h.items)-1
	h.swap(place, last)
	// What is there no more is kept no longer, not even behind the list's length.
	h.items[last] = Item{}
	h.items = h.items[:last]
	delete(h.places, item.Ticket)
	if place < last {
		h.settle(place)
	}
	return item
}

// settle brings the item of place, which may be anywhere in the order, where it belongs.
func (h *heap) settle(place int) {
	rise(place, h.ahead, h.swap)
	// If it rose, what stands there instead was above all those below already, and stays.
	sink(place, len(h.items), h.ahead, h.swap)
}

// rise swaps what is in place upwards, as long as it is ahead of what is above it.
func rise(place int, ahead func(i, j int) bool, swap func(i, j int)) {
	for place > 0 {
		above := (place - 1) / 2
		if !ahead(place, above) {
			return
		}
		swap(place, above)
		place = above
	}
}

// sink swaps what is in place downwards, as long as one of the two below it is ahead of it.
func sink(place, size int, ahead func(i, j int) bool, swap func(i, j int)) {
	for {
		first := place
		for below := 2*place + 1; below <= 2*place+2 && below < size; below++ {
			if ahead(below, first) {
				first = below
			}
		}
		if first == place {
			return
		}
		swap(place, first)
		place = first
	}
}
