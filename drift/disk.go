package drift

import "analemma/api"

// How many bytes a disk has.
const diskSize = 2 * slotSize

// Disk of a few bytes, whose power may go.
type Disk struct {
	bytes [diskSize]byte
	// How many bytes more are written ahead of the power's end, if it was said that it goes.
	left      int
	cut, dead bool
}

// outage is what a byte that finds no power ends by.
type outage struct{}

// NewDisk tells a disk with the first bytes of s, which has power.
func NewDisk(s string) *Disk {
	d := &Disk{}
	copy(d.bytes[:], s)
	return d
}

// Bytes tells all bytes of the disk.
func (d *Disk) Bytes() string {
	// A disk that is none is told as one without power on which nothing was written.
	if d == nil {
		return NewDisk("").Bytes()
	}
	return string(d.bytes[:])
}

// Cut lets the power go when so many bytes more have been written.
func (d *Disk) Cut(after int) {
	if d == nil {
		return
	}
	d.cut, d.left = true, max(after, 0)
}

// Dead tells whether the power went.
func (d *Disk) Dead() bool {
	return d == nil || d.dead
}

// Write writes the bytes of s from at on, as far as there is power.
func (d *Disk) Write(at int, s string) (fault api.Errno) {
	switch {
	case at < 0 || len(s) > diskSize-at:
		return api.ErrArg
	case d.Dead():
		return api.ErrDead
	}
	defer func() {
		switch end := recover().(type) {
		case nil:
		case outage:
			fault = api.ErrDead
		default:
			panic(end)
		}
	}()
	for place := range len(s) {
		d.put(at+place, s[place])
	}
	return api.OK
}

// put writes one byte, or ends by an outage ahead of it.
func (d *Disk) put(at int, b byte) {
	switch {
	case d.cut && d.left == 0:
		d.dead = true
		panic(outage{})
	case d.cut:
		d.left--
	}
	d.bytes[at] = b
}
