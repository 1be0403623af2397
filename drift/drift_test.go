package drift

import (
	"encoding/binary"
	"math"
	"strings"
	"testing"

	"analemma/api"
)

const (
	top   = math.MaxInt64
	least = math.MinInt64
	// How many bytes a Save writes: the mark, what is behind it, the mark.
	saved = 17
)

// draws hands on numbers of 64 bits, the same ones each time.
func draws() func() uint64 {
	state := uint64(88172645463325252)
	return func() uint64 {
		state ^= state << 13
		state ^= state >> 7
		state ^= state << 17
		return state
	}
}

// zeros tells n bytes 0.
func zeros(n int) string {
	return strings.Repeat("\x00", n)
}

// letters tells n bytes, none of them 0, no two neighbours the same.
func letters(n int) string {
	b := make([]byte, n)
	for i := range b {
		b[i] = byte(200 + i%50)
	}
	return string(b)
}

// laid tells s with the bytes of x from at on.
func laid(s string, at int, x string) string {
	return s[:at] + x + s[at+len(x):]
}

// packed tells the bytes of a slot by the chapter's own words.
func packed(seq uint32, freq int64) string {
	b := []byte{1}
	b = binary.BigEndian.AppendUint32(b, seq)
	b = binary.BigEndian.AppendUint64(b, uint64(freq))
	sum, placed := 0, 0
	for place := 1; place <= 12; place++ {
		sum += int(b[place])
		placed += int(b[place]) * place
	}
	return string(append(b, byte(sum%256), byte(placed%256), 0))
}

// checkBytes holds a disk's bytes against what they should be.
func checkBytes(t *testing.T, d *Disk, s string) {
	t.Helper()
	if is := d.Bytes(); is != s {
		t.Errorf("Bytes() = %q, not %q", is, s)
	}
}

// checkDead holds whether the power went against whether it should have.
func checkDead(t *testing.T, d *Disk, dead bool) {
	t.Helper()
	if d.Dead() != dead {
		t.Errorf("Dead() = %v, not %v", d.Dead(), dead)
	}
}

// checkWrite writes, and holds the error and the bytes against what they should be.
func checkWrite(t *testing.T, d *Disk, at int, s string, fault api.Errno, bytes string) {
	t.Helper()
	if is := d.Write(at, s); is != fault {
		t.Errorf("Write(%d, %q) = %d, not %d", at, s, is, fault)
	}
	checkBytes(t, d, bytes)
}

// checkSave saves, and holds the error and the bytes against what they should be.
func checkSave(t *testing.T, d *Disk, freq int64, fault api.Errno, bytes string) {
	t.Helper()
	if is := Save(d, freq); is != fault {
		t.Errorf("Save(%d) = %d, not %d", freq, is, fault)
	}
	checkBytes(t, d, bytes)
}

// checkLoad holds what is loaded against what it should be.
func checkLoad(t *testing.T, d *Disk, freq int64, is bool) {
	t.Helper()
	if f, so := Load(d); f != freq || so != is {
		t.Errorf("Load = %d, %v, not %d, %v", f, so, freq, is)
	}
}

// checkSlots holds a disk's slots against what they should be.
func checkSlots(t *testing.T, d *Disk, first, second Slot) {
	t.Helper()
	if is := Slots(d); is != [2]Slot{first, second} {
		t.Errorf("Slots = %v, not %v, %v", is, first, second)
	}
}

// The chapter's example.
func TestExample(t *testing.T) {
	checkLoad(t, NewDisk(zeros(32)), 0, false)
	checkLoad(t, NewDisk(""), 0, false)
}

// P9.1: a new disk has 32 bytes, the first ones of s, and power.
func TestNewDisk(t *testing.T) {
	for _, size := range []int{0, 1, 15, 16, 17, 31, 32, 33, 100, 3000} {
		s := letters(size)
		d := NewDisk(s)
		checkBytes(t, d, (s + zeros(32))[:32])
		checkDead(t, d, false)
		for range 40 {
			checkWrite(t, d, 0, letters(32), api.OK, letters(32))
		}
		checkDead(t, d, false)
	}
	checkBytes(t, NewDisk("é\xff\x00z"), "\xc3\xa9\xff\x00z"+zeros(27))
}

// P9.1: what may be written stands there, from at on, and nothing else is another.
func TestWrite(t *testing.T) {
	for at := range 33 {
		for size := range 33 - at {
			d := NewDisk(letters(32))
			s := strings.Repeat("\x07", size)
			checkWrite(t, d, at, s, api.OK, laid(letters(32), at, s))
			checkDead(t, d, false)
		}
	}
}

// P9.1: what begins below 0, or ends behind the 32nd byte, is not written, not even in part, nor does it count.
func TestWriteWrong(t *testing.T) {
	d := NewDisk(letters(32))
	d.Cut(3)
	for _, x := range []struct {
		at   int
		size int
	}{
		{-1, 0}, {-1, 1}, {-1, 2}, {-1, 40}, {-32, 32}, {-16, 16}, {math.MinInt, 0}, {math.MinInt, 5},
		{0, 33}, {0, 3000}, {1, 32}, {16, 17}, {31, 2}, {32, 1}, {33, 0}, {33, 1}, {64, 16},
		{math.MaxInt, 0}, {math.MaxInt, 1}, {math.MaxInt - 31, 32}, {1 << 32, 4},
	} {
		checkWrite(t, d, x.at, strings.Repeat("x", x.size), api.ErrArg, letters(32))
		checkDead(t, d, false)
	}
	checkWrite(t, d, 0, "abc", api.OK, laid(letters(32), 0, "abc"))
	checkDead(t, d, false)
	checkWrite(t, d, 3, "d", api.ErrDead, laid(letters(32), 0, "abc"))
}

// P9.1: the power goes ahead of the next byte behind so many; those ahead of it stand, those behind it don't.
func TestCut(t *testing.T) {
	for after := range 40 {
		for size := range 33 {
			s := strings.Repeat("\x07", size)
			d := NewDisk(letters(32))
			d.Cut(after)
			checkDead(t, d, false)
			if size <= after {
				checkWrite(t, d, 32-size, s, api.OK, letters(32)[:32-size]+s)
				checkDead(t, d, false)
				continue
			}
			checkWrite(t, d, 32-size, s, api.ErrDead, laid(letters(32), 32-size, s[:after]))
			checkDead(t, d, true)
		}
	}
}

// P9.1: the bytes of all that is written count, from the Cut on; of below 0 is none.
func TestCutCounts(t *testing.T) {
	d := NewDisk("")
	checkWrite(t, d, 0, "abcdef", api.OK, "abcdef"+zeros(26))
	d.Cut(5)
	checkWrite(t, d, 0, "gh", api.OK, "ghcdef"+zeros(26))
	checkWrite(t, d, 9, "", api.OK, "ghcdef"+zeros(26))
	checkWrite(t, d, 3, "ijk", api.OK, "ghcijk"+zeros(26))
	checkDead(t, d, false)
	checkWrite(t, d, 9, "", api.OK, "ghcijk"+zeros(26))
	checkDead(t, d, false)
	checkWrite(t, d, 9, "l", api.ErrDead, "ghcijk"+zeros(26))
	checkDead(t, d, true)
	for _, after := range []int{0, -1, -5, math.MinInt} {
		d := NewDisk("")
		d.Cut(after)
		checkDead(t, d, false)
		checkWrite(t, d, 0, "", api.OK, zeros(32))
		checkDead(t, d, false)
		checkWrite(t, d, 0, "ab", api.ErrDead, zeros(32))
		checkDead(t, d, true)
	}
}

// P9.1: what was cut anew counts from then on.
func TestCutAnew(t *testing.T) {
	d := NewDisk("")
	d.Cut(0)
	d.Cut(2)
	checkWrite(t, d, 0, "ab", api.OK, "ab"+zeros(30))
	d.Cut(1)
	checkWrite(t, d, 2, "c", api.OK, "abc"+zeros(29))
	d.Cut(math.MaxInt)
	for range 100 {
		checkWrite(t, d, 0, letters(32), api.OK, letters(32))
	}
	d.Cut(3)
	d.Cut(1)
	checkWrite(t, d, 30, "yz", api.ErrDead, letters(30)+"y"+letters(32)[31:])
	checkDead(t, d, true)
}

// P9.1: on a dead disk nothing is written any more; ErrArg is told ahead of that; a disk of its bytes has power.
func TestDead(t *testing.T) {
	d := NewDisk("abc")
	d.Cut(1)
	after := "xbc" + zeros(29)
	checkWrite(t, d, 0, "xyz", api.ErrDead, after)
	for range 2 {
		for _, s := range []string{"", "a", letters(32)} {
			checkWrite(t, d, 0, s, api.ErrDead, after)
		}
		checkWrite(t, d, 32, "", api.ErrDead, after)
		checkWrite(t, d, 33, "", api.ErrArg, after)
		checkWrite(t, d, -1, "a", api.ErrArg, after)
		checkWrite(t, d, 0, letters(33), api.ErrArg, after)
		checkDead(t, d, true)
		d.Cut(99)
		checkDead(t, d, true)
	}
	e := NewDisk(d.Bytes())
	checkDead(t, e, false)
	for range 3 {
		checkWrite(t, e, 0, letters(32), api.OK, letters(32))
	}
	checkDead(t, e, false)
	checkBytes(t, d, after)
}

// R1: a disk that nobody made is a new one; one that is none is dead, and has no bytes but 0.
func TestNoDisk(t *testing.T) {
	var d Disk
	checkBytes(t, &d, zeros(32))
	checkDead(t, &d, false)
	checkLoad(t, &d, 0, false)
	checkSave(t, &d, 5, api.OK, packed(1, 5)+zeros(16))
	e := d
	checkSave(t, &e, 6, api.OK, packed(1, 5)+packed(2, 6))
	checkBytes(t, &d, packed(1, 5)+zeros(16))
	var none *Disk
	none.Cut(5)
	checkWrite(t, none, 0, "", api.ErrDead, zeros(32))
	checkWrite(t, none, -1, "", api.ErrArg, zeros(32))
	checkSave(t, none, 5, api.ErrDead, zeros(32))
	checkSlots(t, none, Slot{}, Slot{})
	checkLoad(t, none, 0, false)
	checkDead(t, none, true)
}

// P9.2: a slot's bytes, written out.
func TestPack(t *testing.T) {
	for _, x := range []struct {
		seq   uint32
		freq  int64
		bytes string
	}{
		{0, 0, "\x01" + zeros(15)},
		{1, 0, "\x01\x00\x00\x00\x01" + zeros(8) + "\x01\x04\x00"},
		{0, 1, "\x01" + zeros(11) + "\x01\x01\x0c\x00"},
		{3, 256, "\x01\x00\x00\x00\x03" + zeros(6) + "\x01\x00\x04\x17\x00"},
		{0x01020304, 0x05060708090a0b0c, "\x01\x01\x02\x03\x04\x05\x06\x07\x08\x09\x0a\x0b\x0c\x4e\x8a\x00"},
		{math.MaxUint32, -1, "\x01" + strings.Repeat("\xff", 12) + "\xf4\xb2\x00"},
		{1 << 31, least, "\x01\x80\x00\x00\x00\x80" + zeros(7) + "\x00\x00\x00"},
		{1 << 31, 0, "\x01\x80\x00\x00\x00" + zeros(8) + "\x80\x80\x00"},
		{0, top, "\x01" + zeros(4) + "\x7f" + strings.Repeat("\xff", 7) + "\x78\x3c\x00"},
		{0, -256, "\x01" + zeros(4) + strings.Repeat("\xff", 7) + "\x00\xf9\xc8\x00"},
	} {
		if is := Pack(x.seq, x.freq); is != x.bytes {
			t.Errorf("Pack(%d, %d) = %q, not %q", x.seq, x.freq, is, x.bytes)
		}
	}
	draw := draws()
	for range 2000 {
		seq, freq := uint32(draw()), int64(draw())
		if is := Pack(seq, freq); is != packed(seq, freq) {
			t.Errorf("Pack(%d, %d) = %q, not %q", seq, freq, is, packed(seq, freq))
		}
	}
}

// P9.2: what is packed is told again, in either slot.
func TestSlots(t *testing.T) {
	draw := draws()
	for range 500 {
		a := Slot{true, uint32(draw()), int64(draw())}
		b := Slot{true, uint32(draw()), int64(draw())}
		first, second := packed(a.Seq, a.Freq), packed(b.Seq, b.Freq)
		checkSlots(t, NewDisk(first+second), a, b)
		checkSlots(t, NewDisk(first), a, Slot{})
		checkSlots(t, NewDisk(zeros(16)+second), Slot{}, b)
	}
	checkSlots(t, NewDisk(packed(0, 0)+packed(0, 0)), Slot{Whole: true}, Slot{Whole: true})
	checkSlots(t, NewDisk(zeros(32)), Slot{}, Slot{})
	checkSlots(t, NewDisk(letters(32)), Slot{}, Slot{})
	checkSlots(t, NewDisk(packed(7, 7)[:15]), Slot{Whole: true, Seq: 7, Freq: 7}, Slot{})
	checkSlots(t, NewDisk("\x00"+packed(7, 7)), Slot{}, Slot{})
	checkSlots(t, NewDisk(zeros(8)+packed(7, 7)), Slot{}, Slot{})
}

// P9.5: a byte that is another one makes a slot not whole, and leaves the other slot as it is.
func TestOneOtherByte(t *testing.T) {
	for _, slot := range []Slot{{true, 0, 0}, {true, 1, -1}, {true, math.MaxUint32, top}, {true, 0x80010203, 0x0405060708090a0b}} {
		s := packed(slot.Seq, slot.Freq)
		for place := range 16 {
			for by := 1; by < 256; by++ {
				other := laid(s, place, string([]byte{s[place] + byte(by)}))
				d := NewDisk(other + packed(9, 10))
				checkSlots(t, d, Slot{}, Slot{true, 9, 10})
				checkLoad(t, d, 10, true)
				d = NewDisk(packed(9, 10) + other)
				checkSlots(t, d, Slot{true, 9, 10}, Slot{})
				checkLoad(t, d, 10, true)
			}
		}
	}
}

// P9.2: two bytes that changed places, or sums that did, make a slot not whole.
func TestSwapped(t *testing.T) {
	s := []byte(packed(0x01020304, 0x05060708090a0b0c))
	for i := range 15 {
		for j := range i {
			if s[i] == s[j] {
				continue
			}
			s[i], s[j] = s[j], s[i]
			checkSlots(t, NewDisk(string(s)), Slot{}, Slot{})
			s[i], s[j] = s[j], s[i]
		}
	}
}

// P9.3: of two whole slots the one whose number is ahead is loaded, as numbers go round; the first one, if neither is.
func TestLoadNewest(t *testing.T) {
	for _, x := range []struct {
		first, second uint32
		is            int64
	}{
		{1, 2, 20}, {2, 1, 10}, {0, 1, 20}, {1, 0, 10}, {100, 5, 10}, {5, 100, 20},
		{0, 0, 10}, {7, 7, 10}, {math.MaxUint32, math.MaxUint32, 10},
		{math.MaxUint32, 0, 20}, {0, math.MaxUint32, 10}, {math.MaxUint32, 5, 20}, {5, math.MaxUint32, 10},
		{1<<31 - 1, 1 << 31, 20}, {1 << 31, 1<<31 - 1, 10},
		{0, 1<<31 - 1, 20}, {1<<31 - 1, 0, 10}, {0, 1 << 31, 10}, {1 << 31, 0, 10}, {0, 1<<31 + 1, 10}, {1<<31 + 1, 0, 20},
		{5, 1<<31 + 5, 10}, {1<<31 + 5, 5, 10}, {5, 1<<31 + 4, 20}, {5, 1<<31 + 6, 10},
		{math.MaxUint32, 1<<31 - 1, 10}, {math.MaxUint32, 1<<31 - 2, 20}, {math.MaxUint32, 1 << 31, 10},
	} {
		checkLoad(t, NewDisk(packed(x.first, 10)+packed(x.second, 20)), x.is, true)
	}
}

// P9.3: the only slot that is whole is loaded, whatever the other one's number is; none, if none is.
func TestLoadWhole(t *testing.T) {
	for _, seq := range []uint32{0, 1, 1 << 31, math.MaxUint32} {
		for _, freq := range []int64{0, 1, -1, top, least} {
			s, other := packed(seq, freq), packed(seq+1, 99)
			broken := laid(other, 0, "\x00")
			checkLoad(t, NewDisk(s+broken), freq, true)
			checkLoad(t, NewDisk(broken+s), freq, true)
			checkLoad(t, NewDisk(s), freq, true)
			checkLoad(t, NewDisk(zeros(16)+s), freq, true)
			checkLoad(t, NewDisk(broken+broken), 0, false)
			checkLoad(t, NewDisk(laid(s, 15, "\x01")+laid(s, 0, "\x02")), 0, false)
		}
	}
}

// P9.3: what is loaded changes nothing, and a dead disk is loaded as well.
func TestLoadChangesNothing(t *testing.T) {
	s := packed(4, 40) + packed(5, 50)
	d := NewDisk(s)
	d.Cut(0)
	for range 3 {
		checkLoad(t, d, 50, true)
		checkSlots(t, d, Slot{true, 4, 40}, Slot{true, 5, 50})
		checkDead(t, d, false)
		checkBytes(t, d, s)
	}
	checkSave(t, d, 60, api.ErrDead, s)
	checkLoad(t, d, 50, true)
	checkSlots(t, d, Slot{true, 4, 40}, Slot{true, 5, 50})
}

// P9.4: the slots are written by turns, with numbers that go up by one, from 1 on.
func TestSaveByTurns(t *testing.T) {
	d := NewDisk("")
	slots := [2]string{zeros(16), zeros(16)}
	for n := range uint32(50) {
		freq := int64(n)*1_000_003 - 20_000_000
		slots[n%2] = packed(n+1, freq)
		checkSave(t, d, freq, api.OK, slots[0]+slots[1])
		checkLoad(t, d, freq, true)
	}
	checkDead(t, d, false)
}

// P9.4: the slot that is not the newest one is written, the first one if there is none; numbers go round.
func TestSaveWhere(t *testing.T) {
	for _, x := range saves() {
		checkSave(t, NewDisk(x.before), -7, api.OK, x.after)
	}
}

// P9.4: any frequency is saved.
func TestSaveAny(t *testing.T) {
	d := NewDisk("")
	for _, freq := range []int64{0, 1, -1, top, least, top - 1, least + 1, 1 << 32, -1 << 31} {
		if fault := Save(d, freq); fault != api.OK {
			t.Errorf("Save(%d) = %d", freq, fault)
		}
		checkLoad(t, NewDisk(d.Bytes()), freq, true)
	}
}

// save of the frequency -7: the disk's bytes ahead of it, those behind it, and where the slot begins that is written.
type save struct {
	before, after string
	at            int
}

// saves tells saves of all kinds that P9.3 and P9.4 tell apart.
func saves() []save {
	broken := laid(packed(9, 9), 5, "\xee")
	unmarked := laid(packed(8, 8), 0, "\x00")
	return []save{
		{zeros(32), packed(1, -7) + zeros(16), 0},
		{letters(32), packed(1, -7) + letters(32)[16:], 0},
		{broken + broken, packed(1, -7) + broken, 0},
		{unmarked + unmarked, packed(1, -7) + unmarked, 0},
		{packed(1, 1) + zeros(16), packed(1, 1) + packed(2, -7), 16},
		{packed(4, 4) + broken, packed(4, 4) + packed(5, -7), 16},
		{packed(8, 8) + unmarked, packed(8, 8) + packed(9, -7), 16},
		{zeros(16) + packed(1, 1), packed(2, -7) + packed(1, 1), 0},
		{broken + packed(4, 4), packed(5, -7) + packed(4, 4), 0},
		{unmarked + packed(8, 8), packed(9, -7) + packed(8, 8), 0},
		{packed(4, 4) + packed(5, 5), packed(6, -7) + packed(5, 5), 0},
		{packed(5, 5) + packed(4, 4), packed(5, 5) + packed(6, -7), 16},
		{packed(5, 5) + packed(5, 6), packed(5, 5) + packed(6, -7), 16},
		{packed(5, -7) + packed(6, -7), packed(7, -7) + packed(6, -7), 0},
		{packed(0, 5) + packed(1<<31, 6), packed(0, 5) + packed(1, -7), 16},
		{packed(1<<31, 5) + packed(0, 6), packed(1<<31, 5) + packed(1<<31+1, -7), 16},
		{packed(1<<31-1, 5) + zeros(16), packed(1<<31-1, 5) + packed(1<<31, -7), 16},
		{packed(math.MaxUint32, 5) + zeros(16), packed(math.MaxUint32, 5) + packed(0, -7), 16},
		{packed(math.MaxUint32, 5) + packed(math.MaxUint32-1, 6), packed(math.MaxUint32, 5) + packed(0, -7), 16},
		{packed(math.MaxUint32-1, 5) + packed(math.MaxUint32, 6), packed(0, -7) + packed(math.MaxUint32, 6), 0},
		{packed(math.MaxUint32, 5) + packed(0, 6), packed(1, -7) + packed(0, 6), 0},
	}
}

// P9.4: first the mark alone is 0, then comes what is behind it, then the mark; the first error ends it.
func TestSaveSteps(t *testing.T) {
	for _, x := range saves() {
		written := x.after[x.at : x.at+16]
		for after := range saved + 3 {
			d := NewDisk(x.before)
			d.Cut(after)
			switch {
			case after == 0:
				checkSave(t, d, -7, api.ErrDead, x.before)
			case after < saved:
				checkSave(t, d, -7, api.ErrDead, laid(x.before, x.at, "\x00"+written[1:after]))
			default:
				checkSave(t, d, -7, api.OK, x.after)
			}
			checkDead(t, d, after < saved)
		}
	}
}

// P9.4: on a dead disk nothing is saved.
func TestSaveDead(t *testing.T) {
	for _, x := range saves() {
		d := NewDisk(x.before)
		d.Cut(0)
		for range 3 {
			checkSave(t, d, -7, api.ErrDead, x.before)
			checkDead(t, d, true)
		}
	}
}

// P9.5: wherever the power goes, what is loaded is what was loaded ahead of it, or what was saved.
func TestPowerGoes(t *testing.T) {
	for _, x := range saves() {
		was, there := Load(NewDisk(x.before))
		for after := range saved + 3 {
			d := NewDisk(x.before)
			d.Cut(after)
			fault := Save(d, 77)
			for _, e := range []*Disk{d, NewDisk(d.Bytes())} {
				if fault == api.OK {
					checkLoad(t, e, 77, true)
				} else {
					checkLoad(t, e, was, there)
				}
			}
		}
	}
}

// P9.5: the same holds for however many saves, and ends of the power.
func TestPowerGoesOften(t *testing.T) {
	draw := draws()
	d := NewDisk("")
	last, there := int64(0), false
	for range 5000 {
		if draw()%3 == 0 {
			d.Cut(int(draw() % 60))
		}
		freq := int64(draw())
		fault := Save(d, freq)
		if fault == api.OK {
			last, there = freq, true
		} else if fault != api.ErrDead || !d.Dead() {
			t.Fatalf("Save = %d, Dead() = %v", fault, d.Dead())
		}
		if d.Dead() {
			d = NewDisk(d.Bytes())
		}
		checkLoad(t, d, last, there)
	}
}
