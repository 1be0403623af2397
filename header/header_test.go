package header

import (
	"encoding/binary"
	"math"
	"strings"
	"testing"

	"analemma/api"
)

const last = math.MaxUint64

// plain is a header that may be, whose fields all differ.
func plain() api.Header {
	return api.Header{
		Leap: 2, Version: 3, Mode: 5, Stratum: 0x11, Poll: 0x12, Precision: -20,
		RootDelay: 0x21222324, RootDisp: 0x31323334, Ref: 0x41424344,
		Reference: 0x5152535455565758, Origin: 0x6162636465666768, Receive: 0x7172737475767778, Transmit: 0x8182838485868788,
	}
}

// plainBytes are those of plain, written out.
const plainBytes = "\x9d\x11\x12\xec" + "\x21\x22\x23\x24" + "\x31\x32\x33\x34" + "\x41\x42\x43\x44" +
	"\x51\x52\x53\x54\x55\x56\x57\x58" + "\x61\x62\x63\x64\x65\x66\x67\x68" + "\x71\x72\x73\x74\x75\x76\x77\x78" + "\x81\x82\x83\x84\x85\x86\x87\x88"

// least is the header that may be of which all is 0 that may be.
func least() api.Header { return api.Header{Version: 1} }

// field is one of the small numbers: where it stands in a header, and its bounds.
type field struct {
	name      string
	at        func(*api.Header) *int
	low, high int
}

func fields() []field {
	return []field{
		{"Leap", func(h *api.Header) *int { return &h.Leap }, 0, 3},
		{"Version", func(h *api.Header) *int { return &h.Version }, 1, 4},
		{"Mode", func(h *api.Header) *int { return &h.Mode }, 0, 7},
		{"Stratum", func(h *api.Header) *int { return &h.Stratum }, 0, 255},
		{"Poll", func(h *api.Header) *int { return &h.Poll }, -128, 127},
		{"Precision", func(h *api.Header) *int { return &h.Precision }, -128, 127},
	}
}

// draws hands on numbers of 64 bits, the same ones each time.
func draws() func() uint64 {
	state := uint64(88172645463325252)
	return func() uint64 {
		state ^= state << 13
		state ^= state >> 7
		state ^= state << 17
		return state
	}
}

// headers are many that may be: all small numbers one by one, in a header that is nearly empty and in one that is not, and drawn ones.
func headers() []api.Header {
	var l []api.Header
	for _, f := range fields() {
		for n := f.low; n <= f.high; n++ {
			for _, h := range []api.Header{least(), plain()} {
				*f.at(&h) = n
				l = append(l, h)
			}
		}
	}
	draw := draws()
	for range 2000 {
		h := api.Header{
			RootDelay: uint32(draw()), RootDisp: uint32(draw()), Ref: uint32(draw()),
			Reference: draw(), Origin: draw(), Receive: draw(), Transmit: draw(),
		}
		for _, f := range fields() {
			*f.at(&h) = f.low + int(draw()%uint64(f.high-f.low+1))
		}
		l = append(l, h)
	}
	return l
}

// bytesOf tells a header's bytes as the chapter counts them.
func bytesOf(h api.Header) string {
	b := make([]byte, 48)
	b[0] = byte(64*h.Leap + 8*h.Version + h.Mode)
	b[1] = byte(h.Stratum)
	b[2] = byte((h.Poll + 256) % 256)
	b[3] = byte((h.Precision + 256) % 256)
	for i, n := range []uint32{h.RootDelay, h.RootDisp, h.Ref} {
		binary.BigEndian.PutUint32(b[4+4*i:], n)
	}
	for i, n := range []uint64{h.Reference, h.Origin, h.Receive, h.Transmit} {
		binary.BigEndian.PutUint64(b[16+8*i:], n)
	}
	return string(b)
}

// P5.1: each small number may be within its bounds, both with them, and nowhere else; Encode has ErrArg of what may not.
func TestMay(t *testing.T) {
	if May(api.Header{}) {
		t.Error("a header of which all is 0 may be")
	}
	for _, h := range headers() {
		if !May(h) {
			t.Fatalf("%+v may not be", h)
		}
	}
	for _, f := range fields() {
		out := []int{f.low - 1, f.high + 1, f.low - 256, f.high + 256, f.low - 1<<16, f.high + 1<<16, math.MinInt32, math.MaxInt32, math.MinInt, math.MinInt + 1, math.MaxInt, math.MaxInt - 1}
		for n := f.low - 300; n <= f.high+300; n++ {
			if n < f.low || n > f.high {
				out = append(out, n)
			}
		}
		for _, n := range out {
			h := plain()
			*f.at(&h) = n
			if May(h) {
				t.Errorf("%s may be %d", f.name, n)
			}
			if s, fault := Encode(h); s != "" || fault != api.ErrArg {
				t.Errorf("Encode of the %s %d = %q, %d", f.name, n, s, fault)
			}
		}
	}
}

// P5.1: one number that may not be is enough, and several are no better.
func TestMayOfSeveral(t *testing.T) {
	for _, f := range fields() {
		for _, g := range fields() {
			h := plain()
			*f.at(&h), *g.at(&h) = f.low-1, g.high+1
			if _, fault := Encode(h); May(h) || fault != api.ErrArg {
				t.Errorf("%+v may be", h)
			}
		}
	}
	// Here 64 times Leap, 8 times Version, and Mode come to what others come to that may be.
	for _, h := range []api.Header{{Leap: 0, Version: 9, Mode: 3}, {Leap: 0, Version: 0, Mode: 8}, {Leap: 1, Version: -1, Mode: 0}, {Leap: 4, Version: 4, Mode: 3}, {Leap: -1, Version: 12, Mode: 0}} {
		if s, fault := Encode(h); May(h) || s != "" || fault != api.ErrArg {
			t.Errorf("%+v may be", h)
		}
	}
}

// P5.1: 48 bytes, each number where it stands, the highest byte first.
func TestEncode(t *testing.T) {
	for _, x := range []struct {
		h api.Header
		s string
	}{
		{plain(), plainBytes},
		{least(), "\x08" + strings.Repeat("\x00", 47)},
		{api.Header{Leap: 3, Version: 4, Mode: 3}, "\xe3" + strings.Repeat("\x00", 47)},
		{api.Header{Version: 4, Mode: 3, Stratum: 255, Poll: -128, Precision: -1}, "\x23\xff\x80\xff" + strings.Repeat("\x00", 44)},
		{api.Header{Version: 4, Mode: 4, Stratum: 1, Poll: 127, Precision: 1}, "\x24\x01\x7f\x01" + strings.Repeat("\x00", 44)},
		{api.Header{Version: 1, RootDelay: 1, RootDisp: 1 << 31, Ref: math.MaxUint32}, "\x08\x00\x00\x00" + "\x00\x00\x00\x01" + "\x80\x00\x00\x00" + "\xff\xff\xff\xff" + strings.Repeat("\x00", 32)},
		{api.Header{Version: 1, Reference: 1}, "\x08" + strings.Repeat("\x00", 22) + "\x01" + strings.Repeat("\x00", 24)},
		{api.Header{Version: 1, Transmit: last}, "\x08" + strings.Repeat("\x00", 39) + strings.Repeat("\xff", 8)},
		{
			api.Header{Leap: 3, Version: 4, Mode: 7, Stratum: 255, Poll: -1, Precision: -1, RootDelay: math.MaxUint32, RootDisp: math.MaxUint32, Ref: math.MaxUint32, Reference: last, Origin: last, Receive: last, Transmit: last},
			"\xe7" + strings.Repeat("\xff", 47),
		},
	} {
		if s, fault := Encode(x.h); s != x.s || fault != api.OK {
			t.Errorf("Encode(%+v) = %x, %d, not %x", x.h, s, fault, x.s)
		}
	}
	for _, h := range headers() {
		if s, fault := Encode(h); s != bytesOf(h) || fault != api.OK {
			t.Fatalf("Encode(%+v) = %x, %d, not %x", h, s, fault, bytesOf(h))
		}
	}
}

// checkDecode holds what Decode answers of s against what it should.
func checkDecode(t *testing.T, s string, should api.Header, behind string, fault api.Errno) {
	t.Helper()
	h, rest, e := Decode(s)
	if h != should || rest != behind || e != fault {
		t.Errorf("Decode(%x) = %+v, %x, %d, not %+v, %x, %d", s, h, rest, e, should, behind, fault)
	}
}

// P5.2: fewer than 48 bytes are ErrShort, whatever their Version is.
func TestDecodeShort(t *testing.T) {
	for n := range 48 {
		for _, s := range []string{plainBytes, strings.Repeat("\x00", 48), strings.Repeat("\xff", 48)} {
			checkDecode(t, s[:n], api.Header{}, "", api.ErrShort)
		}
	}
}

// P5.2: of all first bytes those are ErrVersion whose Version is not 1 to 4, with nothing beside it.
func TestDecodeVersion(t *testing.T) {
	for n := range 256 {
		for _, behind := range []string{"", "x"} {
			should := plain()
			should.Leap, should.Version, should.Mode = n>>6, n>>3&7, n&7
			s := string([]byte{byte(n)}) + plainBytes[1:] + behind
			if should.Version < 1 || should.Version > 4 {
				checkDecode(t, s, api.Header{}, "", api.ErrVersion)
			} else {
				checkDecode(t, s, should, behind, api.OK)
			}
		}
	}
	checkDecode(t, strings.Repeat("\x00", 100), api.Header{}, "", api.ErrVersion)
	checkDecode(t, strings.Repeat("\xff", 100), api.Header{}, "", api.ErrVersion)
}

// P5.2: the header of the first 48 bytes, and what is behind them, whatever that is.
func TestDecode(t *testing.T) {
	for _, behind := range []string{"", "\x00", "rest", plainBytes, strings.Repeat("\xff", 47), strings.Repeat("far ", 1000)} {
		checkDecode(t, plainBytes+behind, plain(), behind, api.OK)
	}
	checkDecode(t, "\x08"+strings.Repeat("\x00", 47), least(), "", api.OK)
	for n := range 256 {
		should := least()
		should.Stratum, should.Poll, should.Precision = n, n, 255-n
		if n > 127 {
			should.Poll -= 256
		} else {
			should.Precision -= 256
		}
		checkDecode(t, string([]byte{8, byte(n), byte(n), byte(255 - n)})+strings.Repeat("\x00", 44), should, "", api.OK)
	}
}

// P5.3: a question has its Version, the Mode 3, its Poll and Transmit, and else nothing; ErrArg of what may not be.
func TestAsk(t *testing.T) {
	if s, fault := Ask(4, 6, 0x0102030405060708); s != "\x23\x00\x06"+strings.Repeat("\x00", 37)+"\x01\x02\x03\x04\x05\x06\x07\x08" || fault != api.OK {
		t.Errorf("Ask(4, 6, ..) = %x, %d", s, fault)
	}
	for version := -3; version < 300; version++ {
		for _, poll := range []int{math.MinInt, -300, -129, -128, -127, -1, 0, 4, 17, 126, 127, 128, 262, math.MaxInt} {
			for _, transmit := range []uint64{0, 1, 1 << 32, 1 << 63, last} {
				should, e := "", api.ErrArg
				if version >= 1 && version <= 4 && poll >= -128 && poll <= 127 {
					should, e = bytesOf(api.Header{Version: version, Mode: 3, Poll: poll, Transmit: transmit}), api.OK
				}
				if s, fault := Ask(version, poll, transmit); s != should || fault != e {
					t.Fatalf("Ask(%d, %d, %d) = %x, %d", version, poll, transmit, s, fault)
				}
			}
		}
	}
	for _, version := range []int{math.MinInt, math.MaxInt} {
		if s, fault := Ask(version, 6, 1); s != "" || fault != api.ErrArg {
			t.Errorf("Ask(%d, 6, 1) = %x, %d", version, s, fault)
		}
	}
}

// P5.3: the first four bytes, the first one highest; bytes 0 where there are fewer.
func TestRef(t *testing.T) {
	for s, n := range map[string]uint32{
		"": 0, "\x00": 0, "\x01": 1 << 24, "AB": 0x41420000, "\x00\x00\x07": 7 << 8, "ABC": 0x41424300, "ABC\x00": 0x41424300,
		"DENY": 0x44454e59, "\x00\x00\x00\x01": 1, "\x7f\x00\x00\x01": 0x7f000001, "\xff\xff\xff\xff": math.MaxUint32,
		"RATE and more": 0x52415445, "\x00\x00\x00\x00\xff": 0, "\u00e9": 0xc3a90000, "\xff": 0xff << 24, strings.Repeat("\x01", 5000): 0x01010101,
	} {
		if Ref(s) != n {
			t.Errorf("Ref(%q) = %x, not %x", s, Ref(s), n)
		}
	}
}

// P5.4: each header that may be comes back.
func TestHeadersComeBack(t *testing.T) {
	for i, h := range headers() {
		s, _ := Encode(h)
		behind := plainBytes[:i%48]
		checkDecode(t, s+behind, h, behind, api.OK)
		if t.Failed() {
			return
		}
	}
}

// P5.4: bytes that are a header's are just its: what is told of them has no others, and no other one has them.
func TestBytesComeBack(t *testing.T) {
	draw := draws()
	seen := map[string]api.Header{}
	for range 20000 {
		b := make([]byte, 48)
		for i := range b {
			b[i] = byte(draw() >> 40)
		}
		h, _, fault := Decode(string(b))
		if fault != api.OK {
			continue
		}
		if s, e := Encode(h); s != string(b) || e != api.OK {
			t.Fatalf("the bytes %x come back as %x, %d", b, s, e)
		}
	}
	for _, h := range headers() {
		s, _ := Encode(h)
		if other, is := seen[s]; is && other != h {
			t.Fatalf("%+v and %+v have the same bytes", h, other)
		}
		seen[s] = h
	}
}
