package header

import (
	"encoding/binary"
	"math/rand"
	"reflect"
	"testing"

	"sundial/api"
)

// object lays a header's bytes, its segments at SegOff, its sections at SecOff.
func object(h api.Header, size int) []byte {
	b := make([]byte, size)
	copy(b, Head(h))
	for i, s := range h.Segments {
		copy(b[int(h.SegOff)+56*i:], Segment(s))
	}
	for i, s := range h.Sections {
		copy(b[int(h.SecOff)+64*i:], Section(s))
	}
	return b
}

func segment(kind, flags uint32, n ...uint64) api.Segment {
	return api.Segment{Kind: kind, Flags: flags, Off: n[0], Addr: n[1], File: n[2], Mem: n[3], Align: n[4]}
}

func section(kind uint32, off, size uint64, link uint32, each uint64) api.Section {
	return api.Section{Kind: kind, Off: off, Size: size, Link: link, Each: each}
}

func sample() api.Header {
	return api.Header{Entry: 0x1122334455667788, SegOff: 64, SecOff: 200,
		Segments: []api.Segment{segment(1, 5, 2, 3, 4, 5, 6), segment(7, 0xffffffff, ^uint64(0), 1<<63, 9, 10, 11)},
		Sections: []api.Section{{}, section(2, 3, 4, 5, 24), section(3, 1<<40, ^uint64(0), 0xffffffff, 1)}}
}

func TestP3_1Errors(t *testing.T) {
	good := func() []byte { return object(sample(), 392) }
	if h, e := Read(good()); e != api.OK || !reflect.DeepEqual(h, sample()) {
		t.Fatal(h, e)
	}
	type change struct {
		at   int
		to   byte
		want api.Errno
	}
	for _, c := range []change{
		{0, 0, api.ErrMagic}, {1, 0, api.ErrMagic}, {2, 0, api.ErrMagic}, {3, 0, api.ErrMagic},
		{4, 1, api.ErrKind}, {5, 2, api.ErrKind}, {6, 0, api.ErrKind}, {7, 9, api.OK}, {15, 9, api.OK},
		{16, 3, api.ErrKind}, {17, 1, api.ErrKind}, {18, 3, api.ErrKind}, {19, 1, api.ErrKind}, {20, 0, api.ErrKind}, {23, 1, api.ErrKind},
		{48, 1, api.ErrKind}, {51, 1, api.ErrKind}, {52, 63, api.ErrKind}, {54, 55, api.ErrKind}, {55, 1, api.ErrKind}, {58, 65, api.ErrKind}, {59, 1, api.ErrKind},
		{62, 9, api.OK}, {63, 9, api.OK}, {56, 17, api.ErrKind}, {57, 1, api.ErrKind}, {60, 33, api.ErrKind}, {61, 1, api.ErrKind},
		{56, 16, api.ErrPlace}, {60, 4, api.ErrPlace}, {39, 0x80, api.ErrPlace}, {47, 0xff, api.ErrPlace}, {40, 201, api.ErrPlace},
	} {
		b := good()
		b[c.at] = c.to
		h, e := Read(b)
		if e != c.want || e != api.OK && !reflect.DeepEqual(h, api.Header{}) {
			t.Error(c, e, h)
		}
	}
}

func TestP3_1Order(t *testing.T) {
	if _, e := Read(nil); e != api.ErrShort {
		t.Error(e)
	}
	if _, e := Read(make([]byte, 63)); e != api.ErrShort {
		t.Error(e)
	}
	if _, e := Read(make([]byte, 64)); e != api.ErrMagic {
		t.Error(e)
	}
	if _, e := Read(make([]byte, api.MaxImage+1)); e != api.ErrArg {
		t.Error(e)
	}
	if _, e := Read(object(api.Header{}, api.MaxImage)); e != api.OK {
		t.Error(e)
	}
	if _, e := Read(object(api.Header{}, api.MaxImage+1)); e != api.ErrArg {
		t.Error(e)
	}
	b := object(sample(), 392)
	b[4], b[47] = 0, 0xff
	if _, e := Read(b); e != api.ErrKind {
		t.Error("kind goes ahead of place", e)
	}
}

func TestP3_1None(t *testing.T) {
	b := Head(api.Header{Entry: 1, SegOff: 1 << 63, SecOff: ^uint64(0)})
	b[54], b[58] = 1, 2
	h, e := Read(b)
	if e != api.OK || !reflect.DeepEqual(h, api.Header{Entry: 1, SegOff: 1 << 63, SecOff: ^uint64(0)}) {
		t.Error("without segments and sections", h, e)
	}
	b = object(api.Header{SecOff: 64, Sections: make([]api.Section, 1)}, 128)
	b[54] = 1
	if _, e := Read(b); e != api.OK {
		t.Error("without segments their size may be any", e)
	}
	b[58] = 1
	if _, e := Read(b); e != api.ErrKind {
		t.Error("with sections their size may not", e)
	}
	many := api.Header{SegOff: 64, SecOff: 64 + 16*56, Segments: make([]api.Segment, 16), Sections: make([]api.Section, 32)}
	if h, e := Read(object(many, 64+16*56+32*64)); e != api.OK || !reflect.DeepEqual(h, many) {
		t.Error("as many as there may be", e)
	}
	if _, e := Read(object(many, 64+16*56+32*64)[:64+16*56+32*64-1]); e != api.ErrPlace {
		t.Error("one byte too few", e)
	}
}

func TestP3_2(t *testing.T) {
	s := segment(1, 2, 3, 4, 5, 6, 7)
	b := Segment(s)
	want := make([]byte, 56)
	for i, at := range []int{0, 4, 8, 16, 32, 40, 48} {
		want[at] = byte(i + 1)
	}
	if !reflect.DeepEqual(b, want) {
		t.Error(b)
	}
	for i := 24; i < 32; i++ {
		b[i] = 0xff
	}
	if got, e := TakeSegment(append(b, 9)); e != api.OK || got != s {
		t.Error(got, e)
	}
	if got, e := TakeSegment(b); e != api.OK || got != s {
		t.Error(got, e)
	}
	if got, e := TakeSegment(b[:55]); e != api.ErrShort || got != (api.Segment{}) {
		t.Error(got, e)
	}
	x := section(1, 2, 3, 4, 5)
	b = Section(x)
	want = make([]byte, 64)
	for i, at := range []int{4, 24, 32, 40, 56} {
		want[at] = byte(i + 1)
	}
	if !reflect.DeepEqual(b, want) {
		t.Error(b)
	}
	for _, any := range [][2]int{{0, 4}, {8, 24}, {44, 56}} {
		for i := any[0]; i < any[1]; i++ {
			b[i] = 0xff
		}
	}
	if got, e := TakeSection(append(b, 9)); e != api.OK || got != x {
		t.Error(got, e)
	}
	if got, e := TakeSection(b); e != api.OK || got != x {
		t.Error(got, e)
	}
	if got, e := TakeSection(b[:63]); e != api.ErrShort || got != (api.Section{}) {
		t.Error(got, e)
	}
	if _, e := TakeSection(nil); e != api.ErrShort {
		t.Error(e)
	}
}

func TestP3_3(t *testing.T) {
	b := Head(api.Header{Entry: 1, SegOff: 2, SecOff: 3, Segments: make([]api.Segment, 0x10203), Sections: make([]api.Section, 5)})
	want := make([]byte, 64)
	copy(want, "\x7fELF\x02\x01\x01")
	for at, x := range map[int]uint16{16: 2, 18: 62, 20: 1, 24: 1, 32: 2, 40: 3, 52: 64, 54: 56, 56: 0x203, 58: 64, 60: 5} {
		binary.LittleEndian.PutUint16(want[at:], x)
	}
	if !reflect.DeepEqual(b, want) {
		t.Error(b)
	}
}

func TestP3_4(t *testing.T) {
	rng := rand.New(rand.NewSource(5))
	for range 100 {
		h := api.Header{Entry: rng.Uint64()}
		for range rng.Intn(17) {
			h.Segments = append(h.Segments, segment(rng.Uint32(), rng.Uint32(), rng.Uint64(), rng.Uint64(), rng.Uint64(), rng.Uint64(), rng.Uint64()))
		}
		for range rng.Intn(33) {
			h.Sections = append(h.Sections, section(rng.Uint32(), rng.Uint64(), rng.Uint64(), rng.Uint32(), rng.Uint64()))
		}
		h.SegOff = uint64(64 + rng.Intn(9))
		h.SecOff = h.SegOff + uint64(56*len(h.Segments)+rng.Intn(9))
		b := object(h, int(h.SecOff)+64*len(h.Sections))
		was := append([]byte(nil), b...)
		got, e := Read(b)
		if e != api.OK || !reflect.DeepEqual(got, h) || !reflect.DeepEqual(b, was) {
			t.Fatal(h, got, e)
		}
	}
}
