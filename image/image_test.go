package image

import (
	"bytes"
	"encoding/binary"
	"math/rand"
	"reflect"
	"testing"

	"sundial/api"
	"sundial/header"
)

func load(flags uint32, off, addr, file, mem uint64) api.Segment {
	return api.Segment{Kind: 1, Flags: flags, Off: off, Addr: addr, File: file, Mem: mem}
}

func filled(n int) []byte {
	b := make([]byte, n)
	for i := range b {
		b[i] = byte(i*7 + i>>8 + 1)
	}
	return b
}

func TestP5_1Errors(t *testing.T) {
	const page = 4096
	b := filled(10000)
	for i, c := range []struct {
		l    []api.Segment
		want api.Errno
		many int
	}{
		{nil, api.OK, 0},
		{[]api.Segment{load(5, 0, page, 10, 10)}, api.OK, 1},
		{[]api.Segment{load(5, 0, page, 11, 10)}, api.ErrKind, 0},
		{[]api.Segment{load(3, 0, page, 10, 10)}, api.ErrKind, 0},
		{[]api.Segment{load(7, 1<<40, 0, 10, 10)}, api.ErrKind, 0},
		{[]api.Segment{load(0xfffffff8, 0, page, 10, 10)}, api.OK, 1},
		{[]api.Segment{load(5, 10001, page, 0, 10)}, api.ErrPlace, 0},
		{[]api.Segment{load(5, 10000, page, 0, 10)}, api.OK, 1},
		{[]api.Segment{load(5, 9991, page, 10, 10)}, api.ErrPlace, 0},
		{[]api.Segment{load(5, 9990, page, 10, 10)}, api.OK, 1},
		{[]api.Segment{load(5, ^uint64(0), page, 1, 1)}, api.ErrPlace, 0},
		{[]api.Segment{load(5, 1, page, ^uint64(0), ^uint64(0))}, api.ErrPlace, 0},
		{[]api.Segment{load(5, 0, page-1, 0, 10)}, api.ErrPlace, 0},
		{[]api.Segment{load(5, 0, 1<<48-1, 0, 1)}, api.OK, 1},
		{[]api.Segment{load(5, 0, 1<<48-1, 0, 2)}, api.ErrPlace, 0},
		{[]api.Segment{load(5, 0, 1<<48, 0, 1)}, api.ErrPlace, 0},
		{[]api.Segment{load(5, 0, ^uint64(0), 0, 1)}, api.ErrPlace, 0},
		{[]api.Segment{load(5, 0, page, 0, ^uint64(0))}, api.ErrPlace, 0},
		{[]api.Segment{load(5, 0, page, 0, 16*page)}, api.OK, 16},
		{[]api.Segment{load(5, 0, page, 0, 16*page+1)}, api.ErrPlace, 0},
		{[]api.Segment{load(5, 0, page+4095, 0, 15*page+2)}, api.ErrPlace, 0},
		{[]api.Segment{load(5, 0, page, 0, 8*page), load(6, 0, 9*page, 0, 8*page)}, api.OK, 16},
		{[]api.Segment{load(5, 0, page, 0, 8*page), load(6, 0, 9*page, 0, 8*page+1)}, api.ErrPlace, 0},
		{[]api.Segment{load(5, 0, page, 0, 1), load(5, 0, page+9, 0, 1)}, api.ErrPlace, 0},
		{[]api.Segment{load(5, 0, 3*page, 0, 1), load(5, 0, 2*page, 0, page+1)}, api.ErrPlace, 0},
		{[]api.Segment{load(5, 0, 3*page, 0, 1), load(5, 0, 2*page, 0, page)}, api.OK, 2},
		{[]api.Segment{load(5, 0, 0, 0, 1), load(7, 0, page, 0, 1)}, api.ErrPlace, 0},
		{[]api.Segment{load(7, 0, page, 0, 1), load(5, 0, 0, 0, 1)}, api.ErrKind, 0},
		{[]api.Segment{{Kind: 2, Flags: 7, Mem: 9, File: 99}, load(7, ^uint64(0), 0, 8, 0)}, api.OK, 0},
	} {
		p, e := Pages(b, api.Header{Segments: c.l})
		if e != c.want || len(p) != c.many {
			t.Error(i, e, len(p))
		}
	}
}

func TestP5_1BytesAndP5_3(t *testing.T) {
	b := filled(9000)
	h := api.Header{Segments: []api.Segment{load(6, 5, 0x5ffe, 5000, 9000), load(0xd, 8000, 0x2010, 1000, 1000), {Kind: 1}, load(0, 0, 0x3000, 0, 1)}}
	p, e := Pages(b, h)
	if e != api.OK || len(p) != 6 {
		t.Fatal(e, len(p))
	}
	wantAt, wantPerm := []uint64{0x2000, 0x3000, 0x5000, 0x6000, 0x7000, 0x8000}, []uint8{5, 0, 6, 6, 6, 6}
	for i, x := range p {
		if x.At != wantAt[i] || x.Perm != wantPerm[i] || len(x.Data) != 4096 {
			t.Fatal(i, x.At, x.Perm, len(x.Data))
		}
		for k, c := range x.Data {
			at, want := x.At+uint64(k), byte(0)
			if at >= 0x5ffe && at < 0x5ffe+5000 {
				want = b[5+at-0x5ffe]
			}
			if at >= 0x2010 && at < 0x2010+1000 {
				want = b[8000+at-0x2010]
			}
			if c != want {
				t.Fatalf("byte at %x", at)
			}
		}
	}
	b[8000]++
	if p[0].Data[0x10] == b[8000] {
		t.Error("shared with what was handed in")
	}
}

// object is an object's bytes with one page's segment, and a function f.
func object() []byte {
	h := api.Header{SegOff: 64, SecOff: 120, Segments: []api.Segment{load(5, 0, 0x1000, 300, 4096)},
		Sections: []api.Section{{Kind: 2, Off: 248, Size: 48, Link: 1, Each: 24}, {Kind: 3, Off: 296, Size: 3}}}
	b := header.Head(h)
	b = append(b, header.Segment(h.Segments[0])...)
	for _, s := range h.Sections {
		b = append(b, header.Section(s)...)
	}
	row := make([]byte, 48)
	row[24], row[28], row[30] = 1, 0x12, 1
	binary.LittleEndian.PutUint64(row[32:], 0x1000)
	return append(append(b, row...), 0, 'f', 0, 0)
}

func TestP5_2(t *testing.T) {
	b := object()
	p, e := Load(b)
	if e != api.OK || len(p.Pages) != 1 || !bytes.Equal(p.Pages[0].Data[:300], b) || !reflect.DeepEqual(p.Symbols, []api.Symbol{{Name: "f", At: 0x1000, Func: true}}) {
		t.Fatal(e, p.Symbols)
	}
	for i, c := range []struct {
		at   int
		to   byte
		want api.Errno
	}{{0, 0, api.ErrMagic}, {4, 0, api.ErrKind}, {68, 7, api.ErrKind}, {81, 0, api.ErrPlace}, {176, 25, api.ErrKind}, {272, 9, api.ErrPlace}} {
		b := object()
		b[c.at] = c.to
		if p, e := Load(b); e != c.want || p.Pages != nil || p.Symbols != nil {
			t.Error(i, e)
		}
	}
	b = object()
	b[81], b[176] = 0, 25
	if _, e := Load(b); e != api.ErrPlace {
		t.Error("pages go ahead of names", e)
	}
	if p, e := Load(header.Head(api.Header{})); e != api.OK || len(p.Pages) != 0 || len(p.Symbols) != 0 {
		t.Error("a header alone", e)
	}
	if _, e := Load(nil); e != api.ErrShort {
		t.Error(e)
	}
	own := Own(p)
	if !Same(own, p) || !Same(api.Image{}, api.Image{Pages: []api.Page{}}) || !Same(Own(api.Image{}), api.Image{}) {
		t.Error("Own")
	}
	own.Pages[0].Data[5]++
	if Same(own, p) || p.Pages[0].Data[5] != b[5] {
		t.Error("bytes")
	}
	for i, change := range []func(*api.Image){
		func(x *api.Image) { x.Pages[0].At++ }, func(x *api.Image) { x.Pages[0].Perm++ }, func(x *api.Image) { x.Pages = nil },
		func(x *api.Image) { x.Symbols[0].Name = "g" }, func(x *api.Image) { x.Symbols = nil }, func(x *api.Image) { x.Pages[0].Data = nil },
	} {
		own := Own(p)
		change(&own)
		if Same(own, p) {
			t.Error(i)
		}
	}
}

func TestLoadOfAnything(t *testing.T) {
	rng := rand.New(rand.NewSource(7))
	for range 3000 {
		b := object()
		for range rng.Intn(6) {
			b[rng.Intn(len(b))] = byte(rng.Int())
		}
		p, e := Load(b[:rng.Intn(len(b)+1)])
		for i, x := range p.Pages {
			if e != api.OK || x.At%4096 != 0 || len(x.Data) != 4096 || x.Perm&3 == 3 || i > 0 && p.Pages[i-1].At >= x.At {
				t.Fatal(e, x.At, x.Perm)
			}
		}
	}
}
