package writer

import (
	"bytes"
	"encoding/binary"
	"math/rand"
	"reflect"
	"strings"
	"testing"

	"sundial/api"
	"sundial/header"
	"sundial/image"
)

func page(at uint64, perm uint8) api.Page {
	b := make([]byte, 4096)
	for i := range b {
		b[i] = byte(uint64(i)*3 + at>>12)
	}
	return api.Page{At: at, Perm: perm, Data: b}
}

func sample() api.Image {
	return api.Image{Pages: []api.Page{page(0x1000, 5), page(0x2000, 6), page(1<<48-4096, 0)},
		Symbols: []api.Symbol{{Name: "f", At: 0x1000, Size: 9, Func: true}, {Name: "", At: ^uint64(0)}, {Name: "data", At: 0x2000, Size: 1 << 63}}}
}

func TestP6_1(t *testing.T) {
	if !Right(sample()) || !Right(api.Image{}) {
		t.Error("right ones")
	}
	for i, c := range []struct {
		change func(*api.Image)
		want   bool
	}{
		{func(p *api.Image) { p.Pages[0].At = 0 }, false},
		{func(p *api.Image) { p.Pages[0].At = 0x1001 }, false},
		{func(p *api.Image) { p.Pages[0].At = 0x2000 }, false},
		{func(p *api.Image) { p.Pages[0].At = 0x3000 }, false},
		{func(p *api.Image) { p.Pages[2].At = 1 << 48 }, false},
		{func(p *api.Image) { p.Pages[2].At = 1<<64 - 4096 }, false},
		{func(p *api.Image) { p.Pages[2].At = 1<<48 - 2*4096 }, true},
		{func(p *api.Image) { p.Pages[0].Perm = 3 }, false},
		{func(p *api.Image) { p.Pages[0].Perm = 7 }, false},
		{func(p *api.Image) { p.Pages[0].Perm = 8 }, false},
		{func(p *api.Image) { p.Pages[0].Perm = 0x85 }, false},
		{func(p *api.Image) { p.Pages[0].Perm = 1 }, true},
		{func(p *api.Image) { p.Pages[0].Data = p.Pages[0].Data[1:] }, false},
		{func(p *api.Image) { p.Pages[0].Data = append(p.Pages[0].Data, 0) }, false},
		{func(p *api.Image) { p.Pages[0].Data = nil }, false},
		{func(p *api.Image) { p.Symbols[0].Name = "a\x00" }, false},
		{func(p *api.Image) { p.Symbols[2].Name = "\x00a" }, false},
		{func(p *api.Image) { p.Symbols = make([]api.Symbol, 199) }, true},
		{func(p *api.Image) { p.Symbols = make([]api.Symbol, 200) }, false},
	} {
		p := sample()
		c.change(&p)
		if Right(p) != c.want {
			t.Error(i)
		}
		if b, e := Write(p, 1); (e == api.OK) != c.want || !c.want && (e != api.ErrArg || b != nil) {
			t.Error(i, e)
		}
	}
	var many api.Image
	for i := range 17 {
		many.Pages = append(many.Pages, page(uint64(i+1)*4096, 4))
	}
	if Right(many) {
		t.Error("17 pages")
	}
	many.Pages = many.Pages[:16]
	if !Right(many) || Size(many) != 17*4096 {
		t.Error("16 pages", Size(many))
	}
	// 16 pages leave 15 for all that stands ahead of them: the longest name goes up to there.
	room := 15 * 0x1000
	room += 0x1000 - (64 + 16*56 + 3*64 + 2*24 + 2)
	many.Symbols = []api.Symbol{{Name: strings.Repeat("a", room)}}
	if !Right(many) || Size(many) != 1<<17 {
		t.Error("a name that fits", Size(many))
	}
	many.Symbols[0].Name += "a"
	if Right(many) || Size(many) != 1<<17+4096 {
		t.Error("a name that is too long", Size(many))
	}
}

func TestSize(t *testing.T) {
	if Size(api.Image{}) != 4096 {
		t.Error(Size(api.Image{}))
	}
	odd := api.Image{Pages: make([]api.Page, 40), Symbols: []api.Symbol{{Name: "a\x00b"}}}
	if Size(odd) != 4096+40*4096 {
		t.Error(Size(odd))
	}
	b, e := Write(sample(), 5)
	if e != api.OK || len(b) != Size(sample()) || len(b) != 4*4096 {
		t.Error(e, len(b))
	}
}

func TestP6_2(t *testing.T) {
	p := sample()
	b, e := Write(p, 0x1234)
	h, e2 := header.Read(b)
	if e != api.OK || e2 != api.OK || h.Entry != 0x1234 || h.SegOff != 64 || h.SecOff != 64+3*56 {
		t.Fatal(e, e2, h)
	}
	for i, s := range h.Segments {
		if want := (api.Segment{Kind: 1, Flags: uint32(p.Pages[i].Perm), Off: uint64(4096 * (i + 1)), Addr: p.Pages[i].At, File: 4096, Mem: 4096, Align: 4096}); s != want {
			t.Error(s, want)
		}
	}
	symbols := uint64(64 + 3*56 + 3*64)
	if !reflect.DeepEqual(h.Sections, []api.Section{{}, {Kind: 2, Off: symbols, Size: 4 * 24, Link: 2, Each: 24}, {Kind: 3, Off: symbols + 4*24, Size: 9}}) {
		t.Error(h.Sections)
	}
	var want []byte
	want = append(want, make([]byte, 24)...)
	for _, s := range []struct {
		name     uint32
		kind     byte
		section  uint16
		at, size uint64
	}{{1, 0x12, 1, 0x1000, 9}, {3, 0x10, 0, ^uint64(0), 0}, {4, 0x10, 0, 0x2000, 1 << 63}} {
		want = binary.LittleEndian.AppendUint32(want, s.name)
		want = append(want, s.kind, 0)
		want = binary.LittleEndian.AppendUint16(want, s.section)
		want = binary.LittleEndian.AppendUint64(want, s.at)
		want = binary.LittleEndian.AppendUint64(want, s.size)
	}
	want = append(want, "\x00f\x00\x00data\x00"...)
	want = append(want, make([]byte, 4096-int(symbols)-len(want))...)
	if !bytes.Equal(b[symbols:4096], want) {
		t.Error("symbols and strings")
	}
	for i, x := range p.Pages {
		if !bytes.Equal(b[4096*(i+1):4096*(i+2)], x.Data) {
			t.Error("page", i)
		}
	}
	b[4096]++
	if p.Pages[0].Data[0] == b[4096] {
		t.Error("shared")
	}
	if b, e := Write(api.Image{}, 0); e != api.OK || len(b) != 4096 {
		t.Error(e, len(b))
	}
}

func TestP6_3(t *testing.T) {
	rng := rand.New(rand.NewSource(8))
	for range 100 {
		var p api.Image
		at := uint64(0)
		for range rng.Intn(17) {
			at += uint64(1+rng.Intn(3)) * 4096
			p.Pages = append(p.Pages, page(at, []uint8{0, 1, 2, 4, 5, 6}[rng.Intn(6)]))
		}
		for range rng.Intn(200) {
			p.Symbols = append(p.Symbols, api.Symbol{Name: strings.Repeat("x", rng.Intn(5)) + "é\xff", At: rng.Uint64(), Size: rng.Uint64(), Func: rng.Intn(2) == 0})
		}
		b, e := Write(p, rng.Uint64())
		got, e2 := image.Load(b)
		if e != api.OK || e2 != api.OK || !image.Same(got, p) {
			t.Fatal(e, e2)
		}
	}
}
