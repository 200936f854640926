package names

import (
	"encoding/binary"
	"math/rand"
	"reflect"
	"testing"

	"sundial/api"
)

func entry(name uint32, kind byte, section uint16, at, size uint64) []byte {
	b := make([]byte, 24)
	binary.LittleEndian.PutUint32(b, name)
	b[4], b[5] = kind, 0xee
	binary.LittleEndian.PutUint16(b[6:], section)
	binary.LittleEndian.PutUint64(b[8:], at)
	binary.LittleEndian.PutUint64(b[16:], size)
	return b
}

func join(l ...[]byte) []byte {
	var b []byte
	for _, x := range l {
		b = append(b, x...)
	}
	return b
}

// sample is an object's bytes and header: the table at 10, the strings at 10 + 24 * 4.
func sample() ([]byte, api.Header) {
	strings := []byte("\x00main\x00f\x00")
	table := join(entry(99, 2, 1, 7, 7), entry(1, 0x12, 1, 0x1000, 5), entry(6, 0x11, 1, 0x2000, 8), entry(7, 0xf2, 0, 3, 4))
	b := join(make([]byte, 10), table, strings)
	return b, api.Header{Sections: []api.Section{
		{Kind: 3}, {Kind: 2, Off: 10, Size: uint64(len(table)), Link: 2, Each: 24},
		{Kind: 3, Off: uint64(10 + len(table)), Size: uint64(len(strings))}, {Kind: 2, Each: 1},
	}}
}

func TestP4_1(t *testing.T) {
	b, h := sample()
	want := []api.Symbol{{Name: "main", At: 0x1000, Size: 5, Func: true}, {Name: "f", At: 0x2000, Size: 8}, {At: 3, Size: 4}}
	if l, e := Read(b, h); e != api.OK || !reflect.DeepEqual(l, want) {
		t.Error(l, e)
	}
	if l, e := Read(nil, api.Header{}); e != api.OK || len(l) != 0 {
		t.Error("no sections", l, e)
	}
	if l, e := Read(b, api.Header{Sections: []api.Section{{Kind: 3}, {Kind: 1}}}); e != api.OK || len(l) != 0 {
		t.Error("no table", l, e)
	}
	ahead := api.Header{Sections: []api.Section{h.Sections[1], h.Sections[2]}}
	ahead.Sections[0].Link = 1
	if l, e := Read(b, ahead); e != api.OK || !reflect.DeepEqual(l, want) {
		t.Error("a table ahead of all", l, e)
	}
	h.Sections[1].Size = 0
	if l, e := Read(b, h); e != api.OK || len(l) != 0 {
		t.Error("an empty table", l, e)
	}
	if l, e := Read(nil, api.Header{Sections: make([]api.Section, 33)}); e != api.ErrArg || l != nil {
		t.Error("many sections", l, e)
	}
	if l, e := Read(nil, api.Header{Sections: make([]api.Section, 32)}); e != api.OK || l != nil {
		t.Error("as many as may be", l, e)
	}
}

func TestP4_1Wrong(t *testing.T) {
	for i, c := range []struct {
		change func(b []byte, h *api.Header)
		want   api.Errno
	}{
		{func(b []byte, h *api.Header) { h.Sections[1].Each = 25 }, api.ErrKind},
		{func(b []byte, h *api.Header) { h.Sections[1].Each = 0 }, api.ErrKind},
		{func(b []byte, h *api.Header) { h.Sections[1].Size-- }, api.ErrKind},
		{func(b []byte, h *api.Header) { h.Sections[1].Size = 201 * 24 }, api.ErrKind},
		{func(b []byte, h *api.Header) { h.Sections[1].Size = 200 * 24 }, api.ErrPlace},
		{func(b []byte, h *api.Header) { h.Sections[1].Link = 4 }, api.ErrKind},
		{func(b []byte, h *api.Header) { h.Sections[1].Link = 0xffffffff }, api.ErrKind},
		{func(b []byte, h *api.Header) { h.Sections[1].Link = 1 }, api.ErrKind},
		{func(b []byte, h *api.Header) { h.Sections[1].Off = 1 << 63 }, api.ErrPlace},
		{func(b []byte, h *api.Header) { h.Sections[1].Off = ^uint64(0) - 95 }, api.ErrPlace},
		{func(b []byte, h *api.Header) { h.Sections[2].Off = ^uint64(0) }, api.ErrPlace},
		{func(b []byte, h *api.Header) { h.Sections[2].Size++ }, api.ErrPlace},
		{func(b []byte, h *api.Header) { h.Sections[2].Size-- }, api.ErrPlace},
		{func(b []byte, h *api.Header) { b[10+24*3] = 8 }, api.ErrPlace},
		{func(b []byte, h *api.Header) { b[10+24*3+3] = 1 }, api.ErrPlace},
		{func(b []byte, h *api.Header) { b[10+24] = 8 }, api.ErrPlace},
		{func(b []byte, h *api.Header) { h.Sections[1].Size, h.Sections[1].Off = 0, uint64(len(b)) }, api.OK},
		{func(b []byte, h *api.Header) { h.Sections[1].Size, h.Sections[1].Off = 0, uint64(len(b))+1 }, api.ErrPlace},
		{func(b []byte, h *api.Header) {
			h.Sections[1].Size, h.Sections[2].Size, h.Sections[2].Off = 0, 0, uint64(len(b))
		}, api.OK},
		{func(b []byte, h *api.Header) { b[10] = 0xff }, api.OK},
		{func(b []byte, h *api.Header) { h.Sections[1].Each = 1; h.Sections[1].Off = 1 << 40 }, api.ErrKind},
	} {
		b, h := sample()
		c.change(b, &h)
		if l, e := Read(b, h); e != c.want || e != api.OK && l != nil {
			t.Error(i, l, e)
		}
	}
}

func TestP4_2(t *testing.T) {
	l := []api.Symbol{{Name: "a", At: 9}, {Name: "a", At: 5, Func: true}, {Name: "b", At: 5, Func: true}, {Name: "a", At: 1, Func: true}, {Name: "c"}}
	was := append([]api.Symbol(nil), l...)
	if s, e := Find(l, "a"); e != api.OK || s != l[1] {
		t.Error(s, e)
	}
	for _, name := range []string{"c", "", "ab"} {
		if s, e := Find(l, name); e != api.ErrName || s != (api.Symbol{}) {
			t.Error(name, s, e)
		}
	}
	if _, e := Find(nil, "a"); e != api.ErrName {
		t.Error(e)
	}
	if r := Functions(l); !reflect.DeepEqual(r, []api.Symbol{l[3], l[1], l[2]}) || !reflect.DeepEqual(l, was) {
		t.Error(r)
	}
	if len(Functions(nil)) != 0 {
		t.Error("functions of nothing")
	}
	if !Same(nil, []api.Symbol{}) || !Same(l, was) || Same(l, l[1:]) || Same(l[:1], l[1:2]) {
		t.Error("Same")
	}
}

func TestP4_3(t *testing.T) {
	rng := rand.New(rand.NewSource(6))
	for range 200 {
		b, h := sample()
		want, _ := Read(b, h)
		ahead := rng.Intn(50)
		b = join(make([]byte, ahead), b, make([]byte, rng.Intn(50)))
		rng.Read(b[:ahead])
		for i := 1; i < 3; i++ {
			h.Sections[i].Off += uint64(ahead)
		}
		if l, e := Read(b, h); e != api.OK || !Same(l, want) {
			t.Fatal(l, e)
		}
		s, e := Find(want, "main")
		if fs := Functions(want); e != api.OK || !Same(fs, []api.Symbol{s}) {
			t.Fatal(fs)
		}
	}
}
