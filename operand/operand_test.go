package operand

import (
	"bytes"
	"math/rand"
	"reflect"
	"testing"

	"sundial/api"
)

func TestP8_1(t *testing.T) {
	if Reg(5) != (api.Operand{Kind: 1, R: 5, Base: -1, Index: -1}) || Mem(3, -9) != (api.Operand{Kind: 2, Base: 3, Index: -1, Scale: 1, Disp: -9}) || Mem(-7, 1).Base != -1 {
		t.Error("Reg, Mem")
	}
	mem := func(base, index, scale int, disp int64) api.Operand {
		return api.Operand{Kind: 2, Base: base, Index: index, Scale: scale, Disp: disp}
	}
	rip := api.Operand{Kind: 2, Base: -1, Index: -1, Scale: 1, Disp: 5, Rip: true}
	with := func(o api.Operand, change func(*api.Operand)) api.Operand { change(&o); return o }
	for i, c := range []struct {
		o    api.Operand
		want bool
	}{
		{Reg(0), true}, {Reg(15), true}, {Reg(16), false}, {Reg(-1), false}, {api.Operand{}, false}, {api.Operand{Kind: 3, Base: -1, Index: -1}, false}, {api.Operand{Kind: 4, Base: -1, Index: -1}, false},
		{with(Reg(1), func(o *api.Operand) { o.Base = 0 }), false}, {with(Reg(1), func(o *api.Operand) { o.Index = 0 }), false},
		{with(Reg(1), func(o *api.Operand) { o.Scale = 1 }), false}, {with(Reg(1), func(o *api.Operand) { o.Disp = 1 }), false},
		{with(Reg(1), func(o *api.Operand) { o.Rip = true }), false}, {with(Reg(1), func(o *api.Operand) { o.Imm = 1 }), false},
		{Mem(0, 0), true}, {Mem(15, 1<<31-1), true}, {Mem(15, 1<<31), false}, {Mem(-1, -1<<31), true}, {Mem(-1, -1<<31-1), false}, {Mem(16, 0), false},
		{mem(-2, -1, 1, 0), false}, {mem(0, -2, 1, 0), false}, {mem(0, 16, 1, 0), false}, {mem(0, 15, 8, 0), true}, {mem(4, 4, 1, 0), false}, {mem(4, 12, 2, 0), true},
		{mem(0, -1, 2, 0), false}, {mem(0, -1, 0, 0), false}, {mem(0, 1, 0, 0), false}, {mem(0, 1, 3, 0), false}, {mem(0, 1, 4, 0), true}, {mem(0, 1, 16, 0), false}, {mem(0, 1, -1, 0), false}, {mem(-1, 1, 1, 0), true},
		{with(Mem(1, 0), func(o *api.Operand) { o.R = 1 }), false}, {with(Mem(1, 0), func(o *api.Operand) { o.Imm = 1 }), false},
		{rip, true}, {with(rip, func(o *api.Operand) { o.Base = 0 }), false}, {with(rip, func(o *api.Operand) { o.Index = 0 }), false}, {with(rip, func(o *api.Operand) { o.Scale = 0 }), false}, {with(rip, func(o *api.Operand) { o.Disp = 1 << 40 }), false},
	} {
		if Right(c.o) != c.want {
			t.Error(i, c.o)
		}
	}
	for i, c := range []struct {
		o    api.Operand
		want []int
	}{{Reg(3), nil}, {rip, nil}, {Mem(0, 0), []int{0}}, {mem(0, 0, 1, 0), []int{0, 0}}, {Mem(3, 0), []int{3}}, {mem(-1, 5, 1, 0), []int{5}}, {mem(7, 5, 1, 0), []int{7, 5}}, {mem(5, 5, 1, 0), []int{5, 5}}, {api.Operand{}, nil}, {api.Operand{Kind: 3}, nil}} {
		if l := Uses(c.o); len(l) != len(c.want) || len(l) > 0 && !reflect.DeepEqual(l, c.want) {
			t.Error(i, l)
		}
	}
}

func TestP8_2Take(t *testing.T) {
	mem := func(base, index, scale int, disp int64) api.Operand {
		return api.Operand{Kind: 2, Base: base, Index: index, Scale: scale, Disp: disp}
	}
	rip := func(disp int64) api.Operand {
		return api.Operand{Kind: 2, Base: -1, Index: -1, Scale: 1, Disp: disp, Rip: true}
	}
	for i, c := range []struct {
		b   string
		rex byte
		reg int
		rm  api.Operand
	}{
		{"\xc1", 0, 0, Reg(1)}, {"\xc1", 5, 8, Reg(9)}, {"\xff", 0xfa, 7, Reg(7)}, {"\x44\x24\x08", 0, 0, Mem(4, 8)}, {"\x44\x24\x80", 1, 0, Mem(12, -128)},
		{"\x00", 0, 0, Mem(0, 0)}, {"\x00", 1, 0, Mem(8, 0)}, {"\x05\x01\x02\x03\x84", 1, 0, rip(-0x7bfcfdff)}, {"\x45\x00", 0, 0, Mem(5, 0)}, {"\x45\xff", 1, 0, Mem(13, -1)},
		{"\x85\x01\x00\x00\x00", 0, 0, Mem(5, 1)}, {"\x04\x25\x01\x00\x00\x80", 1, 0, Mem(-1, -0x7fffffff)}, {"\x04\xe5\x01\x00\x00\x00", 0, 0, Mem(-1, 1)},
		{"\x04\x65\x01\x00\x00\x00", 2, 0, mem(-1, 12, 2, 1)}, {"\x44\xc5\x07", 0, 0, mem(5, 0, 8, 7)}, {"\x04\x88", 3, 0, mem(8, 9, 4, 0)}, {"\x84\x08\xff\xff\xff\x7f", 0, 0, mem(0, 1, 1, 1<<31-1)},
		{"\x04\xe4", 0, 0, Mem(4, 0)}, {"\x38", 4, 15, Mem(0, 0)},
	} {
		reg, rm, n, e := Take([]byte(c.b+"\x99\x99"), c.rex)
		if reg != c.reg || rm != c.rm || n != len(c.b) || e != api.OK {
			t.Error(i, reg, rm, n, e)
		}
		for k := range len(c.b) {
			if reg, rm, n, e := Take([]byte(c.b[:k]), c.rex); reg != 0 || rm != (api.Operand{}) || n != 0 || e != api.ErrCode {
				t.Error(i, k, reg, rm, n, e)
			}
		}
	}
}

func TestP8_2Put(t *testing.T) {
	for i, c := range []struct {
		reg int
		rm  api.Operand
		b   string
		rex byte
	}{
		{0, Reg(1), "\xc1", 0}, {9, Reg(9), "\xc9", 5}, {0, Mem(4, 8), "\x44\x24\x08", 0}, {0, Mem(4, 0), "\x04\x24", 0}, {0, Mem(12, 0), "\x04\x24", 1},
		{0, Mem(5, 0), "\x45\x00", 0}, {0, Mem(13, 0), "\x45\x00", 1}, {0, Mem(0, 127), "\x40\x7f", 0}, {0, Mem(0, 128), "\x80\x80\x00\x00\x00", 0}, {0, Mem(0, -128), "\x40\x80", 0}, {0, Mem(0, -129), "\x80\x7f\xff\xff\xff", 0},
		{1, Mem(-1, 1), "\x0c\x25\x01\x00\x00\x00", 0}, {8, api.Operand{Kind: 2, Base: -1, Index: -1, Scale: 1, Disp: 2, Rip: true}, "\x05\x02\x00\x00\x00", 4},
		{0, api.Operand{Kind: 2, Base: -1, Index: 12, Scale: 8}, "\x04\xe5\x00\x00\x00\x00", 2}, {0, api.Operand{Kind: 2, Base: 13, Index: 0, Scale: 2}, "\x44\x45\x00", 1},
		{0, api.Operand{Kind: 2, Base: 1, Index: 2, Scale: 4, Disp: 300}, "\x84\x91\x2c\x01\x00\x00", 0},
	} {
		if b, rex, e := Put(c.reg, c.rm); !bytes.Equal(b, []byte(c.b)) || rex != c.rex || e != api.OK {
			t.Errorf("%d: %x %d %d", i, b, rex, e)
		}
	}
	for i, c := range []struct {
		reg int
		rm  api.Operand
	}{{-1, Reg(0)}, {16, Reg(0)}, {0, Reg(16)}, {0, api.Operand{}}, {0, Mem(0, 1<<31)}, {1 << 62, Mem(0, 0)}} {
		if b, rex, e := Put(c.reg, c.rm); b != nil || rex != 0 || e != api.ErrArg {
			t.Error(i, b, rex, e)
		}
	}
}

func TestP8_3(t *testing.T) {
	disps := []int64{0, 1, -1, 127, 128, -128, -129, 1<<31 - 1, -1 << 31}
	for base := -1; base < 16; base++ {
		for index := -1; index < 16; index++ {
			for _, scale := range []int{1, 2, 4, 8} {
				for _, disp := range disps {
					o := api.Operand{Kind: 2, Base: base, Index: index, Scale: scale, Disp: disp}
					reg := (base + index + 2) % 16
					b, rex, e := Put(reg, o)
					if (e == api.OK) != Right(o) {
						t.Fatal(o, e)
					}
					if e != api.OK {
						continue
					}
					r, rm, n, e := Take(b, rex)
					if r != reg || rm != o || n != len(b) || e != api.OK {
						t.Fatal(o, r, rm, n, e)
					}
				}
			}
		}
	}
	rng := rand.New(rand.NewSource(9))
	for range 20000 {
		b := make([]byte, rng.Intn(8))
		rng.Read(b)
		rex := byte(rng.Int())
		reg, rm, n, e := Take(b, rex)
		if e == api.OK && (!Right(rm) || n > len(b) || reg < 0 || reg > 15) || e != api.OK && n != 0 {
			t.Fatal(b, rex, reg, rm, n, e)
		}
		if e == api.OK {
			short, _, _ := Put(reg, rm)
			if len(short) > n {
				t.Fatal(b, short)
			}
		}
	}
}
