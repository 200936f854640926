package cpu

import (
	"math/rand"
	"testing"

	"sundial/api"
	"sundial/operand"
)

func some(rng *rand.Rand) api.CPU {
	var c api.CPU
	for i := range 16 {
		c.R[i] = rng.Uint64()
		rng.Read(c.X[i][:])
	}
	c.IP = rng.Uint64()
	c.F = api.Flags{C: true, S: true}
	return c
}

func TestP14_1AndP14_4(t *testing.T) {
	rng := rand.New(rand.NewSource(16))
	for _, r := range []int{0, 1, 4, 15, 16, 31, -1, -16, -17, 1<<63 - 1, -1 << 63} {
		k := r & 15
		for _, w := range []int{1, 2, 4, 8, 0, 3, 5, 16, -1, 1 << 40} {
			c := some(rng)
			was := c
			n := uint(64)
			if w == 1 || w == 2 || w == 4 {
				n = uint(8 * w)
			}
			mask := ^uint64(0) >> (64 - n)
			if Get(c, r, w) != c.R[k]&mask {
				t.Error("Get", r, w)
			}
			x := rng.Uint64()
			d := Set(c, r, w, x)
			want := c
			want.R[k] = x & mask
			if n < 32 {
				want.R[k] |= c.R[k] &^ mask
			}
			if d != want || c != was || Get(d, r, w) != x&mask {
				t.Error("Set", r, w)
			}
			if Vector(c, r) != c.X[k] {
				t.Error("Vector", r)
			}
		}
	}
}

func TestP14_2Cond(t *testing.T) {
	for b := range 32 {
		f := api.Flags{C: b&1 != 0, Z: b&2 != 0, S: b&4 != 0, O: b&8 != 0, P: b&16 != 0}
		for i, want := range []bool{f.O, f.C, f.Z, f.C || f.Z, f.S, f.P, f.S != f.O, f.Z || f.S != f.O} {
			for _, more := range []uint8{0, 16, 240} {
				if Cond(f, uint8(2*i)+more) != want || Cond(f, uint8(2*i+1)+more) == want {
					t.Error(f, i)
				}
			}
		}
	}
}

func TestP14_2Address(t *testing.T) {
	c := some(rand.New(rand.NewSource(17)))
	for i, x := range []struct {
		o    api.Operand
		want uint64
	}{
		{operand.Mem(3, -5), c.R[3] - 5},
		{api.Operand{Kind: 2, Base: 0, Index: 0, Scale: 2}, c.R[0] * 3},
		{operand.Mem(-1, -1), ^uint64(0)},
		{api.Operand{Kind: 2, Base: 2, Index: 15, Scale: 8, Disp: 1<<31 - 1}, c.R[2] + c.R[15]*8 + 1<<31 - 1},
		{api.Operand{Kind: 2, Base: -1, Index: 1, Scale: 2}, c.R[1] * 2},
		{api.Operand{Kind: 2, Base: -1, Index: -1, Scale: 1, Disp: -8, Rip: true}, 0x1234 - 8},
	} {
		if at, e := Address(c, x.o, 0x1234); at != x.want || e != api.OK {
			t.Error(i, at, e)
		}
	}
	for i, o := range []api.Operand{{}, operand.Reg(3), {Kind: 3, Base: -1, Index: -1}, operand.Mem(16, 0), operand.Mem(0, 1<<31), {Kind: 2, Base: 0, Index: 4, Scale: 1}, {Kind: 2, Base: 0, Index: -1, Scale: 1, Rip: true}} {
		if at, e := Address(c, o, 1); at != 0 || e != api.ErrArg {
			t.Error(i, at, e)
		}
	}
}

func TestP14_3(t *testing.T) {
	for b := range 256 {
		f := Unpacked(uint8(b))
		if f != (api.Flags{C: b&1 != 0, P: b&4 != 0, Z: b&64 != 0, S: b&128 != 0, O: b&8 != 0}) {
			t.Error(b, f)
		}
		if Packed(f) != uint8(b&(1|4|64|128|8)) || Unpacked(Packed(f)) != f {
			t.Error(b, f)
		}
	}
}
