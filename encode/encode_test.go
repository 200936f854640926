package encode

import (
	"bytes"
	"encoding/hex"
	"math/rand"
	"testing"

	"sundial/api"
	"sundial/decode"
	"sundial/operand"
)

func reg(r int) api.Operand { return operand.Reg(r) }

func mem(base int, disp int64) api.Operand { return operand.Mem(base, disp) }

func TestP10_1Operands(t *testing.T) {
	if Imm(-5) != (api.Operand{Kind: 3, Base: -1, Index: -1, Imm: -5}) {
		t.Error("Imm")
	}
	for r, want := range map[int]int{0: 16, 15: 31, 16: 16, 31: 31, -1: 31, -16: 16, -1 << 63: 16, 1<<63 - 1: 31} {
		if Vec(r) != (api.Operand{Kind: 1, R: want, Base: -1, Index: -1}) {
			t.Error("Vec", r, Vec(r))
		}
	}
}

var known = []struct {
	code string
	x    api.Insn
}{
	{"4889c8", api.Insn{Do: api.DoMov, Width: 8, A: reg(0), B: reg(1)}},
	{"89c8", api.Insn{Do: api.DoMov, Width: 4, A: reg(0), B: reg(1)}},
	{"4d8b4c2408", api.Insn{Do: api.DoMov, Width: 8, A: reg(9), B: mem(12, 8)}},
	{"48894c2408", api.Insn{Do: api.DoMov, Width: 8, A: mem(4, 8), B: reg(1)}},
	{"48c7c0ffffffff", api.Insn{Do: api.DoMov, Width: 8, A: reg(0), B: Imm(-1)}},
	{"c70001000000", api.Insn{Do: api.DoMov, Width: 4, A: mem(0, 0), B: Imm(1)}},
	{"49baffffffff00000000", api.Insn{Do: api.DoMov, Width: 8, A: reg(10), B: Imm(1<<32 - 1)}},
	{"880b", api.Insn{Do: api.DoMov, Width: 1, A: mem(3, 0), B: reg(1)}},
	{"408833", api.Insn{Do: api.DoMov, Width: 1, A: mem(3, 0), B: reg(6)}},
	{"408a33", api.Insn{Do: api.DoMov, Width: 1, A: reg(6), B: mem(3, 0)}},
	{"8806", api.Insn{Do: api.DoMov, Width: 1, A: mem(6, 0), B: reg(0)}},
	{"4088c7", api.Insn{Do: api.DoMov, Width: 1, A: reg(7), B: reg(0)}},
	{"40c6c4ff", api.Insn{Do: api.DoMov, Width: 1, A: reg(4), B: Imm(-1)}},
	{"8d0424", api.Insn{Do: api.DoLea, Width: 4, A: reg(0), B: mem(4, 0)}},
	{"01d8", api.Insn{Do: api.DoAdd, Width: 4, A: reg(0), B: reg(3)}},
	{"09d8", api.Insn{Do: api.DoOr, Width: 4, A: reg(0), B: reg(3)}},
	{"11d8", api.Insn{Do: api.DoAdc, Width: 4, A: reg(0), B: reg(3)}},
	{"19d8", api.Insn{Do: api.DoSbb, Width: 4, A: reg(0), B: reg(3)}},
	{"4c2100", api.Insn{Do: api.DoAnd, Width: 8, A: mem(0, 0), B: reg(8)}},
	{"29d8", api.Insn{Do: api.DoSub, Width: 4, A: reg(0), B: reg(3)}},
	{"3306", api.Insn{Do: api.DoXor, Width: 4, A: reg(0), B: mem(6, 0)}},
	{"483b06", api.Insn{Do: api.DoCmp, Width: 8, A: reg(0), B: mem(6, 0)}},
	{"4883e480", api.Insn{Do: api.DoAnd, Width: 8, A: reg(4), B: Imm(-128)}},
	{"81c980000000", api.Insn{Do: api.DoOr, Width: 4, A: reg(1), B: Imm(128)}},
	{"83f87f", api.Insn{Do: api.DoCmp, Width: 4, A: reg(0), B: Imm(127)}},
	{"85db", api.Insn{Do: api.DoTest, Width: 4, A: reg(3), B: reg(3)}},
	{"f7c301000000", api.Insn{Do: api.DoTest, Width: 4, A: reg(3), B: Imm(1)}},
	{"48ffc0", api.Insn{Do: api.DoInc, Width: 8, A: reg(0)}},
	{"ff09", api.Insn{Do: api.DoDec, Width: 4, A: mem(1, 0)}},
	{"f7d0", api.Insn{Do: api.DoNot, Width: 4, A: reg(0)}},
	{"f7d8", api.Insn{Do: api.DoNeg, Width: 4, A: reg(0)}},
	{"48f7e3", api.Insn{Do: api.DoMul, Width: 8, A: reg(3)}},
	{"48f7f3", api.Insn{Do: api.DoDiv, Width: 8, A: reg(3)}},
	{"c1c0ff", api.Insn{Do: api.DoRol, Width: 4, A: reg(0), B: Imm(255)}},
	{"c1c800", api.Insn{Do: api.DoRor, Width: 4, A: reg(0), B: Imm(0)}},
	{"48d3f8", api.Insn{Do: api.DoSar, Width: 8, A: reg(0), B: reg(1)}},
	{"48d3e8", api.Insn{Do: api.DoShr, Width: 8, A: reg(0), B: reg(1)}},
	{"48d3e0", api.Insn{Do: api.DoShl, Width: 8, A: reg(0), B: reg(1)}},
	{"480fafc3", api.Insn{Do: api.DoImul, Width: 8, A: reg(0), B: reg(3)}},
	{"50", api.Insn{Do: api.DoPush, Width: 8, A: reg(0)}},
	{"415f", api.Insn{Do: api.DoPop, Width: 8, A: reg(15)}},
	{"e8fcffffff", api.Insn{Do: api.DoCall, Width: 8, B: Imm(-4)}},
	{"c3", api.Insn{Do: api.DoRet, Width: 8}},
	{"e9feffffff", api.Insn{Do: api.DoJmp, Width: 8, B: Imm(-2)}},
	{"41ffe4", api.Insn{Do: api.DoJmp, Width: 8, A: reg(12)}},
	{"ff2424", api.Insn{Do: api.DoJmp, Width: 8, A: mem(4, 0)}},
	{"0f8f01000000", api.Insn{Do: api.DoJcc, Cond: 15, Width: 8, B: Imm(1)}},
	{"4d0f42c8", api.Insn{Do: api.DoCmov, Cond: 2, Width: 8, A: reg(9), B: reg(8)}},
	{"0f94c0", api.Insn{Do: api.DoSet, Cond: 4, Width: 1, A: reg(0)}},
	{"400f9fc6", api.Insn{Do: api.DoSet, Cond: 15, Width: 1, A: reg(6)}},
	{"410f90c6", api.Insn{Do: api.DoSet, Width: 1, A: reg(14)}},
	{"0fb6f0", api.Insn{Do: api.DoMovzx, Width: 4, A: reg(6), B: reg(0)}},
	{"400fb6c6", api.Insn{Do: api.DoMovzx, Width: 4, A: reg(0), B: reg(6)}},
	{"480fbe4601", api.Insn{Do: api.DoMovsx, Width: 8, A: reg(0), B: mem(6, 1)}},
	{"90", api.Insn{Do: api.DoNop, Width: 8}},
	{"f30f6f03", api.Insn{Do: api.DoMovdqu, Width: 16, A: Vec(0), B: mem(3, 0)}},
	{"f3450f6fd1", api.Insn{Do: api.DoMovdqu, Width: 16, A: Vec(10), B: Vec(9)}},
	{"f3410f7f08", api.Insn{Do: api.DoMovdqu, Width: 16, A: mem(8, 0), B: Vec(1)}},
	{"660fefc0", api.Insn{Do: api.DoPxor, Width: 16, A: Vec(0), B: Vec(0)}},
	{"66440f38dcc1", api.Insn{Do: api.DoAesenc, Width: 16, A: Vec(8), B: Vec(1)}},
	{"660f38dd00", api.Insn{Do: api.DoAeslast, Width: 16, A: Vec(0), B: mem(0, 0)}},
	{"660f3a44c1ff", api.Insn{Do: api.DoClmul, Width: 16, A: Vec(0), B: Vec(1), Imm: 255}},
}

func TestP10_2(t *testing.T) {
	var all []byte
	var l []api.Insn
	for _, c := range known {
		want, _ := hex.DecodeString(c.code)
		c.x.Len = 77 // counts for nothing
		b, e := Encode(c.x)
		if e != api.OK || !bytes.Equal(b, want) || !Right(c.x) {
			t.Errorf("%s: %x %d", c.code, b, e)
		}
		all, l = append(all, want...), append(l, c.x)
	}
	if b, e := Code(l...); e != api.OK || !bytes.Equal(b, all) {
		t.Error("Code", e)
	}
	if b, e := Code(append(l, api.Insn{})...); e != api.ErrArg || b != nil {
		t.Error("Code of a wrong one", b, e)
	}
	if b, e := Code(); e != api.OK || len(b) != 0 {
		t.Error("Code of none", b, e)
	}
}

func TestP10_1Wrong(t *testing.T) {
	rip := api.Operand{Kind: 2, Base: -1, Index: -1, Scale: 1, Rip: true}
	for i, x := range []api.Insn{
		{}, {Do: api.Deeds, Width: 8}, {Do: 255, Width: 8},
		{Do: api.DoMov, Width: 2, A: reg(0), B: reg(1)}, {Do: api.DoMov, Width: 8, A: mem(0, 0), B: mem(1, 0)}, {Do: api.DoMov, Width: 8, A: mem(0, 0), B: Imm(1 << 31)}, {Do: api.DoMov, Width: 4, A: reg(0), B: Imm(1<<32 - 1)},
		{Do: api.DoMov, Width: 1, A: reg(0), B: Imm(128)}, {Do: api.DoMov, Width: 1, A: reg(0), B: Imm(-129)}, {Do: api.DoMov, Width: 8, A: Imm(1), B: reg(0)}, {Do: api.DoMov, Width: 8, A: reg(16), B: reg(0)}, {Do: api.DoMov, Width: 8, A: reg(0)},
		{Do: api.DoMov, Width: 8, Cond: 1, A: reg(0), B: reg(1)}, {Do: api.DoMov, Width: 8, Imm: 1, A: reg(0), B: reg(1)},
		{Do: api.DoLea, Width: 8, A: reg(0), B: reg(1)}, {Do: api.DoLea, Width: 1, A: reg(0), B: mem(1, 0)}, {Do: api.DoLea, Width: 8, A: mem(0, 0), B: mem(1, 0)},
		{Do: api.DoAdd, Width: 1, A: reg(0), B: reg(1)}, {Do: api.DoAdd, Width: 8, A: reg(0), B: Imm(1 << 31)}, {Do: api.DoAdd, Width: 8, A: reg(0)}, {Do: api.DoCmp, Width: 16, A: reg(0), B: reg(0)},
		{Do: api.DoTest, Width: 8, A: reg(0), B: mem(0, 0)}, {Do: api.DoInc, Width: 8, A: reg(0), B: reg(0)}, {Do: api.DoInc, Width: 8}, {Do: api.DoNot, Width: 1, A: reg(0)}, {Do: api.DoDiv, Width: 8, A: Imm(1)},
		{Do: api.DoShl, Width: 8, A: reg(0), B: Imm(256)}, {Do: api.DoShl, Width: 8, A: reg(0), B: Imm(-1)}, {Do: api.DoShl, Width: 8, A: reg(0), B: reg(2)}, {Do: api.DoShl, Width: 8, A: reg(0), B: mem(1, 0)},
		{Do: api.DoImul, Width: 8, A: mem(0, 0), B: reg(0)}, {Do: api.DoImul, Width: 8, A: reg(0), B: Imm(1)}, {Do: api.DoPush, Width: 8, A: mem(0, 0)}, {Do: api.DoPush, Width: 4, A: reg(0)}, {Do: api.DoPop, Width: 8, A: Imm(0)},
		{Do: api.DoCall, Width: 8, A: reg(0)}, {Do: api.DoCall, Width: 8, B: Imm(1 << 31)}, {Do: api.DoCall, Width: 8}, {Do: api.DoJmp, Width: 8}, {Do: api.DoJmp, Width: 4, A: reg(0)}, {Do: api.DoJmp, Width: 8, A: reg(0), B: Imm(0)},
		{Do: api.DoJcc, Width: 8, Cond: 16, B: Imm(0)}, {Do: api.DoJcc, Width: 8, Cond: 255, B: Imm(0)}, {Do: api.DoJcc, Width: 8, A: reg(0)}, {Do: api.DoRet, Width: 4}, {Do: api.DoRet, Width: 8, B: Imm(0)}, {Do: api.DoRet}, {Do: api.DoNop, Width: 8, A: api.Operand{Base: -1, Index: -1}},
		{Do: api.DoCmov, Width: 8, A: mem(0, 0), B: reg(0)}, {Do: api.DoCmov, Width: 1, A: reg(0), B: reg(0)}, {Do: api.DoSet, Width: 8, A: reg(0)}, {Do: api.DoSet, Width: 1, Cond: 99, A: reg(0)},
		{Do: api.DoMovzx, Width: 1, A: reg(0), B: reg(0)}, {Do: api.DoMovzx, Width: 8, A: mem(0, 0), B: reg(0)}, {Do: api.DoMovsx, Width: 8, A: reg(0), B: Imm(0)},
		{Do: api.DoMovdqu, Width: 8, A: Vec(0), B: Vec(1)}, {Do: api.DoMovdqu, Width: 16, A: reg(0), B: Vec(1)}, {Do: api.DoMovdqu, Width: 16, A: Vec(0), B: reg(1)}, {Do: api.DoMovdqu, Width: 16, A: reg(32), B: Vec(0)}, {Do: api.DoMovdqu, Width: 16, A: mem(0, 0), B: mem(0, 0)},
		{Do: api.DoPxor, Width: 16, A: mem(0, 0), B: Vec(0)}, {Do: api.DoPxor, Width: 16, A: Vec(0), B: Vec(0), Imm: 1}, {Do: api.DoAesenc, Width: 16, A: Vec(0), B: Imm(0)}, {Do: api.DoClmul, Width: 16, A: mem(0, 0), B: Vec(0), Imm: 1},
		{Do: api.DoMov, Width: 8, A: reg(0), B: api.Operand{Kind: 2, Base: 0, Index: 4, Scale: 1}}, {Do: api.DoMov, Width: 8, A: reg(0), B: api.Operand{Kind: 3, Imm: 1}},
	} {
		if b, e := Encode(x); Right(x) || e != api.ErrArg || b != nil {
			t.Errorf("%d: %+v %x", i, x, b)
		}
	}
	if !Right(api.Insn{Do: api.DoMov, Width: 8, A: reg(0), B: rip}) {
		t.Error("rip")
	}
}

// some makes an instruction that often may be.
func some(rng *rand.Rand) api.Insn {
	any := func() api.Operand {
		switch rng.Intn(9) {
		case 0:
			return api.Operand{}
		case 1:
			return Imm([]int64{0, 1, -1, 127, 128, -128, -129, 255, 256, 1<<31 - 1, 1 << 31, -1 << 31, -1<<31 - 1, 1<<63 - 1}[rng.Intn(14)])
		case 2:
			return Vec(rng.Intn(16))
		case 3:
			return reg(1)
		case 4, 5:
			return reg(rng.Intn(16))
		case 6:
			return api.Operand{Kind: 2, Base: -1, Index: -1, Scale: 1, Disp: int64(rng.Intn(100)), Rip: true}
		}
		return api.Operand{Kind: 2, Base: rng.Intn(17) - 1, Index: rng.Intn(17) - 1, Scale: []int{1, 1, 2, 4, 8}[rng.Intn(5)], Disp: int64(rng.Intn(600) - 300)}
	}
	x := api.Insn{Do: uint8(rng.Intn(int(api.Deeds))), Width: []int{1, 4, 8, 8, 16}[rng.Intn(5)], A: any(), B: any()}
	if x.Do == api.DoJcc || x.Do == api.DoCmov || x.Do == api.DoSet {
		x.Cond = uint8(rng.Intn(16))
	}
	if x.Do == api.DoClmul {
		x.Imm = uint8(rng.Int())
	}
	return x
}

func TestP10_3Encoded(t *testing.T) {
	rng := rand.New(rand.NewSource(11))
	many := map[uint8]int{}
	for range 400000 {
		x := some(rng)
		b, e := Encode(x)
		if e != api.OK {
			continue
		}
		many[x.Do]++
		y, e := decode.One(b)
		x.Len = len(b)
		if e != api.OK || y != x || len(b) > api.MaxInsn {
			t.Fatalf("%+v %x %+v", x, b, y)
		}
	}
	for do := api.DoMov; do < api.Deeds; do++ {
		if many[do] < 20 {
			t.Error("deed", do, many[do])
		}
	}
}

func TestP10_3Decoded(t *testing.T) {
	rng := rand.New(rand.NewSource(12))
	heads := [][]byte{{}, {}, {0x48}, {0x66, 0x0f}, {0xf3, 0x0f}, {0x0f}, {0x41, 0x0f}, {0x66, 0x45, 0x0f, 0x38}, {0x66, 0x0f, 0x3a, 0x44}}
	for range 300000 {
		b := make([]byte, 16)
		rng.Read(b)
		copy(b, heads[rng.Intn(len(heads))])
		x, e := decode.One(b)
		if e != api.OK {
			continue
		}
		c, e := Encode(x)
		short := x.Do == api.DoJmp && x.B.Kind == api.OpImm || x.Do == api.DoJcc
		if e != api.OK || len(c) > x.Len && !short {
			t.Fatalf("%x %+v %x", b, x, c)
		}
		y, _ := decode.One(c)
		x.Len, y.Len = 0, 0
		if x != y {
			t.Fatalf("%x %+v %+v", b, x, y)
		}
	}
}
