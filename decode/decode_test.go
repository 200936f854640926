package decode

import (
	"encoding/hex"
	"math/rand"
	"reflect"
	"testing"

	"sundial/api"
	"sundial/operand"
)

func reg(r int) api.Operand { return operand.Reg(r) }

func mem(base int, disp int64) api.Operand { return operand.Mem(base, disp) }

func imm(n int64) api.Operand { return api.Operand{Kind: api.OpImm, Base: -1, Index: -1, Imm: n} }

func raw(t *testing.T, s string) []byte {
	t.Helper()
	b, err := hex.DecodeString(s)
	if err != nil {
		t.Fatal(err)
	}
	return b
}

var known = []struct {
	code string
	x    api.Insn
}{
	{"4889c8", api.Insn{Do: api.DoMov, Width: 8, A: reg(0), B: reg(1)}},
	{"89c8", api.Insn{Do: api.DoMov, Width: 4, A: reg(0), B: reg(1)}},
	{"4d8b4c2408", api.Insn{Do: api.DoMov, Width: 8, A: reg(9), B: mem(12, 8)}},
	{"48c7c0ffffffff", api.Insn{Do: api.DoMov, Width: 8, A: reg(0), B: imm(-1)}},
	{"49ba0100000000000080", api.Insn{Do: api.DoMov, Width: 8, A: reg(10), B: imm(-1<<63 + 1)}},
	{"880b", api.Insn{Do: api.DoMov, Width: 1, A: mem(3, 0), B: reg(1)}},
	{"4088fe", api.Insn{Do: api.DoMov, Width: 1, A: reg(6), B: reg(7)}},
	{"8a00", api.Insn{Do: api.DoMov, Width: 1, A: reg(0), B: mem(0, 0)}},
	{"c603ff", api.Insn{Do: api.DoMov, Width: 1, A: mem(3, 0), B: imm(-1)}},
	{"c60480ff", api.Insn{Do: api.DoMov, Width: 1, A: api.Operand{Kind: 2, Base: 0, Index: 0, Scale: 4}, B: imm(-1)}},
	{"488d0511000000", api.Insn{Do: api.DoLea, Width: 8, A: reg(0), B: api.Operand{Kind: 2, Base: -1, Index: -1, Scale: 1, Disp: 17, Rip: true}}},
	{"01d8", api.Insn{Do: api.DoAdd, Width: 4, A: reg(0), B: reg(3)}},
	{"483b06", api.Insn{Do: api.DoCmp, Width: 8, A: reg(0), B: mem(6, 0)}},
	{"4883e4f0", api.Insn{Do: api.DoAnd, Width: 8, A: reg(4), B: imm(-16)}},
	{"81c900010000", api.Insn{Do: api.DoOr, Width: 4, A: reg(1), B: imm(256)}},
	{"85db", api.Insn{Do: api.DoTest, Width: 4, A: reg(3), B: reg(3)}},
	{"f7c3ffffff7f", api.Insn{Do: api.DoTest, Width: 4, A: reg(3), B: imm(1<<31 - 1)}},
	{"48ffc0", api.Insn{Do: api.DoInc, Width: 8, A: reg(0)}},
	{"ffc9", api.Insn{Do: api.DoDec, Width: 4, A: reg(1)}},
	{"f7d0", api.Insn{Do: api.DoNot, Width: 4, A: reg(0)}},
	{"f7d8", api.Insn{Do: api.DoNeg, Width: 4, A: reg(0)}},
	{"48f7e3", api.Insn{Do: api.DoMul, Width: 8, A: reg(3)}},
	{"48f7f3", api.Insn{Do: api.DoDiv, Width: 8, A: reg(3)}},
	{"c1c0ff", api.Insn{Do: api.DoRol, Width: 4, A: reg(0), B: imm(255)}},
	{"c1f880", api.Insn{Do: api.DoSar, Width: 4, A: reg(0), B: imm(128)}},
	{"48c1e0ff", api.Insn{Do: api.DoShl, Width: 8, A: reg(0), B: imm(255)}},
	{"c1c8fe", api.Insn{Do: api.DoRor, Width: 4, A: reg(0), B: imm(254)}},
	{"48d3e8", api.Insn{Do: api.DoShr, Width: 8, A: reg(0), B: reg(1)}},
	{"48d3e0", api.Insn{Do: api.DoShl, Width: 8, A: reg(0), B: reg(1)}},
	{"d3c8", api.Insn{Do: api.DoRor, Width: 4, A: reg(0), B: reg(1)}},
	{"480fafc3", api.Insn{Do: api.DoImul, Width: 8, A: reg(0), B: reg(3)}},
	{"50", api.Insn{Do: api.DoPush, Width: 8, A: reg(0)}},
	{"415f", api.Insn{Do: api.DoPop, Width: 8, A: reg(15)}},
	{"e8fcffffff", api.Insn{Do: api.DoCall, Width: 8, B: imm(-4)}},
	{"c3", api.Insn{Do: api.DoRet, Width: 8}},
	{"e900000080", api.Insn{Do: api.DoJmp, Width: 8, B: imm(-1 << 31)}},
	{"ebfe", api.Insn{Do: api.DoJmp, Width: 8, B: imm(-2)}},
	{"ffe0", api.Insn{Do: api.DoJmp, Width: 8, A: reg(0)}},
	{"ff2424", api.Insn{Do: api.DoJmp, Width: 8, A: mem(4, 0)}},
	{"0f8f01000000", api.Insn{Do: api.DoJcc, Cond: 15, Width: 8, B: imm(1)}},
	{"7480", api.Insn{Do: api.DoJcc, Cond: 4, Width: 8, B: imm(-128)}},
	{"4d0f42c8", api.Insn{Do: api.DoCmov, Cond: 2, Width: 8, A: reg(9), B: reg(8)}},
	{"0f94c0", api.Insn{Do: api.DoSet, Cond: 4, Width: 1, A: reg(0)}},
	{"400f9fc6", api.Insn{Do: api.DoSet, Cond: 15, Width: 1, A: reg(6)}},
	{"0fb6c3", api.Insn{Do: api.DoMovzx, Width: 4, A: reg(0), B: reg(3)}},
	{"480fbe4001", api.Insn{Do: api.DoMovsx, Width: 8, A: reg(0), B: mem(0, 1)}},
	{"0fb6f0", api.Insn{Do: api.DoMovzx, Width: 4, A: reg(6), B: reg(0)}},
	{"90", api.Insn{Do: api.DoNop, Width: 8}},
	{"4190", api.Insn{Do: api.DoNop, Width: 8}},
	{"f30f6f03", api.Insn{Do: api.DoMovdqu, Width: 16, A: reg(16), B: mem(3, 0)}},
	{"f3450f7fca", api.Insn{Do: api.DoMovdqu, Width: 16, A: reg(26), B: reg(25)}},
	{"f3410f7f08", api.Insn{Do: api.DoMovdqu, Width: 16, A: mem(8, 0), B: reg(17)}},
	{"660fefc0", api.Insn{Do: api.DoPxor, Width: 16, A: reg(16), B: reg(16)}},
	{"66440f38dcc1", api.Insn{Do: api.DoAesenc, Width: 16, A: reg(24), B: reg(17)}},
	{"660f38dd00", api.Insn{Do: api.DoAeslast, Width: 16, A: reg(16), B: mem(0, 0)}},
	{"660f3a44c1ff", api.Insn{Do: api.DoClmul, Width: 16, A: reg(16), B: reg(17), Imm: 255}},
}

func TestP9_1(t *testing.T) {
	for _, c := range known {
		b := raw(t, c.code)
		want := c.x
		want.Len = len(b)
		for _, more := range []string{"", "00", "ffffff", "48"} {
			if x, e := One(append(raw(t, c.code), raw(t, more)...)); e != api.OK || x != want {
				t.Errorf("%s: %+v %d", c.code, x, e)
			}
		}
		if Len(b) != len(b) {
			t.Error("Len", c.code)
		}
		for k := range b {
			if x, e := One(b[:k]); e != api.ErrCode || x != (api.Insn{}) || Len(b[:k]) != 0 {
				t.Errorf("%s cut at %d: %+v %d", c.code, k, x, e)
			}
		}
	}
}

func TestP9_1None(t *testing.T) {
	for _, code := range []string{
		"", "66", "f3", "48", "0f", "0f38", "0f3a", "6690", "f390", "f3c3", "6689c0", "f266", "4848c3", "4866c3", "66f30f6fc0",
		"b801000000", "41b801000000aabbccdd", "488dc0", "8dc0", "88e0", "88c4", "8ac5", "8af8", "8a33", "8826", "c6c401", "0f94c4", "0fb6c4", "0fbec7",
		"8fc0", "0f94f0", "fec0", "ffd0", "ffd8", "fff0", "f7c8", "f7f8", "f7e8", "c1d001", "c1d801", "c1f001", "d3d0", "d3f0", "c7c800000000", "c6c80000",
		"0f6fc0", "660f6fc0", "0fefc0", "f30fefc0", "0f38dcc0", "f30f38dcc0", "660f3ac0", "660f3a45c000", "04", "0500000000", "cc", "f4", "0f0b", "0f05", "a4", "f0", "60", "d1e0", "a800", "0f38", "0f3a4400", "8c00",
	} {
		if x, e := One(raw(t, code)); e != api.ErrCode || x != (api.Insn{}) {
			t.Errorf("%s: %+v %d", code, x, e)
		}
	}
	for _, code := range []string{"4088e0", "4088c4", "408af8", "40c6c401", "400f94c4", "400fb6c4", "48b80000000000000000", "0f94c3", "8803"} {
		if _, e := One(raw(t, code)); e != api.OK {
			t.Error(code, e)
		}
	}
}

func TestSameInAnotherWay(t *testing.T) {
	for _, c := range [][2]string{{"48b80500000000000000", "48c7c005000000"}, {"8bc1", "89c8"}, {"81c001000000", "83c001"}, {"e901000000", "eb01"}, {"8b8001000000", "8b4001"}, {"8b4000", "8b00"}, {"8b04e0", "8b0420"}, {"f30f7fc8", "f30f6fc1"}, {"4050", "50"}, {"48c3", "c3"}} {
		x, e := One(raw(t, c[0]))
		y, e2 := One(raw(t, c[1]))
		x.Len, y.Len = 0, 0
		if x != y || e != api.OK || e2 != api.OK {
			t.Error(c, x, y, e, e2)
		}
	}
}

func TestP9_2(t *testing.T) {
	l, e := All(raw(t, "4889c890c3"))
	if e != api.OK || len(l) != 3 || l[0].Do != api.DoMov || l[1].Do != api.DoNop || l[2].Do != api.DoRet {
		t.Error(l, e)
	}
	l, e = All(raw(t, "90c3ff"))
	if e != api.ErrCode || len(l) != 2 {
		t.Error(l, e)
	}
	if l, e = All(nil); e != api.OK || len(l) != 0 {
		t.Error(l, e)
	}
	if Len(raw(t, "4889c8")) != 3 || Len(raw(t, "cc")) != 0 || Len(nil) != 0 {
		t.Error("Len")
	}
}

func TestP9_3(t *testing.T) {
	rng := rand.New(rand.NewSource(10))
	heads := [][]byte{{}, {0x48}, {0x66, 0x0f}, {0xf3, 0x0f}, {0x0f}, {0x41, 0x0f}, {0x66, 0x45, 0x0f, 0x38}, {0x66, 0x0f, 0x3a, 0x44}}
	for range 200000 {
		b := make([]byte, 20)
		rng.Read(b)
		copy(b, heads[rng.Intn(len(heads))])
		x, e := One(b)
		if e != api.OK {
			if x != (api.Insn{}) {
				t.Fatal(b, x)
			}
			continue
		}
		if x.Len < 1 || x.Len > api.MaxInsn {
			t.Fatal(b, x)
		}
		c := append([]byte(nil), b[:x.Len]...)
		tail := make([]byte, rng.Intn(8))
		rng.Read(tail)
		if y, e := One(append(c, tail...)); e != api.OK || !reflect.DeepEqual(x, y) {
			t.Fatal(b, x, y)
		}
	}
}
