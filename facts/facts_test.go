package facts

import (
	"math/rand"
	"reflect"
	"slices"
	"testing"

	"sundial/api"
	"sundial/operand"
)

func reg(r int) api.Operand { return operand.Reg(r) }

func imm(n int64) api.Operand { return api.Operand{Kind: api.OpImm, Base: -1, Index: -1, Imm: n} }

func at(base, index int) api.Operand {
	return api.Operand{Kind: api.OpMem, Base: base, Index: index, Scale: 1}
}

func same(a, b api.Facts) bool {
	return slices.Equal(a.Reads, b.Reads) && slices.Equal(a.Writes, b.Writes) && slices.Equal(a.Address, b.Address) &&
		a.In == b.In && a.Out == b.Out && a.Load == b.Load && a.Store == b.Store && a.Ends == b.Ends
}

func TestP11_1(t *testing.T) {
	const c, z, s, o, p = api.FlC, api.FlZ, api.FlS, api.FlO, api.FlP
	type f = api.Facts
	for i, x := range []struct {
		x    api.Insn
		want api.Facts
	}{
		{api.Insn{Do: api.DoMov, Width: 8, A: reg(9), B: reg(1)}, f{Reads: []int{1}, Writes: []int{9}}},
		{api.Insn{Do: api.DoMov, Width: 1, A: reg(9), B: reg(1)}, f{Reads: []int{1, 9}, Writes: []int{9}}},
		{api.Insn{Do: api.DoMov, Width: 1, A: at(3, 9), B: reg(1)}, f{Reads: []int{1, 3, 9}, Address: []int{3, 9}, Store: 1}},
		{api.Insn{Do: api.DoMov, Width: 4, A: reg(0), B: at(9, 3)}, f{Reads: []int{3, 9}, Writes: []int{0}, Address: []int{3, 9}, Load: 4}},
		{api.Insn{Do: api.DoMov, Width: 8, A: reg(0), B: imm(5)}, f{Writes: []int{0}}},
		{api.Insn{Do: api.DoLea, Width: 8, A: reg(0), B: at(9, 9)}, f{Reads: []int{9}, Writes: []int{0}}},
		{api.Insn{Do: api.DoAdd, Width: 8, A: at(-1, 7), B: imm(1)}, f{Reads: []int{7}, Address: []int{7}, Load: 8, Store: 8, Out: 31}},
		{api.Insn{Do: api.DoOr, Width: 8, A: reg(2), B: reg(1)}, f{Reads: []int{1, 2}, Writes: []int{2}, Out: 31}},
		{api.Insn{Do: api.DoAnd, Width: 8, A: reg(2), B: reg(2)}, f{Reads: []int{2}, Writes: []int{2}, Out: 31}},
		{api.Insn{Do: api.DoXor, Width: 8, A: reg(2), B: reg(2)}, f{Writes: []int{2}, Out: 31}},
		{api.Insn{Do: api.DoSub, Width: 4, A: reg(2), B: reg(2)}, f{Writes: []int{2}, Out: 31}},
		{api.Insn{Do: api.DoSub, Width: 4, A: reg(2), B: reg(3)}, f{Reads: []int{2, 3}, Writes: []int{2}, Out: 31}},
		{api.Insn{Do: api.DoAdc, Width: 4, A: reg(2), B: reg(2)}, f{Reads: []int{2}, Writes: []int{2}, In: c, Out: 31}},
		{api.Insn{Do: api.DoSbb, Width: 4, A: reg(2), B: reg(2)}, f{Reads: []int{2}, Writes: []int{2}, In: c, Out: 31}},
		{api.Insn{Do: api.DoCmp, Width: 4, A: reg(2), B: at(5, -1)}, f{Reads: []int{2, 5}, Address: []int{5}, Load: 4, Out: 31}},
		{api.Insn{Do: api.DoTest, Width: 4, A: at(5, -1), B: reg(5)}, f{Reads: []int{5}, Address: []int{5}, Load: 4, Out: 31}},
		{api.Insn{Do: api.DoInc, Width: 4, A: reg(5)}, f{Reads: []int{5}, Writes: []int{5}, Out: z | s | o | p}},
		{api.Insn{Do: api.DoDec, Width: 4, A: at(5, -1)}, f{Reads: []int{5}, Address: []int{5}, Load: 4, Store: 4, Out: z | s | o | p}},
		{api.Insn{Do: api.DoNeg, Width: 4, A: reg(5)}, f{Reads: []int{5}, Writes: []int{5}, Out: 31}},
		{api.Insn{Do: api.DoNot, Width: 4, A: reg(5)}, f{Reads: []int{5}, Writes: []int{5}}},
		{api.Insn{Do: api.DoShl, Width: 4, A: reg(5), B: imm(31)}, f{Reads: []int{5}, Writes: []int{5}, Out: 31}},
		{api.Insn{Do: api.DoShr, Width: 4, A: reg(5), B: imm(32)}, f{Reads: []int{5}, Writes: []int{5}}},
		{api.Insn{Do: api.DoSar, Width: 8, A: reg(5), B: imm(32)}, f{Reads: []int{5}, Writes: []int{5}, Out: 31}},
		{api.Insn{Do: api.DoSar, Width: 8, A: reg(5), B: imm(192)}, f{Reads: []int{5}, Writes: []int{5}}},
		{api.Insn{Do: api.DoSar, Width: 8, A: reg(5), B: reg(1)}, f{Reads: []int{1, 5}, Writes: []int{5}, In: 31, Out: 31}},
		{api.Insn{Do: api.DoRol, Width: 4, A: reg(5), B: imm(1)}, f{Reads: []int{5}, Writes: []int{5}, Out: c | o}},
		{api.Insn{Do: api.DoRor, Width: 4, A: reg(5), B: imm(64)}, f{Reads: []int{5}, Writes: []int{5}}},
		{api.Insn{Do: api.DoRor, Width: 4, A: reg(5), B: reg(1)}, f{Reads: []int{1, 5}, Writes: []int{5}, In: c | o, Out: c | o}},
		{api.Insn{Do: api.DoImul, Width: 4, A: reg(5), B: reg(1)}, f{Reads: []int{1, 5}, Writes: []int{5}, Out: 31}},
		{api.Insn{Do: api.DoMul, Width: 4, A: reg(5)}, f{Reads: []int{0, 5}, Writes: []int{0, 2}, Out: 31}},
		{api.Insn{Do: api.DoDiv, Width: 4, A: at(1, -1)}, f{Reads: []int{0, 1, 2}, Writes: []int{0, 2}, Address: []int{1}, Load: 4}},
		{api.Insn{Do: api.DoPush, Width: 8, A: reg(0)}, f{Reads: []int{0, 4}, Writes: []int{4}, Address: []int{4}, Store: 8}},
		{api.Insn{Do: api.DoPop, Width: 8, A: reg(0)}, f{Reads: []int{4}, Writes: []int{0, 4}, Address: []int{4}, Load: 8}},
		{api.Insn{Do: api.DoPop, Width: 8, A: reg(4)}, f{Reads: []int{4}, Writes: []int{4}, Address: []int{4}, Load: 8}},
		{api.Insn{Do: api.DoCall, Width: 8, B: imm(4)}, f{Reads: []int{4}, Writes: []int{4}, Address: []int{4}, Store: 8, Ends: true}},
		{api.Insn{Do: api.DoRet, Width: 8}, f{Reads: []int{4}, Writes: []int{4}, Address: []int{4}, Load: 8, Ends: true}},
		{api.Insn{Do: api.DoJmp, Width: 8, B: imm(4)}, f{Ends: true}},
		{api.Insn{Do: api.DoJmp, Width: 8, A: reg(3)}, f{Reads: []int{3}, Ends: true}},
		{api.Insn{Do: api.DoJmp, Width: 8, A: at(3, 5)}, f{Reads: []int{3, 5}, Address: []int{3, 5}, Load: 8, Ends: true}},
		{api.Insn{Do: api.DoJcc, Width: 8, Cond: 7, B: imm(4)}, f{In: c | z, Ends: true}},
		{api.Insn{Do: api.DoCmov, Width: 8, Cond: 14, A: reg(1), B: at(0, -1)}, f{Reads: []int{0, 1}, Writes: []int{1}, Address: []int{0}, Load: 8, In: z | s | o}},
		{api.Insn{Do: api.DoSet, Width: 1, Cond: 8, A: reg(1)}, f{Reads: []int{1}, Writes: []int{1}, In: s}},
		{api.Insn{Do: api.DoSet, Width: 1, Cond: 10, A: at(1, -1)}, f{Reads: []int{1}, Address: []int{1}, Store: 1, In: p}},
		{api.Insn{Do: api.DoMovzx, Width: 8, A: reg(1), B: at(0, -1)}, f{Reads: []int{0}, Writes: []int{1}, Address: []int{0}, Load: 1}},
		{api.Insn{Do: api.DoMovsx, Width: 4, A: reg(1), B: reg(3)}, f{Reads: []int{3}, Writes: []int{1}}},
		{api.Insn{Do: api.DoNop, Width: 8}, f{}},
		{api.Insn{}, f{}},
		{api.Insn{Do: 200}, f{}},
		{api.Insn{Do: api.DoMovdqu, Width: 16, A: at(8, -1), B: reg(17)}, f{Reads: []int{8, 17}, Address: []int{8}, Store: 16}},
		{api.Insn{Do: api.DoPxor, Width: 16, A: reg(17), B: reg(17)}, f{Writes: []int{17}}},
		{api.Insn{Do: api.DoPxor, Width: 16, A: reg(17), B: reg(16)}, f{Reads: []int{16, 17}, Writes: []int{17}}},
		{api.Insn{Do: api.DoAesenc, Width: 16, A: reg(17), B: reg(17)}, f{Reads: []int{17}, Writes: []int{17}}},
		{api.Insn{Do: api.DoClmul, Width: 16, A: reg(17), B: at(1, -1)}, f{Reads: []int{1, 17}, Writes: []int{17}, Address: []int{1}, Load: 16}},
	} {
		if got := Of(x.x); !same(got, x.want) {
			t.Errorf("%d: %+v, not %+v", i, got, x.want)
		}
	}
}

func TestCondAndNoughtAndMem(t *testing.T) {
	for cc, want := range []uint8{8, 8, 1, 1, 2, 2, 3, 3, 4, 4, 16, 16, 12, 12, 14, 14} {
		if Cond(uint8(cc)) != want || Cond(uint8(cc+240)) != want {
			t.Error("Cond", cc)
		}
	}
	for do := range api.Deeds {
		want := do == api.DoXor || do == api.DoSub || do == api.DoPxor
		if Nought(api.Insn{Do: do, A: reg(3), B: reg(3)}) != want || Nought(api.Insn{Do: do, A: reg(3), B: reg(4)}) || Nought(api.Insn{Do: do, A: at(3, -1), B: at(3, -1)}) {
			t.Error("Nought", do)
		}
	}
	if o, ok := Mem(api.Insn{A: at(3, 1), B: at(4, 1)}); !ok || o != at(3, 1) {
		t.Error("Mem", o, ok)
	}
	if o, ok := Mem(api.Insn{A: reg(3), B: at(4, 1)}); !ok || o != at(4, 1) {
		t.Error("Mem", o, ok)
	}
	if o, ok := Mem(api.Insn{A: reg(3), B: imm(1)}); ok || o != (api.Operand{}) {
		t.Error("Mem", o, ok)
	}
}

func TestP11_2(t *testing.T) {
	for i, c := range []struct {
		x    api.Insn
		at   uint64
		want []uint64
	}{
		{api.Insn{Do: api.DoNop, Len: 1}, 5, []uint64{6}},
		{api.Insn{Do: api.DoNop, Len: 3}, ^uint64(0), []uint64{2}},
		{api.Insn{Do: api.DoJmp, Len: 5, B: imm(-10)}, 7, []uint64{2}},
		{api.Insn{Do: api.DoJmp, Len: 5, B: imm(-13)}, 7, []uint64{^uint64(0)}},
		{api.Insn{Do: api.DoCall, Len: 5, B: imm(10)}, 7, []uint64{22}},
		{api.Insn{Do: api.DoJcc, Len: 6, B: imm(0)}, 1, []uint64{7, 7}},
		{api.Insn{Do: api.DoJcc, Len: 2, B: imm(-2)}, 100, []uint64{102, 100}},
		{api.Insn{Do: api.DoRet, Len: 1}, 1, nil},
		{api.Insn{Do: api.DoJmp, Len: 2, A: reg(0)}, 1, nil},
		{api.Insn{Do: api.DoCall, Len: 2, A: reg(0)}, 1, nil},
		{api.Insn{Do: api.DoDiv, Len: 2, A: reg(0)}, 1, []uint64{3}},
		{api.Insn{Len: -1}, 1, []uint64{0}},
	} {
		if got := Targets(c.x, c.at); !slices.Equal(got, c.want) {
			t.Error(i, got)
		}
	}
}

func TestP11_3(t *testing.T) {
	rng := rand.New(rand.NewSource(13))
	number := func() int { return []int{-1, 0, 4, 4, 17, 31, 1 << 62, -1 << 63, rng.Intn(16)}[rng.Intn(9)] }
	for range 50000 {
		any := func() api.Operand {
			return api.Operand{Kind: uint8(rng.Intn(5)), R: number(), Base: number(), Index: number(), Scale: number(), Imm: int64(number())}
		}
		x := api.Insn{Do: uint8(rng.Intn(45)), Width: number(), Cond: uint8(rng.Int()), A: any(), B: any(), Len: number()}
		f := Of(x)
		for _, l := range [][]int{f.Reads, f.Writes, f.Address} {
			if !slices.IsSorted(l) || len(slices.Compact(slices.Clone(l))) != len(l) {
				t.Fatal(x, f)
			}
		}
		stack := x.Do == api.DoPush || x.Do == api.DoPop || x.Do == api.DoCall || x.Do == api.DoRet
		if slices.Contains(f.Writes, 4) && !stack && (x.A.Kind != api.OpReg || x.A.R != 4) {
			t.Fatal(x, f)
		}
		if !reflect.DeepEqual(f, Of(x)) {
			t.Fatal("not the same twice")
		}
		Targets(x, rng.Uint64())
		Nought(x)
		Mem(x)
	}
}
