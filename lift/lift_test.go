package lift

import (
	"fmt"
	"math/rand"
	"reflect"
	"strings"
	"testing"

	"sundial/api"
	"sundial/cpu"
	"sundial/encode"
	"sundial/interp"
	"sundial/operand"
	"sundial/step"
)

func reg(r int) api.Operand { return operand.Reg(r) }

func imm(n int64) api.Operand { return encode.Imm(n) }

// told writes deeds as a short text: names of cells, numbers in hex.
func told(l []api.Deed) string {
	names := strings.Fields("- copy add sub addc subc addo subo and or xor shl shr sar rol ror mul high over quot rest ext zero sign even is pick load store div go vec")
	cell := func(c int) string {
		if c >= api.CellTemp {
			return fmt.Sprintf("t%d", c-api.CellTemp)
		}
		if c >= 16 {
			return string("CZSOP"[c-16])
		}
		return fmt.Sprintf("r%d", c)
	}
	val := func(v api.Val) string {
		if v.Is {
			return fmt.Sprintf("%x", v.N)
		}
		return cell(v.Cell)
	}
	var b strings.Builder
	for _, d := range l {
		if interp.Sets(d.Op) {
			b.WriteString(cell(d.D) + "=")
		}
		fmt.Fprintf(&b, "%s%d(%s,%s,%s)", names[d.Op], d.W, val(d.A), val(d.B), val(d.C))
		if d.Op == api.IrVec {
			fmt.Fprintf(&b, "v%d", d.V.Do)
		}
		b.WriteString("; ")
	}
	return strings.TrimSuffix(b.String(), "; ")
}

func TestP21_2Known(t *testing.T) {
	m := api.Operand{Kind: 2, Base: 3, Index: 9, Scale: 4, Disp: -8}
	rip := api.Operand{Kind: 2, Base: -1, Index: -1, Scale: 1, Disp: 0x10, Rip: true}
	const gone = "; go8(1003,1003,1)"
	marks := func(w int, r string) string {
		return fmt.Sprintf("; Z=zero%d(%s,0,0); S=sign%d(%s,0,0); P=even%d(%s,0,0)", w, r, w, r, w, r)
	}
	for i, c := range []struct {
		x    api.Insn
		want string
	}{
		{api.Insn{Do: api.DoNop, Width: 8}, "go8(1003,1003,1)"},
		{api.Insn{Do: api.DoMov, Width: 8, A: reg(0), B: reg(1)}, "r0=copy8(r1,0,0)" + gone},
		{api.Insn{Do: api.DoMov, Width: 4, A: reg(0), B: imm(-1)}, "r0=copy4(ffffffff,0,0)" + gone},
		{api.Insn{Do: api.DoMov, Width: 1, A: reg(0), B: reg(1)}, "t0=and8(r0,ffffffffffffff00,0); t1=copy1(r1,0,0); r0=or8(t0,t1,0)" + gone},
		{api.Insn{Do: api.DoMov, Width: 8, A: reg(0), B: m}, "t0=add8(fffffffffffffff8,r3,0); t1=shl8(r9,2,0); t2=add8(t0,t1,0); t3=load8(t2,0,0); r0=copy8(t3,0,0)" + gone},
		{api.Insn{Do: api.DoMov, Width: 1, A: rip, B: imm(-1)}, "store1(1013,ff,0)" + gone},
		{api.Insn{Do: api.DoMov, Width: 4, A: reg(0), B: api.Operand{Kind: 2, Base: -1, Index: 1, Scale: 1}}, "t0=add8(0,r1,0); t1=load4(t0,0,0); r0=copy4(t1,0,0)" + gone},
		{api.Insn{Do: api.DoLea, Width: 8, A: reg(9), B: api.Operand{Kind: 2, Base: 0, Index: 0, Scale: 8}}, "t0=add8(0,r0,0); t1=shl8(r0,3,0); t2=add8(t0,t1,0); r9=copy8(t2,0,0)" + gone},
		{api.Insn{Do: api.DoLea, Width: 4, A: reg(0), B: operand.Mem(1, 2)}, "t0=add8(2,r1,0); r0=copy4(t0,0,0)" + gone},
		{api.Insn{Do: api.DoAdd, Width: 8, A: reg(0), B: reg(1)}, "t0=add8(r0,r1,0); t1=addc8(r0,r1,0); t2=addo8(r0,r1,0); r0=copy8(t0,0,0); C=copy1(t1,0,0); O=copy1(t2,0,0)" + marks(8, "t0") + gone},
		{api.Insn{Do: api.DoAdc, Width: 4, A: operand.Mem(-1, 5), B: imm(1)}, "t0=load4(5,0,0); t1=add4(t0,1,C); t2=addc4(t0,1,C); t3=addo4(t0,1,C); store4(5,t1,0); C=copy1(t2,0,0); O=copy1(t3,0,0)" + marks(4, "t1") + gone},
		{api.Insn{Do: api.DoSbb, Width: 8, A: reg(0), B: reg(0)}, "t0=sub8(r0,r0,C); t1=subc8(r0,r0,C); t2=subo8(r0,r0,C); r0=copy8(t0,0,0); C=copy1(t1,0,0); O=copy1(t2,0,0)" + marks(8, "t0") + gone},
		{api.Insn{Do: api.DoSub, Width: 8, A: reg(0), B: reg(0)}, "t0=sub8(0,0,0); t1=subc8(0,0,0); t2=subo8(0,0,0); r0=copy8(t0,0,0); C=copy1(t1,0,0); O=copy1(t2,0,0)" + marks(8, "t0") + gone},
		{api.Insn{Do: api.DoCmp, Width: 4, A: reg(0), B: imm(-1)}, "t0=sub4(r0,ffffffff,0); t1=subc4(r0,ffffffff,0); t2=subo4(r0,ffffffff,0); C=copy1(t1,0,0); O=copy1(t2,0,0)" + marks(4, "t0") + gone},
		{api.Insn{Do: api.DoXor, Width: 4, A: reg(5), B: reg(5)}, "t0=xor4(0,0,0); r5=copy4(t0,0,0); C=copy1(0,0,0); O=copy1(0,0,0)" + marks(4, "t0") + gone},
		{api.Insn{Do: api.DoTest, Width: 4, A: reg(5), B: reg(5)}, "t0=and4(r5,r5,0); C=copy1(0,0,0); O=copy1(0,0,0)" + marks(4, "t0") + gone},
		{api.Insn{Do: api.DoOr, Width: 8, A: reg(5), B: reg(6)}, "t0=or8(r5,r6,0); r5=copy8(t0,0,0); C=copy1(0,0,0); O=copy1(0,0,0)" + marks(8, "t0") + gone},
		{api.Insn{Do: api.DoInc, Width: 8, A: reg(5)}, "t0=add8(r5,1,0); t1=addo8(r5,1,0); r5=copy8(t0,0,0); O=copy1(t1,0,0)" + marks(8, "t0") + gone},
		{api.Insn{Do: api.DoDec, Width: 4, A: operand.Mem(-1, 5)}, "t0=load4(5,0,0); t1=sub4(t0,1,0); t2=subo4(t0,1,0); store4(5,t1,0); O=copy1(t2,0,0)" + marks(4, "t1") + gone},
		{api.Insn{Do: api.DoNeg, Width: 8, A: reg(5)}, "t0=sub8(0,r5,0); t1=subc8(0,r5,0); t2=subo8(0,r5,0); r5=copy8(t0,0,0); C=copy1(t1,0,0); O=copy1(t2,0,0)" + marks(8, "t0") + gone},
		{api.Insn{Do: api.DoNot, Width: 4, A: reg(5)}, "t0=xor4(r5,ffffffff,0); r5=copy4(t0,0,0)" + gone},
		{api.Insn{Do: api.DoImul, Width: 8, A: reg(5), B: reg(6)}, "t0=mul8(r5,r6,0); t1=over8(r5,r6,0); r5=copy8(t0,0,0); C=copy1(t1,0,0); O=copy1(t1,0,0)" + marks(8, "t0") + gone},
		{api.Insn{Do: api.DoMul, Width: 4, A: reg(5)}, "t0=mul4(r0,r5,0); t1=high4(r0,r5,0); t2=zero4(t1,0,0); t3=xor1(t2,1,0); r0=copy4(t0,0,0); r2=copy4(t1,0,0); C=copy1(t3,0,0); O=copy1(t3,0,0)" + marks(4, "t0") + gone},
		{api.Insn{Do: api.DoDiv, Width: 8, A: reg(5)}, "div8(r0,r5,r2); t0=quot8(r0,r5,r2); t1=rest8(r0,r5,r2); r0=copy8(t0,0,0); r2=copy8(t1,0,0)" + gone},
		{api.Insn{Do: api.DoPush, Width: 8, A: reg(4)}, "t0=sub8(r4,8,0); store8(t0,r4,0); r4=copy8(t0,0,0)" + gone},
		{api.Insn{Do: api.DoPop, Width: 8, A: reg(4)}, "t0=load8(r4,0,0); t1=add8(r4,8,0); r4=copy8(t1,0,0); r4=copy8(t0,0,0)" + gone},
		{api.Insn{Do: api.DoCall, Width: 8, B: imm(-3)}, "t0=sub8(r4,8,0); store8(t0,1003,0); r4=copy8(t0,0,0); go8(1000,1003,1)"},
		{api.Insn{Do: api.DoRet, Width: 8}, "t0=load8(r4,0,0); t1=add8(r4,8,0); r4=copy8(t1,0,0); go8(t0,1003,1)"},
		{api.Insn{Do: api.DoJmp, Width: 8, B: imm(0x10)}, "go8(1013,1003,1)"},
		{api.Insn{Do: api.DoJmp, Width: 8, A: reg(7)}, "go8(r7,1003,1)"},
		{api.Insn{Do: api.DoJmp, Width: 8, A: operand.Mem(7, 0)}, "t0=add8(0,r7,0); t1=load8(t0,0,0); go8(t1,1003,1)"},
		{api.Insn{Do: api.DoJcc, Cond: 2, Width: 8, B: imm(1)}, "go8(1004,1003,C)"},
		{api.Insn{Do: api.DoJcc, Cond: 15, Width: 8, B: imm(1)}, "t0=is1(S,O,0); t1=xor1(t0,1,0); t2=or1(Z,t1,0); t3=xor1(t2,1,0); go8(1004,1003,t3)"},
		{api.Insn{Do: api.DoJcc, Cond: 12, Width: 8, B: imm(1)}, "t0=is1(S,O,0); t1=xor1(t0,1,0); go8(1004,1003,t1)"},
		{api.Insn{Do: api.DoCmov, Cond: 7, Width: 4, A: reg(0), B: operand.Mem(-1, 9)}, "t0=load4(9,0,0); t1=or1(C,Z,0); t2=xor1(t1,1,0); t3=pick8(t0,r0,t2); r0=copy4(t3,0,0)" + gone},
		{api.Insn{Do: api.DoSet, Cond: 4, Width: 1, A: reg(9)}, "t0=and8(r9,ffffffffffffff00,0); t1=copy1(Z,0,0); r9=or8(t0,t1,0)" + gone},
		{api.Insn{Do: api.DoSet, Cond: 1, Width: 1, A: operand.Mem(1, 0)}, "t0=add8(0,r1,0); t1=xor1(O,1,0); store1(t0,t1,0)" + gone},
		{api.Insn{Do: api.DoMovzx, Width: 4, A: reg(0), B: reg(1)}, "t0=copy1(r1,0,0); r0=copy4(t0,0,0)" + gone},
		{api.Insn{Do: api.DoMovsx, Width: 8, A: reg(0), B: operand.Mem(-1, 9)}, "t0=load1(9,0,0); t1=ext1(t0,0,0); r0=copy8(t1,0,0)" + gone},
		{api.Insn{Do: api.DoMovdqu, Width: 16, A: operand.Mem(1, 0), B: encode.Vec(1)}, "t0=add8(0,r1,0); vec16(t0,0,0)v35" + gone},
		{api.Insn{Do: api.DoPxor, Width: 16, A: encode.Vec(1), B: encode.Vec(1)}, "vec16(0,0,0)v36" + gone},
		{api.Insn{Do: api.DoShl, Width: 4, A: reg(0), B: imm(32)}, "t0=copy4(r0,0,0); r0=copy4(t0,0,0)" + gone},
		{api.Insn{Do: api.DoShl, Width: 4, A: reg(0), B: imm(35)}, "t0=shl4(r0,3,0); t1=shr4(r0,1d,0); t2=and1(t1,1,0); t3=sign4(t0,0,0); t4=xor1(t3,t2,0); r0=copy4(t0,0,0); C=copy1(t2,0,0); O=copy1(t4,0,0)" + marks(4, "t0") + gone},
		{api.Insn{Do: api.DoShr, Width: 8, A: reg(0), B: imm(1)}, "t0=shr8(r0,1,0); t1=shr8(r0,0,0); t2=and1(t1,1,0); t3=sign8(r0,0,0); r0=copy8(t0,0,0); C=copy1(t2,0,0); O=copy1(t3,0,0)" + marks(8, "t0") + gone},
		{api.Insn{Do: api.DoSar, Width: 8, A: reg(0), B: imm(2)}, "t0=sar8(r0,2,0); t1=sar8(r0,1,0); t2=and1(t1,1,0); r0=copy8(t0,0,0); C=copy1(t2,0,0); O=copy1(0,0,0)" + marks(8, "t0") + gone},
		{api.Insn{Do: api.DoRol, Width: 8, A: reg(0), B: imm(2)}, "t0=rol8(r0,2,0); t1=and1(t0,1,0); t2=sign8(t0,0,0); t3=xor1(t2,t1,0); r0=copy8(t0,0,0); C=copy1(t1,0,0); O=copy1(t3,0,0)" + gone},
		{api.Insn{Do: api.DoRor, Width: 8, A: reg(0), B: reg(1)}, "t0=and1(r1,3f,0); t1=ror8(r0,t0,0); t2=sign8(t1,0,0); t3=shl8(t1,1,0); t4=sign8(t3,0,0); t5=xor1(t2,t4,0); r0=copy8(t1,0,0); C=pick8(t2,C,t0); O=pick8(t5,O,t0)" + gone},
		{api.Insn{Do: api.DoShl, Width: 4, A: reg(0), B: reg(1)}, "t0=and1(r1,1f,0); t1=shl4(r0,t0,0); t2=sub1(20,t0,0); t3=shr4(r0,t2,0); t4=and1(t3,1,0); t5=sign4(t1,0,0); t6=xor1(t5,t4,0); r0=copy4(t1,0,0); C=pick8(t4,C,t0); O=pick8(t6,O,t0); t7=zero4(t1,0,0); t8=sign4(t1,0,0); t9=even4(t1,0,0); Z=pick8(t7,Z,t0); S=pick8(t8,S,t0); P=pick8(t9,P,t0)" + gone},
		{api.Insn{Do: api.DoSar, Width: 8, A: reg(1), B: reg(1)}, "t0=and1(r1,3f,0); t1=sar8(r1,t0,0); t2=sub1(t0,1,0); t3=sar8(r1,t2,0); t4=and1(t3,1,0); r1=copy8(t1,0,0); C=pick8(t4,C,t0); O=pick8(0,O,t0); t5=zero8(t1,0,0); t6=sign8(t1,0,0); t7=even8(t1,0,0); Z=pick8(t5,Z,t0); S=pick8(t6,S,t0); P=pick8(t7,P,t0)" + gone},
	} {
		c.x.Len = 3
		l, e := Lift(c.x, 0x1000)
		if got := told(l); e != api.OK || got != c.want {
			t.Errorf("%d: %d\n%s\n%s", i, e, got, c.want)
		}
	}
	for _, x := range []api.Insn{{}, {Do: api.DoMov, Width: 3, A: reg(0), B: reg(0)}, {Do: 99}} {
		if l, e := Lift(x, 0); e != api.ErrArg || l != nil {
			t.Error(x, l, e)
		}
	}
}

func TestP21_1(t *testing.T) {
	if Word(5) != (api.Val{Is: true, N: 5}) || Cell(7) != (api.Val{Cell: 7}) || Cell(-1) != (api.Val{Cell: -1}) {
		t.Error("Word, Cell")
	}
	d := func(op uint8, at int, a, b, c api.Val) api.Deed { return api.Deed{Op: op, D: at, A: a, B: b, C: c} }
	n := Word(0)
	for i, c := range []struct {
		l    []api.Deed
		want bool
	}{
		{nil, true}, {[]api.Deed{{}}, true},
		{[]api.Deed{d(1, 32, n, n, n), d(1, 33, Cell(32), n, n)}, true},
		{[]api.Deed{d(1, 32, n, n, n), d(1, 32, n, n, n)}, false},
		{[]api.Deed{d(1, 5, n, n, n), d(1, 5, Cell(5), n, n)}, true},
		{[]api.Deed{d(1, 33, Cell(32), n, n), d(1, 32, n, n, n)}, false},
		{[]api.Deed{d(1, 32, Cell(32), n, n)}, false},
		{[]api.Deed{d(1, 0, Cell(40), n, n)}, false},
		{[]api.Deed{d(1, 0, n, Cell(40), n)}, false},
		{[]api.Deed{d(1, 0, n, n, Cell(40))}, false},
		{[]api.Deed{d(api.IrStore, 32, n, n, n), d(api.IrGo, 32, n, n, n)}, false},
		{[]api.Deed{d(1, 5, n, n, n), d(1, 32, Cell(32), n, n)}, false},
		{[]api.Deed{d(1, 63, n, n, n)}, true}, {[]api.Deed{d(1, 64, n, n, n)}, false}, {[]api.Deed{d(1, 1<<62, n, n, n)}, false},
		{[]api.Deed{d(1, 0, Cell(64), n, n)}, false}, {[]api.Deed{d(1, 0, api.Val{Is: true, Cell: 99}, n, n)}, true},
		{[]api.Deed{d(1, -5, Cell(-9), Cell(31), n)}, true},
	} {
		if Order(c.l) != c.want {
			t.Error(i)
		}
	}
	a, _ := Lift(api.Insn{Do: api.DoInc, Width: 8, A: reg(5)}, 0)
	b, _ := Lift(api.Insn{Do: api.DoInc, Width: 8, A: reg(5)}, 0)
	if !Same(a, b) || !Same(nil, []api.Deed{}) || Same(a, b[1:]) {
		t.Error("Same")
	}
	b[2].A.N++
	if Same(a, b) {
		t.Error("Same of unlike ones")
	}
}

// some makes an instruction that may be, and a machine at which it stands.
func some(rng *rand.Rand) (api.Insn, api.State) {
	any := func() api.Operand {
		switch rng.Intn(9) {
		case 0:
			return api.Operand{}
		case 1:
			return imm(int64(rng.Intn(300) - 100))
		case 2:
			return encode.Vec(rng.Intn(16))
		case 3:
			return operand.Mem([]int{3, 6, 7}[rng.Intn(3)], int64(rng.Intn(64)))
		case 4:
			return api.Operand{Kind: 2, Base: []int{-1, 3}[rng.Intn(2)], Index: 8, Scale: []int{1, 2, 4, 8}[rng.Intn(4)], Disp: int64(rng.Intn(64))}
		case 5:
			return reg(1)
		case 6:
			return api.Operand{Kind: 2, Base: -1, Index: -1, Scale: 1, Disp: 0x1010, Rip: true}
		}
		return reg(rng.Intn(16))
	}
	var x api.Insn
	for !encode.Right(x) {
		x = api.Insn{Do: uint8(rng.Intn(int(api.Deeds))), Width: []int{1, 4, 8, 8, 16}[rng.Intn(5)], A: any(), B: any(), Len: rng.Intn(12)}
		if x.Do == api.DoJcc || x.Do == api.DoCmov || x.Do == api.DoSet {
			x.Cond = uint8(rng.Intn(16))
		}
		if x.Do == api.DoClmul {
			x.Imm = uint8(rng.Int())
		}
	}
	var s api.State
	for i, perm := range []uint8{6, 4} {
		p := api.Page{At: uint64(i+2) * 0x1000, Perm: perm, Data: make([]byte, 4096)}
		rng.Read(p.Data)
		s.Pages = append(s.Pages, p)
	}
	for i := range 16 {
		s.C.R[i] = []uint64{rng.Uint64(), uint64(rng.Intn(70)), 1 << 63, ^uint64(0), 1 << 31}[rng.Intn(5)]
		rng.Read(s.C.X[i][:])
	}
	s.C.R[3], s.C.R[6], s.C.R[8] = 0x2100, 0x3100, uint64(rng.Intn(200))
	if rng.Intn(4) > 0 {
		s.C.R[4] = 0x2800
	}
	s.C.F = cpu.Unpacked(uint8(rng.Int()))
	s.C.IP = 0x1000
	return x, s
}

func TestP21_3(t *testing.T) {
	rng := rand.New(rand.NewSource(36))
	for range 20000 {
		x, s := some(rng)
		l, e := Lift(x, s.C.IP)
		if e != api.OK || !Order(l) {
			t.Fatal(x, e)
		}
		for i, d := range l {
			if !interp.Right(d) || (d.Op == api.IrGo) != (i == len(l)-1) {
				t.Fatal(x, d)
			}
		}
		g, events := interp.Run(s, l...)
		h, shown := step.Do(s, x)
		if !step.Same(g, h) || len(events) != len(shown) || len(shown) > 0 && !reflect.DeepEqual(events, shown) {
			t.Fatalf("%+v\n%s\n%v %v\n%v\n%v", x, told(l), events, shown, g.C, h.C)
		}
	}
}
