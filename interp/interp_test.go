package interp

import (
	"math/big"
	"math/rand"
	"reflect"
	"slices"
	"testing"

	"sundial/alu"
	"sundial/api"
	"sundial/bits"
	"sundial/cpu"
	"sundial/encode"
	"sundial/memory"
	"sundial/operand"
	"sundial/step"
)

func num(n uint64) api.Val { return api.Val{Is: true, N: n} }

func cell(c int) api.Val { return api.Val{Cell: c} }

func sample(rng *rand.Rand) api.State {
	var s api.State
	for i, perm := range []uint8{6, 4} {
		p := api.Page{At: uint64(i+2) * 0x1000, Perm: perm, Data: make([]byte, 4096)}
		rng.Read(p.Data)
		s.Pages = append(s.Pages, p)
	}
	for i := range 16 {
		s.C.R[i] = rng.Uint64()
		rng.Read(s.C.X[i][:])
	}
	s.C.F = cpu.Unpacked(uint8(rng.Int()))
	s.C.IP = rng.Uint64()
	return s
}

func TestP20_1Right(t *testing.T) {
	good := api.Deed{Op: api.IrAdd, W: 4, D: 3, A: num(5), B: cell(20), C: cell(63)}
	pxor := api.Insn{Do: api.DoPxor, Width: 16, A: encode.Vec(1), B: encode.Vec(2)}
	vec := api.Deed{Op: api.IrVec, W: 16, A: cell(32), V: pxor}
	with := func(d api.Deed, change func(*api.Deed)) api.Deed { change(&d); return d }
	for i, c := range []struct {
		d    api.Deed
		want bool
	}{
		{good, true}, {vec, true}, {api.Deed{}, false},
		{with(good, func(d *api.Deed) { d.Op = api.IrNone }), false}, {with(good, func(d *api.Deed) { d.Op = api.IrDeeds }), false}, {with(good, func(d *api.Deed) { d.Op = 255 }), false}, {with(good, func(d *api.Deed) { d.Op, d.D = api.IrDeeds, 0 }), false}, {with(good, func(d *api.Deed) { d.Op, d.D = api.IrNone, 0 }), false}, {with(good, func(d *api.Deed) { d.Op, d.D = 255, 0 }), false},
		{with(good, func(d *api.Deed) { d.W = 0 }), false}, {with(good, func(d *api.Deed) { d.W = 9 }), false}, {with(good, func(d *api.Deed) { d.W = 16 }), false}, {with(good, func(d *api.Deed) { d.W = 1 }), true}, {with(good, func(d *api.Deed) { d.W = 8 }), true},
		{with(good, func(d *api.Deed) { d.D = -1 }), false}, {with(good, func(d *api.Deed) { d.D = 21 }), false}, {with(good, func(d *api.Deed) { d.D = 31 }), false}, {with(good, func(d *api.Deed) { d.D = 32 }), true}, {with(good, func(d *api.Deed) { d.D = 64 }), false},
		{with(good, func(d *api.Deed) { d.A.Cell = 1 }), false}, {with(good, func(d *api.Deed) { d.B.N = 1 }), false}, {with(good, func(d *api.Deed) { d.C = cell(64) }), false}, {with(good, func(d *api.Deed) { d.C = cell(21) }), false}, {with(good, func(d *api.Deed) { d.C = cell(-1) }), false},
		{with(good, func(d *api.Deed) { d.V.Len = 1 }), false}, {with(good, func(d *api.Deed) { d.Op = api.IrStore }), false}, {with(good, func(d *api.Deed) { d.Op, d.D = api.IrStore, 0 }), true}, {with(good, func(d *api.Deed) { d.Op, d.D = api.IrGo, 0 }), true}, {with(good, func(d *api.Deed) { d.Op, d.D = api.IrDiv, 1 }), false},
		{with(good, func(d *api.Deed) { d.Op = api.IrLoad }), true},
		{with(vec, func(d *api.Deed) { d.W = 8 }), false}, {with(vec, func(d *api.Deed) { d.D = 1 }), false}, {with(vec, func(d *api.Deed) { d.V = api.Insn{} }), false}, {with(vec, func(d *api.Deed) { d.V.Len = 4 }), true},
		{with(vec, func(d *api.Deed) { d.V = api.Insn{Do: api.DoNop, Width: 8} }), false}, {with(vec, func(d *api.Deed) { d.V.Width = 8 }), false}, {with(vec, func(d *api.Deed) { d.V.Do = api.DoClmul }), true},
	} {
		if Right(c.d) != c.want {
			t.Error(i, c.d)
		}
	}
	for op := range 256 {
		want := op >= int(api.IrCopy) && op <= int(api.IrLoad)
		if Sets(uint8(op)) != want {
			t.Error("Sets", op)
		}
	}
}

func TestP20_1Cells(t *testing.T) {
	s := sample(rand.New(rand.NewSource(31)))
	c := Start(s.C)
	f := func(b bool) uint64 {
		if b {
			return 1
		}
		return 0
	}
	for i := range api.Cells {
		want := uint64(0)
		if i < 16 {
			want = s.C.R[i]
		} else if i <= api.CellP {
			want = f([]bool{s.C.F.C, s.C.F.Z, s.C.F.S, s.C.F.O, s.C.F.P}[i-16])
		}
		if c.N[i] != want {
			t.Error("Start", i)
		}
	}
	if c.X != s.C.X {
		t.Error("vectors")
	}
	if Back(c, api.CPU{IP: 77}) != (api.CPU{R: s.C.R, X: s.C.X, F: s.C.F, IP: 77}) {
		t.Error("Back")
	}
	c.N[api.CellC], c.N[api.CellZ], c.N[api.CellS], c.N[api.CellO], c.N[api.CellP] = 0, 256, 1<<63, 0, 2
	if got := Back(c, s.C).F; got != (api.Flags{Z: true, S: true, P: true}) {
		t.Error("flags", got)
	}
}

// want is what a deed sets, told anew.
func want(op uint8, w int, a, b, x uint64) uint64 {
	if op == api.IrPick {
		if x != 0 {
			return a
		}
		return b
	}
	w = max(1, min(w, 8))
	a, b, x = bits.Cut(a, w), bits.Cut(b, w), bits.Cut(x, w)
	n := uint(8 * w)
	big1 := func(v uint64) *big.Int { return new(big.Int).SetUint64(v) }
	low := func(v *big.Int) uint64 { return bits.Cut(new(big.Int).And(v, big1(^uint64(0))).Uint64(), w) }
	bit := func(v bool) uint64 {
		if v {
			return 1
		}
		return 0
	}
	c := x&1 == 1
	switch op {
	case api.IrCopy:
		return a
	case api.IrAdd:
		return low(new(big.Int).Add(big1(a), big1(b+x&1)))
	case api.IrSub:
		r, _, _ := bits.Sub(a, b, c, w)
		return r
	case api.IrAddC:
		_, out, _ := bits.Add(a, b, c, w)
		return bit(out)
	case api.IrSubC:
		_, out, _ := bits.Sub(a, b, c, w)
		return bit(out)
	case api.IrAddO:
		_, _, over := bits.Add(a, b, c, w)
		return bit(over)
	case api.IrSubO:
		_, _, over := bits.Sub(a, b, c, w)
		return bit(over)
	case api.IrAnd:
		return a & b
	case api.IrOr:
		return a | b
	case api.IrXor:
		return a ^ b
	case api.IrShl:
		return low(new(big.Int).Lsh(big1(a), uint(b%64)))
	case api.IrShr:
		return low(new(big.Int).Rsh(big1(a), uint(b%64)))
	case api.IrSar:
		v := big1(a)
		if v.Bit(int(n-1)) == 1 {
			v.Sub(v, new(big.Int).Lsh(big.NewInt(1), n))
		}
		v.Rsh(v, uint(b%64))
		return bits.Cut(uint64(new(big.Int).And(v, big1(^uint64(0))).Uint64()), w)
	case api.IrRol, api.IrRor:
		k := int(b & 255)
		if op == api.IrRor {
			k = -k
		}
		return bits.Turn(a, k, w)
	case api.IrMul, api.IrHigh:
		l, h, _ := alu.Mul(w, a, b)
		if op == api.IrHigh {
			return h
		}
		return l
	case api.IrOver:
		_, f := alu.Imul(w, a, b)
		return bit(f.O)
	case api.IrQuot, api.IrRest:
		q, r, _ := alu.Div(w, x, a, b)
		if op == api.IrRest {
			return r
		}
		return q
	case api.IrExt:
		return bits.Ext(a, w)
	case api.IrZero:
		return bit(a == 0)
	case api.IrSign:
		return bit(a>>(n-1) == 1)
	case api.IrEven:
		return bit(bits.Parity(a))
	case api.IrIs:
		return bit(a == b)
	}
	return 0
}

var words = []uint64{0, 1, 2, 7, 0x7f, 0x80, 0xff, 0x100, 0x7fffffff, 0x80000000, 0xffffffff, 1 << 32, 1<<63 - 1, 1 << 63, ^uint64(0)}

func TestP20_2(t *testing.T) {
	for op := range 40 {
		for _, w := range []int{-1 << 63, 0, 1, 2, 4, 7, 8, 9, 16} {
			for _, a := range words {
				for _, b := range words {
					x := words[(a+b*3)%15]
					if got := Value(uint8(op), w, a, b, x); got != want(uint8(op), w, a, b, x) {
						t.Fatalf("op %d w %d %x %x %x: %x, not %x", op, w, a, b, x, got, want(uint8(op), w, a, b, x))
					}
				}
			}
		}
	}
	if Value(api.IrAdd, 8, 3, 4, 1) != 8 || Value(api.IrAdd, 8, 3, 4, 2) != 7 || Value(api.IrShl, 4, 1, 64, 0) != 1 || Value(api.IrShr, 1, 0x80, 8, 0) != 0 || Value(api.IrSar, 1, 0x80, 63, 0) != 0xff || Value(api.IrPick, 1, 0x1234, 5, 1<<40) != 0x1234 {
		t.Error("known ones")
	}
}

func TestP20_3(t *testing.T) {
	rng := rand.New(rand.NewSource(32))
	s := sample(rng)
	was := step.Own(s)
	g, l := Run(s,
		api.Deed{Op: api.IrAdd, W: 8, D: 32, A: cell(0), B: cell(1), C: num(0)},
		api.Deed{Op: api.IrCopy, W: 4, D: 2, A: cell(32)},
		api.Deed{Op: api.IrCopy, W: 1, D: api.CellZ, A: num(0x100)},
		api.Deed{Op: api.IrCopy, W: 1, D: api.CellS, A: num(2)},
		api.Deed{Op: api.IrLoad, W: 4, D: 5, A: num(0x3001)},
		api.Deed{Op: api.IrStore, W: 2, A: num(0x2001), B: cell(5)},
		api.Deed{Op: api.IrGo, W: 1, A: num(0x111), B: num(0x222), C: num(0x100)},
		api.Deed{Op: api.IrGo, W: 99, A: num(0x333)},
	)
	want := step.Own(s)
	want.C.R[2] = (s.C.R[0] + s.C.R[1]) & 0xffffffff
	want.C.R[5] = bits.Number(s.Pages[1].Data[1:5])
	want.C.F.Z, want.C.F.S, want.C.IP = false, true, 0x111
	copy(want.Pages[0].Data[1:3], s.Pages[1].Data[1:3])
	events := []api.Event{{Kind: api.EvLoad, A: 0x3001, N: 4}, {Kind: api.EvStore, A: 0x2001, N: 2}}
	if !step.Same(g, want) || !slices.Equal(l, events) || !step.Same(s, was) {
		t.Error(g.C, want.C, l)
	}
	if g, l := Run(s); g.C.IP != 0 || len(l) != 0 || g.Over {
		t.Error("no deeds")
	}
	s.Over = true
	if g, l := Run(s, api.Deed{Op: api.IrCopy, W: 8, D: 0, A: num(1)}); !step.Same(g, s) || len(l) != 0 {
		t.Error("over")
	}
}

func TestFaults(t *testing.T) {
	s := sample(rand.New(rand.NewSource(33)))
	store := api.Deed{Op: api.IrStore, W: 8, A: num(0x2000), B: num(5)}
	shown := api.Event{Kind: api.EvStore, A: 0x2000, N: 8}
	vec := func(x api.Insn, a uint64) api.Deed { return api.Deed{Op: api.IrVec, W: 16, A: num(a), V: x} }
	for i, c := range []struct {
		d    api.Deed
		show api.Event
		kind int
		at   uint64
	}{
		{api.Deed{Op: api.IrLoad, W: 8, D: 0, A: num(0x3ff9)}, api.Event{Kind: api.EvLoad, A: 0x3ff9, N: 8}, api.FaultRead, 0x3ff9},
		{api.Deed{Op: api.IrStore, W: 1, A: num(0x3000)}, api.Event{Kind: api.EvStore, A: 0x3000, N: 1}, api.FaultWrite, 0x3000},
		{api.Deed{Op: api.IrDiv, W: 4, A: num(1 << 33), B: num(1 << 32), C: num(3)}, api.Event{Kind: api.EvDiv, A: 0, B: 3, C: 0}, api.FaultDiv, s.C.IP},
		{vec(api.Insn{Do: api.DoAesenc, Width: 16, A: encode.Vec(1), B: operand.Mem(0, 0)}, 5), api.Event{Kind: api.EvLoad, A: 5, N: 16}, api.FaultRead, 5},
		{vec(api.Insn{Do: api.DoMovdqu, Width: 16, A: operand.Mem(0, 0), B: encode.Vec(1)}, 0x2ff1), api.Event{Kind: api.EvStore, A: 0x2ff1, N: 16}, api.FaultWrite, 0x2ff1},
	} {
		g, l := Run(s, store, c.d, api.Deed{Op: api.IrCopy, W: 8, D: 0, A: num(1)})
		want := step.Own(s)
		want.Over = true
		if !step.Same(g, want) || !slices.Equal(l, []api.Event{shown, c.show, {Kind: api.EvFault, N: c.kind, A: c.at}}) {
			t.Error(i, l)
		}
	}
	g, l := Run(s, api.Deed{Op: api.IrDiv, W: 1, A: num(0x107), B: num(0x102), C: num(0x100)})
	if g.Over || !slices.Equal(l, []api.Event{{Kind: api.EvDiv, A: 7, B: 0, C: 2}}) {
		t.Error("a division", l)
	}
}

func TestVectors(t *testing.T) {
	rng := rand.New(rand.NewSource(34))
	for range 300 {
		s := sample(rng)
		at := uint64(0x2000 + rng.Intn(4000))
		s.C.R[3] = at
		x := api.Insn{Do: api.DoMovdqu + uint8(rng.Intn(5)), Width: 16, A: encode.Vec(rng.Intn(16)), B: encode.Vec(rng.Intn(16))}
		switch rng.Intn(3) {
		case 0:
			x.B = operand.Mem(3, 0)
		case 1:
			if x.Do == api.DoMovdqu {
				x.A = operand.Mem(3, 0)
			}
		}
		if x.Do == api.DoClmul {
			x.Imm = uint8(rng.Int())
		}
		g, l := Run(s, api.Deed{Op: api.IrVec, W: 16, A: num(at), V: x}, api.Deed{Op: api.IrGo, W: 8, A: num(7), C: num(1)})
		h, k := step.Do(s, x)
		h.C.IP = 7
		if !step.Same(g, h) || len(l) != len(k) || len(l) > 0 && !reflect.DeepEqual(l, k) {
			t.Fatal(x, l, k)
		}
	}
}

// some makes a deed that often may be.
func some(rng *rand.Rand, low int) api.Deed {
	val := func() api.Val {
		switch rng.Intn(4) {
		case 0:
			return num(words[rng.Intn(len(words))])
		case 1:
			return num(uint64(0x2000 + rng.Intn(0x2100)))
		}
		return cell(rng.Intn(21))
	}
	d := api.Deed{Op: uint8(rng.Intn(int(api.IrDeeds) + 1)), W: rng.Intn(9), A: val(), B: val(), C: val()}
	if Sets(d.Op) {
		d.D = rng.Intn(low)
	}
	return d
}

func TestP20_4(t *testing.T) {
	rng := rand.New(rand.NewSource(35))
	for range 5000 {
		s := sample(rng)
		var first, second []api.Deed
		for range rng.Intn(5) {
			if d := some(rng, 16); d.Op != api.IrGo {
				first = append(first, d)
			}
		}
		for range rng.Intn(5) {
			second = append(second, some(rng, 21))
		}
		g, l := Run(s, first...)
		h, k := Run(g, second...)
		if !g.Over {
			all, m := Run(s, append(slices.Clone(first), second...)...)
			if all.Over {
				// The place of a division's fault is IP, which the first part's end leaves; what is there is as it was ahead of all.
				if !slices.Equal(l, m[:len(l)]) || all.C != s.C || !memory.Same(all.Pages, s.Pages) {
					t.Fatal("over")
				}
				continue
			}
			if !step.Same(h, all) || !slices.Equal(append(l, k...), m) {
				t.Fatal(first, second)
			}
		}
	}
}
