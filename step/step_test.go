package step

import (
	"math/rand"
	"reflect"
	"testing"

	"sundial/alu"
	"sundial/api"
	"sundial/cpu"
	"sundial/encode"
	"sundial/facts"
	"sundial/memory"
	"sundial/operand"
	"sundial/vector"
)

func reg(r int) api.Operand { return operand.Reg(r) }

func mem(base int, disp int64) api.Operand { return operand.Mem(base, disp) }

func imm(n int64) api.Operand { return encode.Imm(n) }

// machine has code at 0x1000, data at 0x2000 that can be written, and data at 0x3000 that can't.
func machine(rng *rand.Rand, code ...api.Insn) api.State {
	var s api.State
	b, e := encode.Code(code...)
	if e != api.OK {
		panic("code")
	}
	for i, perm := range []uint8{5, 6, 4} {
		p := api.Page{At: uint64(i+1) * 0x1000, Perm: perm, Data: make([]byte, 4096)}
		rng.Read(p.Data)
		s.Pages = append(s.Pages, p)
	}
	copy(s.Pages[0].Data, b)
	for i := range 16 {
		s.C.R[i] = rng.Uint64()
		rng.Read(s.C.X[i][:])
	}
	s.C.R[3], s.C.R[4], s.C.R[6] = 0x2100, 0x2800, 0x3100
	s.C.F = cpu.Unpacked(uint8(rng.Int()))
	s.C.IP = 0x1000
	return s
}

func TestEnds(t *testing.T) {
	rng := rand.New(rand.NewSource(20))
	s := machine(rng)
	s.C.IP = 0
	g, l := Step(s)
	want := Own(s)
	want.Over = true
	if !Same(g, want) || !reflect.DeepEqual(l, []api.Event{{Kind: api.EvEnd}}) {
		t.Error("the end", l)
	}
	if g2, l := Step(g); !Same(g2, g) || len(l) != 0 {
		t.Error("over", l)
	}
	s.C.IP = 0x4000
	if g, l := Step(s); !g.Over || g.C != s.C || !reflect.DeepEqual(l, []api.Event{{Kind: api.EvFault, N: api.FaultFetch, A: 0x4000}}) {
		t.Error("fetch", l)
	}
	if x, f := At(s); x != (api.Insn{}) || f != api.FaultFetch {
		t.Error("At", x, f)
	}
	s.C.IP = 0x3000
	if _, l := Step(s); !reflect.DeepEqual(l, []api.Event{{Kind: api.EvFault, N: api.FaultFetch, A: 0x3000}}) {
		t.Error("a page that is not executed", l)
	}
	s.C.IP = 0x1000
	s.Pages[0].Data[0] = 0xcc
	if g, l := Step(s); !g.Over || g.C != s.C || !reflect.DeepEqual(l, []api.Event{{Kind: api.EvFault, N: api.FaultCode, A: 0x1000}}) {
		t.Error("code", l)
	}
	if x, f := At(s); x != (api.Insn{}) || f != api.FaultCode {
		t.Error("At", x, f)
	}
	s.C.IP, s.Pages[0].Data[4095] = 0x1fff, 0x48
	if _, f := At(s); f != api.FaultCode {
		t.Error("cut off by the page's end", f)
	}
	s.Pages[0].Data[4095] = 0x90
	if x, f := At(s); x != (api.Insn{Do: api.DoNop, Width: 8, Len: 1}) || f != api.FaultNone {
		t.Error("At", x, f)
	}
}

// TestDoWhenOver holds what is done of a machine that is over against what is done of the same one that is not.
func TestDoWhenOver(t *testing.T) {
	rng := rand.New(rand.NewSource(46))
	for range 5000 {
		x := some(rng)
		s := machine(rng)
		over := Own(s)
		over.Over = true
		g, l := Do(s, x)
		h, k := Do(over, x)
		g.Over = true
		if !Same(g, h) || !reflect.DeepEqual(l, k) {
			t.Fatal(x, l, k)
		}
		if h, k := Step(over); !Same(h, over) || len(k) != 0 {
			t.Fatal("a step", k)
		}
	}
	s := machine(rng)
	s.Over = true
	want := Own(s)
	want.C.R[0], want.C.IP = 7, 0x1003
	if g, l := Do(s, api.Insn{Do: api.DoMov, Width: 8, A: reg(0), B: imm(7), Len: 3}); !Same(g, want) || len(l) != 0 {
		t.Error("mov", l)
	}
	if g, l := Do(s, api.Insn{}); !Same(g, s) || !reflect.DeepEqual(l, []api.Event{{Kind: api.EvFault, N: api.FaultCode, A: 0x1000}}) {
		t.Error("no instruction", l)
	}
	events := []api.Event{load(0x5000, 8), {Kind: api.EvFault, N: api.FaultRead, A: 0x5000}}
	if g, l := Do(s, api.Insn{Do: api.DoMov, Width: 8, A: reg(0), B: mem(-1, 0x5000)}); !Same(g, s) || !reflect.DeepEqual(l, events) {
		t.Error("a fault", l)
	}
}

// TestOdd steps machines whose pages may not be: code that is written while it runs.
func TestOdd(t *testing.T) {
	s := api.State{Pages: []api.Page{{At: 3, Perm: 7, Data: []byte{0x88, 0x00, 0x90, 0xc3}}}}
	s.C.IP, s.C.R[0] = 3, 5
	m := New(s)
	m.Step()
	if g := m.State(); g.Pages[0].Data[2] != 5 || g.C.IP != 5 {
		t.Error(g)
	}
	m.Step()
	if g := m.State(); !g.Over {
		t.Error("what was written is not what is done", g)
	}
}

func TestP16_1(t *testing.T) {
	s := machine(rand.New(rand.NewSource(21)))
	own := Own(s)
	if !Same(s, own) || !Same(api.State{}, Own(api.State{Pages: []api.Page{}})) {
		t.Error("Own")
	}
	own.Pages[1].Data[0]++
	if Same(s, own) {
		t.Error("shared")
	}
	for i, change := range []func(*api.State){
		func(s *api.State) { s.C.R[7]++ }, func(s *api.State) { s.C.X[7][3]++ }, func(s *api.State) { s.C.F.P = !s.C.F.P }, func(s *api.State) { s.C.IP++ },
		func(s *api.State) { s.Over = true }, func(s *api.State) { s.Pages[0].Perm = 4 }, func(s *api.State) { s.Pages = nil },
	} {
		own := Own(s)
		if change(&own); Same(s, own) {
			t.Error("Same", i)
		}
	}
}

// told is what an instruction is to do: events, and how the machine is changed.
type told struct {
	x      api.Insn
	events []api.Event
	change func(c *api.CPU, data []byte)
}

func number(b []byte, w int) uint64 {
	x := uint64(0)
	for i := range w {
		x |= uint64(b[i]) << (8 * i)
	}
	return x
}

func put(b []byte, x uint64, w int) {
	for i := range w {
		b[i] = byte(x >> (8 * i))
	}
}

func load(a uint64, n int) api.Event { return api.Event{Kind: api.EvLoad, A: a, N: n} }

func store(a uint64, n int) api.Event { return api.Event{Kind: api.EvStore, A: a, N: n} }

func TestMovesAndSums(t *testing.T) {
	const at = 0x2108
	m, off := mem(3, 8), 0x108
	list := []told{
		{api.Insn{Do: api.DoMov, Width: 8, A: reg(0), B: reg(1)}, nil, func(c *api.CPU, d []byte) { c.R[0] = c.R[1] }},
		{api.Insn{Do: api.DoMov, Width: 4, A: reg(0), B: reg(1)}, nil, func(c *api.CPU, d []byte) { c.R[0] = c.R[1] & 0xffffffff }},
		{api.Insn{Do: api.DoMov, Width: 1, A: reg(6), B: reg(1)}, nil, func(c *api.CPU, d []byte) { c.R[6] = c.R[6]&^0xff | c.R[1]&0xff }},
		{api.Insn{Do: api.DoMov, Width: 8, A: reg(0), B: imm(-2)}, nil, func(c *api.CPU, d []byte) { c.R[0] = ^uint64(1) }},
		{api.Insn{Do: api.DoMov, Width: 4, A: reg(0), B: imm(-2)}, nil, func(c *api.CPU, d []byte) { c.R[0] = 0xfffffffe }},
		{api.Insn{Do: api.DoMov, Width: 4, A: m, B: reg(9)}, []api.Event{store(at, 4)}, func(c *api.CPU, d []byte) { put(d[off:], c.R[9], 4) }},
		{api.Insn{Do: api.DoMov, Width: 1, A: m, B: imm(-3)}, []api.Event{store(at, 1)}, func(c *api.CPU, d []byte) { d[off] = 0xfd }},
		{api.Insn{Do: api.DoMov, Width: 4, A: reg(9), B: m}, []api.Event{load(at, 4)}, func(c *api.CPU, d []byte) { c.R[9] = number(d[off:], 4) }},
		{api.Insn{Do: api.DoMov, Width: 1, A: reg(9), B: m}, []api.Event{load(at, 1)}, func(c *api.CPU, d []byte) { c.R[9] = c.R[9]&^0xff | uint64(d[off]) }},
		{api.Insn{Do: api.DoLea, Width: 4, A: reg(9), B: api.Operand{Kind: 2, Base: 3, Index: 1, Scale: 4, Disp: -1}}, nil, func(c *api.CPU, d []byte) { c.R[9] = (c.R[3] + 4*c.R[1] - 1) & 0xffffffff }},
		{api.Insn{Do: api.DoNop, Width: 8}, nil, func(c *api.CPU, d []byte) {}},
		{api.Insn{Do: api.DoAdd, Width: 8, A: m, B: reg(1)}, []api.Event{load(at, 8), store(at, 8)}, func(c *api.CPU, d []byte) {
			r, f := alu.Add(8, number(d[off:], 8), c.R[1], false)
			put(d[off:], r, 8)
			c.F = f
		}},
		{api.Insn{Do: api.DoAdc, Width: 4, A: reg(0), B: m}, []api.Event{load(at, 4)}, func(c *api.CPU, d []byte) {
			c.R[0], c.F = alu.Add(4, c.R[0], number(d[off:], 4), c.F.C)
		}},
		{api.Insn{Do: api.DoSub, Width: 8, A: reg(0), B: imm(-1)}, nil, func(c *api.CPU, d []byte) { c.R[0], c.F = alu.Sub(8, c.R[0], ^uint64(0), false) }},
		{api.Insn{Do: api.DoSbb, Width: 8, A: reg(0), B: reg(0)}, nil, func(c *api.CPU, d []byte) { c.R[0], c.F = alu.Sub(8, c.R[0], c.R[0], c.F.C) }},
		{api.Insn{Do: api.DoCmp, Width: 4, A: m, B: imm(5)}, []api.Event{load(at, 4)}, func(c *api.CPU, d []byte) { _, c.F = alu.Sub(4, number(d[off:], 4), 5, false) }},
		{api.Insn{Do: api.DoAnd, Width: 4, A: reg(0), B: reg(1)}, nil, func(c *api.CPU, d []byte) {
			c.R[0] = c.R[0] & c.R[1] & 0xffffffff
			c.F = alu.Logic(4, c.R[0])
		}},
		{api.Insn{Do: api.DoOr, Width: 8, A: reg(0), B: reg(1)}, nil, func(c *api.CPU, d []byte) {
			c.R[0] |= c.R[1]
			c.F = alu.Logic(8, c.R[0])
		}},
		{api.Insn{Do: api.DoXor, Width: 8, A: reg(0), B: reg(1)}, nil, func(c *api.CPU, d []byte) {
			c.R[0] ^= c.R[1]
			c.F = alu.Logic(8, c.R[0])
		}},
		{api.Insn{Do: api.DoTest, Width: 8, A: m, B: imm(-1)}, []api.Event{load(at, 8)}, func(c *api.CPU, d []byte) { c.F = alu.Logic(8, number(d[off:], 8)) }},
		{api.Insn{Do: api.DoInc, Width: 8, A: reg(0)}, nil, func(c *api.CPU, d []byte) { c.R[0], c.F = alu.Inc(8, c.R[0], c.F) }},
		{api.Insn{Do: api.DoDec, Width: 4, A: m}, []api.Event{load(at, 4), store(at, 4)}, func(c *api.CPU, d []byte) {
			r, f := alu.Dec(4, number(d[off:], 4), c.F)
			put(d[off:], r, 4)
			c.F = f
		}},
		{api.Insn{Do: api.DoNeg, Width: 4, A: reg(0)}, nil, func(c *api.CPU, d []byte) { c.R[0], c.F = alu.Neg(4, c.R[0]) }},
		{api.Insn{Do: api.DoNot, Width: 4, A: reg(0)}, nil, func(c *api.CPU, d []byte) { c.R[0] = ^c.R[0] & 0xffffffff }},
		{api.Insn{Do: api.DoShl, Width: 4, A: reg(0), B: imm(0)}, nil, func(c *api.CPU, d []byte) { c.R[0] &= 0xffffffff }},
		{api.Insn{Do: api.DoSar, Width: 8, A: reg(0), B: imm(67)}, nil, func(c *api.CPU, d []byte) { c.R[0], c.F = alu.Shift(api.DoSar, 8, c.R[0], 67, c.F) }},
		{api.Insn{Do: api.DoRol, Width: 8, A: reg(1), B: reg(1)}, nil, func(c *api.CPU, d []byte) { c.R[1], c.F = alu.Shift(api.DoRol, 8, c.R[1], byte(c.R[1]), c.F) }},
		{api.Insn{Do: api.DoShr, Width: 4, A: m, B: reg(1)}, []api.Event{load(at, 4), store(at, 4)}, func(c *api.CPU, d []byte) {
			r, f := alu.Shift(api.DoShr, 4, number(d[off:], 4), byte(c.R[1]), c.F)
			put(d[off:], r, 4)
			c.F = f
		}},
		{api.Insn{Do: api.DoImul, Width: 4, A: reg(0), B: m}, []api.Event{load(at, 4)}, func(c *api.CPU, d []byte) { c.R[0], c.F = alu.Imul(4, c.R[0], number(d[off:], 4)) }},
		{api.Insn{Do: api.DoMul, Width: 4, A: reg(2)}, nil, func(c *api.CPU, d []byte) { c.R[0], c.R[2], c.F = alu.Mul(4, c.R[0], c.R[2]) }},
		{api.Insn{Do: api.DoMovzx, Width: 8, A: reg(0), B: reg(6)}, nil, func(c *api.CPU, d []byte) { c.R[0] = c.R[6] & 0xff }},
		{api.Insn{Do: api.DoMovsx, Width: 4, A: reg(0), B: m}, []api.Event{load(at, 1)}, func(c *api.CPU, d []byte) { c.R[0] = uint64(uint32(int8(d[off]))) }},
		{api.Insn{Do: api.DoMovsx, Width: 8, A: reg(0), B: reg(1)}, nil, func(c *api.CPU, d []byte) { c.R[0] = uint64(int64(int8(c.R[1]))) }},
		{api.Insn{Do: api.DoMovdqu, Width: 16, A: encode.Vec(1), B: encode.Vec(2)}, nil, func(c *api.CPU, d []byte) { c.X[1] = c.X[2] }},
		{api.Insn{Do: api.DoMovdqu, Width: 16, A: encode.Vec(15), B: m}, []api.Event{load(at, 16)}, func(c *api.CPU, d []byte) { copy(c.X[15][:], d[off:]) }},
		{api.Insn{Do: api.DoMovdqu, Width: 16, A: m, B: encode.Vec(9)}, []api.Event{store(at, 16)}, func(c *api.CPU, d []byte) { copy(d[off:], c.X[9][:]) }},
		{api.Insn{Do: api.DoPxor, Width: 16, A: encode.Vec(1), B: m}, []api.Event{load(at, 16)}, func(c *api.CPU, d []byte) { c.X[1] = vector.Do(api.DoPxor, c.X[1], vector.Of(d[off:]), 0) }},
		{api.Insn{Do: api.DoAesenc, Width: 16, A: encode.Vec(1), B: encode.Vec(2)}, nil, func(c *api.CPU, d []byte) { c.X[1] = vector.Do(api.DoAesenc, c.X[1], c.X[2], 0) }},
		{api.Insn{Do: api.DoAeslast, Width: 16, A: encode.Vec(1), B: encode.Vec(1)}, nil, func(c *api.CPU, d []byte) { c.X[1] = vector.Do(api.DoAeslast, c.X[1], c.X[1], 0) }},
		{api.Insn{Do: api.DoClmul, Width: 16, A: encode.Vec(1), B: encode.Vec(2), Imm: 0x11}, nil, func(c *api.CPU, d []byte) { c.X[1] = vector.Do(api.DoClmul, c.X[1], c.X[2], 0x11) }},
		{api.Insn{Do: api.DoPush, Width: 8, A: reg(4)}, []api.Event{store(0x27f8, 8)}, func(c *api.CPU, d []byte) {
			put(d[0x7f8:], c.R[4], 8)
			c.R[4] -= 8
		}},
		{api.Insn{Do: api.DoPop, Width: 8, A: reg(9)}, []api.Event{load(0x2800, 8)}, func(c *api.CPU, d []byte) {
			c.R[9] = number(d[0x800:], 8)
			c.R[4] += 8
		}},
		{api.Insn{Do: api.DoPop, Width: 8, A: reg(4)}, []api.Event{load(0x2800, 8)}, func(c *api.CPU, d []byte) { c.R[4] = number(d[0x800:], 8) }},
	}
	for cc := range uint8(16) {
		holds := func(c *api.CPU) bool { return cpu.Cond(c.F, cc) }
		list = append(list,
			told{api.Insn{Do: api.DoCmov, Cond: cc, Width: 4, A: reg(0), B: m}, []api.Event{load(at, 4)}, func(c *api.CPU, d []byte) {
				if c.R[0] &= 0xffffffff; holds(c) {
					c.R[0] = number(d[off:], 4)
				}
			}},
			told{api.Insn{Do: api.DoSet, Cond: cc, Width: 1, A: m}, []api.Event{store(at, 1)}, func(c *api.CPU, d []byte) {
				if d[off] = 0; holds(c) {
					d[off] = 1
				}
			}},
			told{api.Insn{Do: api.DoSet, Cond: cc, Width: 1, A: reg(9)}, nil, func(c *api.CPU, d []byte) {
				if c.R[9] &^= 0xff; holds(c) {
					c.R[9] |= 1
				}
			}})
	}
	checkAll(t, list, false)
}

func TestWays(t *testing.T) {
	next := func(x api.Insn) uint64 {
		b, _ := encode.Encode(x)
		return 0x1000 + uint64(len(b))
	}
	var list []told
	add := func(x api.Insn, events []api.Event, change func(c *api.CPU, d []byte, next uint64)) {
		n := next(x)
		list = append(list, told{x, events, func(c *api.CPU, d []byte) { change(c, d, n) }})
	}
	add(api.Insn{Do: api.DoCall, Width: 8, B: imm(0x20)}, []api.Event{store(0x27f8, 8)}, func(c *api.CPU, d []byte, next uint64) {
		put(d[0x7f8:], next, 8)
		c.R[4] -= 8
		c.IP = next + 0x20
	})
	add(api.Insn{Do: api.DoRet, Width: 8}, []api.Event{load(0x2800, 8)}, func(c *api.CPU, d []byte, next uint64) {
		c.IP = number(d[0x800:], 8)
		c.R[4] += 8
	})
	add(api.Insn{Do: api.DoJmp, Width: 8, B: imm(-0x20)}, nil, func(c *api.CPU, d []byte, next uint64) { c.IP = next - 0x20 })
	add(api.Insn{Do: api.DoJmp, Width: 8, A: reg(9)}, nil, func(c *api.CPU, d []byte, next uint64) { c.IP = c.R[9] })
	add(api.Insn{Do: api.DoJmp, Width: 8, A: mem(3, 0)}, []api.Event{load(0x2100, 8)}, func(c *api.CPU, d []byte, next uint64) { c.IP = number(d[0x100:], 8) })
	rip := api.Operand{Kind: 2, Base: -1, Index: -1, Scale: 1, Disp: 0x1000, Rip: true}
	add(api.Insn{Do: api.DoMov, Width: 8, A: reg(0), B: rip}, []api.Event{load(0x2007, 8)}, func(c *api.CPU, d []byte, next uint64) {
		c.R[0], c.IP = number(d[7:], 8), next
	})
	for cc := range uint8(16) {
		add(api.Insn{Do: api.DoJcc, Cond: cc, Width: 8, B: imm(-7)}, nil, func(c *api.CPU, d []byte, next uint64) {
			if c.IP = next; cpu.Cond(c.F, cc) {
				c.IP -= 7
			}
		})
	}
	checkAll(t, list, true)
}

// checkAll holds what is told against Step and Do; ways: the change tells IP, too.
func checkAll(t *testing.T, list []told, ways bool) {
	t.Helper()
	rng := rand.New(rand.NewSource(22))
	for i, c := range list {
		for range 20 {
			s := machine(rng, c.x)
			b, _ := encode.Encode(c.x)
			want := Own(s)
			if !ways {
				want.C.IP = 0x1000 + uint64(len(b))
			}
			c.change(&want.C, want.Pages[1].Data)
			was := Own(s)
			g, l := Step(s)
			events := append([]api.Event{{Kind: api.EvFetch, A: 0x1000}}, c.events...)
			if !Same(g, want) || !reflect.DeepEqual(l, events) {
				t.Fatalf("%d: %+v\n%v\n%v\n%v\n%v", i, c.x, l, events, g.C, want.C)
			}
			c.x.Len = len(b)
			if g, l := Do(s, c.x); !Same(g, want) || len(l) != len(c.events) || len(l) > 0 && !reflect.DeepEqual(l, c.events) {
				t.Fatalf("%d: Do %+v %v", i, c.x, l)
			}
			if !Same(s, was) {
				t.Fatal("what was handed in is changed")
			}
		}
	}
}

func TestDivisions(t *testing.T) {
	rng := rand.New(rand.NewSource(23))
	for range 500 {
		x := api.Insn{Do: api.DoDiv, Width: []int{4, 8}[rng.Intn(2)], A: []api.Operand{reg(9), reg(0), reg(2), mem(3, 0)}[rng.Intn(4)]}
		s := machine(rng, x)
		s.C.R[2] >>= uint(rng.Intn(64))
		if rng.Intn(5) == 0 {
			s.C.R[9] = 0
		}
		d := cpu.Get(s.C, x.A.R, x.Width)
		events := []api.Event{{Kind: api.EvFetch, A: 0x1000}}
		if x.A.Kind == api.OpMem {
			d = number(s.Pages[1].Data[0x100:], x.Width)
			events = append(events, load(0x2100, x.Width))
		}
		low, high := cpu.Get(s.C, 0, x.Width), cpu.Get(s.C, 2, x.Width)
		events = append(events, api.Event{Kind: api.EvDiv, A: low, B: high, C: d})
		want := Own(s)
		q, rest, ok := alu.Div(x.Width, high, low, d)
		if ok {
			want.C.R[0], want.C.R[2] = q, rest
			b, _ := encode.Encode(x)
			want.C.IP += uint64(len(b))
		} else {
			want.Over = true
			events = append(events, api.Event{Kind: api.EvFault, N: api.FaultDiv, A: 0x1000})
		}
		if g, l := Step(s); !Same(g, want) || !reflect.DeepEqual(l, events) {
			t.Fatal(x, l, events)
		}
	}
}

func TestFaults(t *testing.T) {
	rng := rand.New(rand.NewSource(24))
	for i, c := range []struct {
		x      api.Insn
		rsp    uint64
		events []api.Event
		kind   int
		at     uint64
	}{
		{api.Insn{Do: api.DoMov, Width: 8, A: reg(0), B: mem(-1, 0x5000)}, 0, []api.Event{load(0x5000, 8)}, api.FaultRead, 0x5000},
		{api.Insn{Do: api.DoMov, Width: 8, A: reg(0), B: mem(-1, 0x3ff9)}, 0, []api.Event{load(0x3ff9, 8)}, api.FaultRead, 0x3ff9},
		{api.Insn{Do: api.DoMov, Width: 8, A: mem(6, 0), B: reg(0)}, 0, []api.Event{store(0x3100, 8)}, api.FaultWrite, 0x3100},
		{api.Insn{Do: api.DoMov, Width: 8, A: mem(-1, 0x2ffc), B: reg(0)}, 0, []api.Event{store(0x2ffc, 8)}, api.FaultWrite, 0x2ffc},
		{api.Insn{Do: api.DoAdd, Width: 4, A: mem(6, 0), B: reg(0)}, 0, []api.Event{load(0x3100, 4), store(0x3100, 4)}, api.FaultWrite, 0x3100},
		{api.Insn{Do: api.DoPush, Width: 8, A: reg(0)}, 0x2004, []api.Event{store(0x1ffc, 8)}, api.FaultWrite, 0x1ffc},
		{api.Insn{Do: api.DoCall, Width: 8, B: imm(1)}, 3, []api.Event{store(^uint64(4), 8)}, api.FaultWrite, ^uint64(4)},
		{api.Insn{Do: api.DoPop, Width: 8, A: reg(0)}, 0x4000, []api.Event{load(0x4000, 8)}, api.FaultRead, 0x4000},
		{api.Insn{Do: api.DoRet, Width: 8}, 0x4000, []api.Event{load(0x4000, 8)}, api.FaultRead, 0x4000},
		{api.Insn{Do: api.DoMovdqu, Width: 16, A: encode.Vec(0), B: mem(-1, 0x3ff1)}, 0, []api.Event{load(0x3ff1, 16)}, api.FaultRead, 0x3ff1},
		{api.Insn{Do: api.DoMovdqu, Width: 16, A: mem(-1, 0x1000), B: encode.Vec(0)}, 0, []api.Event{store(0x1000, 16)}, api.FaultWrite, 0x1000},
		{api.Insn{Do: api.DoCmov, Width: 8, Cond: 0, A: reg(0), B: mem(-1, 0x5000)}, 0, []api.Event{load(0x5000, 8)}, api.FaultRead, 0x5000},
		{api.Insn{Do: api.DoDiv, Width: 8, A: mem(-1, 0x5000)}, 0, []api.Event{load(0x5000, 8)}, api.FaultRead, 0x5000},
	} {
		s := machine(rng, c.x)
		s.C.R[4] = c.rsp
		want := Own(s)
		want.Over = true
		events := append([]api.Event{{Kind: api.EvFetch, A: 0x1000}}, c.events...)
		events = append(events, api.Event{Kind: api.EvFault, N: c.kind, A: c.at})
		if g, l := Step(s); !Same(g, want) || !reflect.DeepEqual(l, events) {
			t.Error(i, l, events)
		}
	}
	s := machine(rng)
	for _, x := range []api.Insn{{}, {Do: api.DoMov, Width: 8, A: mem(0, 0), B: mem(0, 0)}, {Do: 99, Width: 8}} {
		g, l := Do(s, x)
		if !g.Over || g.C != s.C || !memory.Same(g.Pages, s.Pages) || !reflect.DeepEqual(l, []api.Event{{Kind: api.EvFault, N: api.FaultCode, A: 0x1000}}) {
			t.Error(x, l)
		}
	}
}

// some makes an instruction that may be.
func some(rng *rand.Rand) api.Insn {
	for {
		any := func() api.Operand {
			switch rng.Intn(8) {
			case 0:
				return api.Operand{}
			case 1:
				return imm(int64(rng.Intn(300) - 100))
			case 2:
				return encode.Vec(rng.Intn(16))
			case 3:
				return mem([]int{3, 6}[rng.Intn(2)], int64(rng.Intn(64)))
			}
			return reg(rng.Intn(16))
		}
		x := api.Insn{Do: uint8(rng.Intn(int(api.Deeds))), Width: []int{1, 4, 8, 8, 16}[rng.Intn(5)], A: any(), B: any()}
		if x.Do == api.DoJcc || x.Do == api.DoCmov || x.Do == api.DoSet {
			x.Cond = uint8(rng.Intn(16))
		}
		if encode.Right(x) {
			return x
		}
	}
}

// TestP16_4 changes what an instruction, by its facts, does not hang on: its events stay, and so does all that it writes.
func TestP16_4(t *testing.T) {
	rng := rand.New(rand.NewSource(25))
	for range 20000 {
		x := some(rng)
		s := machine(rng, x)
		f := facts.Of(x)
		o := Own(s)
		has := func(l []int, r int) bool {
			for _, k := range l {
				if k == r {
					return true
				}
			}
			return false
		}
		for r := range 32 {
			if has(f.Reads, r) {
				continue
			}
			if r < 16 {
				o.C.R[r] = rng.Uint64()
			} else {
				rng.Read(o.C.X[r-16][:])
			}
		}
		flags := func(f api.Flags) [5]bool { return [5]bool{f.C, f.Z, f.S, f.O, f.P} }
		for i, to := range []*bool{&o.C.F.C, &o.C.F.Z, &o.C.F.S, &o.C.F.O, &o.C.F.P} {
			if f.In>>i&1 == 0 {
				*to = rng.Intn(2) == 0
			}
		}
		before, other := Own(s), Own(o)
		g, l := Step(s)
		h, k := Step(o)
		if !reflect.DeepEqual(l, k) || g.C.IP != h.C.IP || g.Over != h.Over || !memory.Same(g.Pages, h.Pages) {
			t.Fatal(x, l, k)
		}
		if g.Over {
			continue
		}
		for r := range 16 {
			if w := has(f.Writes, r); w && g.C.R[r] != h.C.R[r] || !w && (g.C.R[r] != before.C.R[r] || h.C.R[r] != other.C.R[r]) {
				t.Fatal(x, "register", r)
			}
			if w := has(f.Writes, r+16); w && g.C.X[r] != h.C.X[r] || !w && g.C.X[r] != before.C.X[r] {
				t.Fatal(x, "vector", r)
			}
		}
		for i := range 5 {
			out := f.Out>>i&1 == 1
			a, b := flags(g.C.F)[i], flags(h.C.F)[i]
			if out && a != b || !out && (a != flags(before.C.F)[i] || b != flags(other.C.F)[i]) {
				t.Fatal(x, "flag", i)
			}
		}
	}
}
