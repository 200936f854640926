package model

import (
	"math/rand"
	"reflect"
	"slices"
	"testing"

	"sundial/api"
	"sundial/contract"
	"sundial/decode"
	"sundial/encode"
	"sundial/image"
	"sundial/operand"
	"sundial/run"
	"sundial/verdict"
)

func reg(r int) api.Operand { return operand.Reg(r) }

func imm(n int64) api.Operand { return encode.Imm(n) }

func mem(base int, disp int64) api.Operand { return operand.Mem(base, disp) }

func mov(a, b api.Operand) api.Insn { return api.Insn{Do: api.DoMov, Width: 8, A: a, B: b} }

var (
	nop  = api.Insn{Do: api.DoNop, Width: 8}
	ret  = api.Insn{Do: api.DoRet, Width: 8}
	full = api.Limits{Steps: api.MaxBudget, Tries: 40, Fuel: 500}
)

func object(t *testing.T, l ...api.Insn) []byte {
	t.Helper()
	b, e := Object(l, []byte{1, 2, 3})
	if e != api.OK {
		t.Fatal(l, e)
	}
	return b
}

func TestStraight(t *testing.T) {
	for i, c := range []struct {
		x    api.Insn
		want bool
	}{
		{nop, true}, {mov(reg(0), reg(1)), true}, {mov(reg(4), reg(1)), false}, {mov(reg(0), reg(4)), true}, {mov(reg(0), mem(1, 0)), false}, {mov(mem(1, 0), reg(0)), false}, {api.Insn{Do: api.DoLea, Width: 8, A: reg(0), B: mem(1, 0)}, true}, {api.Insn{Do: api.DoLea, Width: 8, A: reg(4), B: mem(1, 0)}, false},
		{ret, false}, {api.Insn{Do: api.DoJmp, Width: 8, B: imm(0)}, false}, {api.Insn{Do: api.DoCall, Width: 8, B: imm(0)}, false}, {api.Insn{Do: api.DoJcc, Width: 8, B: imm(0)}, false}, {api.Insn{Do: api.DoDiv, Width: 8, A: reg(1)}, false}, {api.Insn{Do: api.DoPush, Width: 8, A: reg(1)}, false}, {api.Insn{Do: api.DoPop, Width: 8, A: reg(1)}, false},
		{api.Insn{Do: api.DoMul, Width: 8, A: reg(1)}, true}, {api.Insn{Do: api.DoPxor, Width: 16, A: encode.Vec(1), B: encode.Vec(2)}, true}, {api.Insn{Do: api.DoPxor, Width: 16, A: encode.Vec(1), B: mem(0, 0)}, false}, {api.Insn{Do: api.DoCmp, Width: 8, A: reg(4), B: reg(4)}, true}, {api.Insn{}, false}, {api.Insn{Do: api.DoMov, Width: 3, A: reg(0), B: reg(1)}, false},
	} {
		if Straight([]api.Insn{c.x}) != c.want || Straight([]api.Insn{nop, c.x, nop}) != c.want {
			t.Error(i)
		}
	}
	if !Straight(nil) {
		t.Error("nothing")
	}
}

func TestLoop(t *testing.T) {
	row := []api.Insn{nop, mov(reg(0), reg(1))}
	l, e := Loop(10, row)
	want := []api.Insn{{Do: api.DoMov, Width: 4, A: reg(1), B: imm(10)}, row[0], row[1], {Do: api.DoDec, Width: 4, A: reg(1)}, {Do: api.DoJcc, Cond: 5, Width: 8, B: imm(-12)}, ret}
	if e != api.OK || !slices.Equal(l, want) {
		t.Error(l, e)
	}
	for i, c := range []struct {
		n int
		l []api.Insn
	}{{0, nil}, {-1, nil}, {1 << 31, nil}, {1 << 62, nil}, {1, []api.Insn{ret}}, {1, []api.Insn{mov(reg(1), reg(0))}}, {1, []api.Insn{{Do: api.DoInc, Width: 4, A: reg(1)}}}, {1, slices.Repeat([]api.Insn{nop}, api.MaxFound-3)}} {
		if l, e := Loop(c.n, c.l); e != api.ErrArg || l != nil {
			t.Error(i, e)
		}
	}
	for i, c := range []struct {
		n int
		l []api.Insn
	}{{1, nil}, {1<<31 - 1, nil}, {3, slices.Repeat([]api.Insn{nop}, api.MaxFound-4)}} {
		l, e := Loop(c.n, c.l)
		if e != api.OK || len(l) != len(c.l)+4 {
			t.Error(i, e)
		}
		b, _ := Object(l, nil)
		p, _ := image.Load(b)
		s := api.State{Pages: p.Pages, C: api.CPU{IP: 0x1000}}
		s.C.R[4] = 0x3800
		_, trace := run.Run(s, api.MaxFuel)
		if end, ok := run.End(trace); c.n < 9 && (!ok || end.Kind != api.EvEnd || len(run.Fetches(trace)) != c.n*(len(c.l)+2)+2) {
			t.Error("how often it goes round", i, end, len(run.Fetches(trace)))
		}
	}
}

func TestPlain(t *testing.T) {
	c := func(text string) api.Contract {
		c, e := contract.Parse(text)
		if e != api.OK {
			t.Fatal(text)
		}
		return c
	}
	for text, want := range map[string]bool{"": false, "rsp 5": true, "rsp secret": false, "rsp 5\nrax 5": false, "rsp 5\nrax secret\nxmm3 5\nflags secret\nsecret 5 5\nopen 90 9": true, "rsp 5\nr15 0": false, "rax 5": false} {
		if Plain(c(text)) != want {
			t.Error(text)
		}
	}
	wrong := c("rsp 5")
	if wrong.Flags = 7; Plain(wrong) {
		t.Error("a contract that may not be")
	}
}

func TestObject(t *testing.T) {
	b := object(t, nop, ret)
	p, e := image.Load(b)
	if e != api.OK || len(p.Pages) != 3 || !reflect.DeepEqual(p.Symbols, []api.Symbol{{Name: "f", At: 4096, Size: 2, Func: true}}) {
		t.Fatal(p.Symbols, e)
	}
	for i, c := range []struct {
		at   uint64
		perm uint8
		head string
	}{{4096, 5, "\x90\xc3"}, {8192, 6, "\x01\x02\x03"}, {12288, 6, ""}} {
		x := p.Pages[i]
		if x.At != c.at || x.Perm != c.perm || string(x.Data[:len(c.head)]) != c.head || slices.Max(append(x.Data[len(c.head):], 0)) != 0 {
			t.Error(i, x.At, x.Perm)
		}
	}
	many := slices.Repeat([]api.Insn{nop}, 4096)
	if _, e := Object(many, make([]byte, 4096)); e != api.OK {
		t.Error("as many as there may be", e)
	}
	for i, c := range []struct {
		l    []api.Insn
		data []byte
	}{{append(many, nop), nil}, {nil, make([]byte, 4097)}, {[]api.Insn{{}}, nil}} {
		if b, e := Object(c.l, c.data); e != api.ErrArg || b != nil {
			t.Error(i, e)
		}
	}
	if b, e := Object(nil, nil); e != api.OK || len(b) != 4*4096 {
		t.Error(len(b), e)
	}
}

func TestP30_1(t *testing.T) {
	const text = "rsp 0x3800\nrbx secret\n"
	load := object(t, mov(reg(0), mem(3, 0)), ret)
	safe := object(t, nop, ret)
	x, _ := verdict.Read(load, "f", text)
	judge := func(b []byte, name string, v api.Verdict) bool {
		return Judge(b, name, text, v, full, 1, 2, 3, 100)
	}
	found := verdict.Analyse(load, "f", text, full)
	if found.Kind != api.VdUnsafe {
		t.Fatal(found.Kind)
	}
	with := func(v api.Verdict, change func(*api.Verdict)) api.Verdict { change(&v); return v }
	unknown := api.Verdict{Kind: api.VdUnknown, Why: api.WhyLong}
	leak := []api.Leak{{At: 1, Kind: 1}}
	some := contract.Make(x.C, x.Pages, x.At, 1, 2)
	for i, c := range []struct {
		b    []byte
		name string
		v    api.Verdict
		want bool
	}{
		{safe, "f", api.Verdict{Kind: api.VdSafe}, true}, {load, "f", api.Verdict{Kind: api.VdSafe}, false}, {safe, "g", api.Verdict{Kind: api.VdSafe}, false}, {safe, "f", api.Verdict{Kind: api.VdSafe, E: 1}, false}, {safe, "f", api.Verdict{Kind: api.VdSafe, Why: 1}, false}, {safe, "f", api.Verdict{Kind: api.VdSafe, Leaks: leak}, false}, {safe, "f", api.Verdict{Kind: api.VdSafe, At: 1}, false}, {safe, "f", api.Verdict{Kind: api.VdSafe, S: some}, false}, {safe, "f", api.Verdict{Kind: api.VdSafe, T: api.State{Over: true}}, false}, {safe, "f", api.Verdict{Kind: api.VdSafe, S: api.State{C: api.CPU{IP: 1}}}, false}, {safe, "f", api.Verdict{Kind: api.VdSafe, T: api.State{Pages: some.Pages}}, false},
		{safe, "g", api.Verdict{Kind: api.VdReject, E: api.ErrName}, true}, {safe, "g", api.Verdict{Kind: api.VdReject, E: api.ErrArg}, false}, {safe, "f", api.Verdict{Kind: api.VdReject}, false}, {safe, "f", api.Verdict{Kind: api.VdReject, E: api.ErrName}, false}, {nil, "f", api.Verdict{Kind: api.VdReject, E: api.ErrShort}, true}, {nil, "f", api.Verdict{Kind: api.VdReject, E: api.ErrShort, At: 1}, false}, {nil, "f", api.Verdict{Kind: api.VdReject, E: api.ErrShort, Why: 1}, false}, {nil, "f", api.Verdict{Kind: api.VdReject, E: api.ErrShort, S: some}, false},
		{load, "f", found, true}, {load, "g", found, false}, {safe, "f", found, false}, {load, "f", with(found, func(v *api.Verdict) { v.At++ }), false}, {load, "f", with(found, func(v *api.Verdict) { v.At = -1 }), false}, {load, "f", with(found, func(v *api.Verdict) { v.E = 2 }), false}, {load, "f", with(found, func(v *api.Verdict) { v.Why = 2 }), false}, {load, "f", with(found, func(v *api.Verdict) { v.Leaks = leak }), false},
		{load, "f", with(found, func(v *api.Verdict) { v.S.C.IP, v.T.C.IP = 0x1003, 0x1003 }), false}, {load, "f", with(found, func(v *api.Verdict) { v.S.C.R[4] = 0 }), false}, {load, "f", with(found, func(v *api.Verdict) { v.T = v.S }), false}, {load, "f", with(found, func(v *api.Verdict) { v.T, v.At = v.S, -1 }), false}, {load, "f", with(found, func(v *api.Verdict) { v.S, v.T = v.T, v.S }), true},
		{safe, "f", unknown, true}, {load, "f", api.Verdict{Kind: api.VdUnknown, Leaks: leak}, true}, {load, "f", api.Verdict{Kind: api.VdUnknown}, false}, {load, "g", unknown, false}, {safe, "f", with(unknown, func(v *api.Verdict) { v.E = 1 }), false}, {safe, "f", with(unknown, func(v *api.Verdict) { v.At = 1 }), false}, {safe, "f", with(unknown, func(v *api.Verdict) { v.S = some }), false},
		{safe, "f", api.Verdict{}, false}, {safe, "f", api.Verdict{Kind: 5}, false}, {safe, "f", api.Verdict{Kind: 255, Why: 1}, false},
	} {
		if judge(c.b, c.name, c.v) != c.want {
			t.Error(i)
		}
	}
	if Judge(load, "f", text, found, api.Limits{Fuel: 0}, 1, 2, 3, 100) {
		t.Error("the limits' fuel")
	}
	if !Judge(load, "f", text, api.Verdict{Kind: api.VdSafe}, full, 1, 2, 3, 0) || !Judge(load, "f", text, api.Verdict{Kind: api.VdSafe}, full, 1, 2, 2, 100) {
		t.Error("the seeds, and the fuel")
	}
}

// straight makes a straight row of instructions.
func straight(rng *rand.Rand, most int) []api.Insn {
	var l []api.Insn
	for many := rng.Intn(most + 1); len(l) < many; {
		any := func() api.Operand {
			switch rng.Intn(7) {
			case 0:
				return api.Operand{}
			case 1:
				return imm(int64(rng.Intn(300) - 100))
			case 2:
				return encode.Vec(rng.Intn(16))
			case 3:
				return api.Operand{Kind: 2, Base: rng.Intn(17) - 1, Index: []int{-1, 5}[rng.Intn(2)], Scale: 1, Disp: 99}
			}
			return reg(rng.Intn(16))
		}
		x := api.Insn{Do: uint8(rng.Intn(int(api.Deeds))), Width: []int{1, 4, 8, 16}[rng.Intn(4)], A: any(), B: any()}
		if x.Do == api.DoCmov || x.Do == api.DoSet {
			x.Cond = uint8(rng.Intn(16))
		}
		if Straight([]api.Insn{x}) {
			l = append(l, x)
		}
	}
	return l
}

// plain makes a plain contract's text, its stack in the last page.
func plain(rng *rand.Rand) string {
	c := api.Contract{Flags: uint8(rng.Intn(2))}
	for i := range 16 {
		c.R[i].Kind, c.X[i].Kind = uint8(rng.Intn(2)), uint8(rng.Intn(2))
	}
	c.R[4] = api.Part{Kind: api.PartFixed, N: uint64(12288 + rng.Intn(16376-12288+1))}
	c.Secret = []api.Range{{Low: 8192, High: 8192 + uint64(rng.Intn(4096))}}
	if !Plain(c) {
		panic("not plain")
	}
	s, _ := contract.Text(c)
	return s
}

func TestP30_3Safe(t *testing.T) {
	rng := rand.New(rand.NewSource(50))
	l := api.Limits{Steps: api.MaxBudget, Tries: 2, Fuel: 300}
	for range 150 {
		rows := append(straight(rng, 40), ret)
		var loop []api.Insn
		for e := api.ErrArg; e != api.OK; {
			loop, e = Loop(rng.Intn(1<<31-1)+1, straight(rng, 20))
		}
		for _, code := range [][]api.Insn{rows, loop} {
			b, text := object(t, code...), plain(rng)
			v := verdict.Analyse(b, "f", text, l)
			if v.Kind != api.VdSafe || !Judge(b, "f", text, v, l, rng.Uint64(), rng.Uint64(), rng.Uint64(), 300) {
				t.Fatal(text, code, v.Kind, v.Why, v.Leaks)
			}
		}
	}
}

func TestP30_3Judged(t *testing.T) {
	rng := rand.New(rand.NewSource(51))
	kinds := map[uint8]int{}
	for range 400 {
		code := straight(rng, 6)
		for range rng.Intn(3) {
			r := reg([]int{0, 3, 6}[rng.Intn(3)])
			more := []api.Insn{mov(reg(0), mem(3, 0)), mov(mem(-1, 0x2000), r), mov(r, mem(-1, 0x2000)), {Do: api.DoDiv, Width: 8, A: r}, {Do: api.DoPop, Width: 8, A: r}, {Do: api.DoJmp, Width: 8, A: r}, {Do: api.DoJcc, Cond: uint8(rng.Intn(16)), Width: 8, B: imm(int64(rng.Intn(20) - 4))}, {Do: api.DoCall, Width: 8, B: imm(0)}}
			code = append(code, more[rng.Intn(len(more))])
		}
		b, text := object(t, append(code, ret)...), plain(rng)
		if rng.Intn(20) == 0 {
			text += "x"
		}
		l := api.Limits{Steps: rng.Intn(200), Tries: rng.Intn(8), Fuel: rng.Intn(60)}
		v := verdict.Analyse(b, "f", text, l)
		kinds[v.Kind]++
		for range 3 {
			if !Judge(b, "f", text, v, l, rng.Uint64(), rng.Uint64(), rng.Uint64(), rng.Intn(200)) {
				t.Fatal(code, text, l, v.Kind, v.At, v.Why, v.Leaks)
			}
		}
		if w := verdict.Analyse(b, "f", text, l); !verdict.Same(v, w) {
			t.Fatal("not the same twice")
		}
	}
	for k := api.VdReject; k <= api.VdUnknown; k++ {
		if kinds[k] < 5 {
			t.Error("too few", k, kinds[k])
		}
	}
}

func TestLoopDecodes(t *testing.T) {
	l, _ := Loop(7, []api.Insn{nop, nop})
	b, _ := encode.Code(l...)
	d, e := decode.All(b)
	if e != api.OK || len(d) != len(l) {
		t.Error(d, e)
	}
}
