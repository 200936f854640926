package run

import (
	"math/rand"
	"reflect"
	"slices"
	"testing"

	"sundial/api"
	"sundial/encode"
	"sundial/operand"
	"sundial/step"
)

func machine(code ...api.Insn) api.State {
	b, e := encode.Code(code...)
	if e != api.OK {
		panic("code")
	}
	var s api.State
	for i, perm := range []uint8{5, 6} {
		s.Pages = append(s.Pages, api.Page{At: uint64(i+1) * 0x1000, Perm: perm, Data: make([]byte, 4096)})
	}
	copy(s.Pages[0].Data, b)
	s.C.IP, s.C.R[4] = 0x1000, 0x2800
	return s
}

// counting counts RCX down from n, storing it, and returns.
func counting(n int64) api.State {
	return machine(
		api.Insn{Do: api.DoMov, Width: 4, A: operand.Reg(1), B: encode.Imm(n)},           // 1000, 6 bytes
		api.Insn{Do: api.DoMov, Width: 8, A: operand.Mem(-1, 0x2000), B: operand.Reg(1)}, // 1006, 8 bytes
		api.Insn{Do: api.DoDec, Width: 4, A: operand.Reg(1)},                             // 100e, 2 bytes
		api.Insn{Do: api.DoJcc, Cond: api.CondZ + 1, Width: 8, B: encode.Imm(-16)},       // 1010, 6 bytes
		api.Insn{Do: api.DoRet, Width: 8},                                                // 1016
	)
}

// slow runs by steps alone.
func slow(s api.State, at uint64, until bool, fuel int) (api.State, []api.Event) {
	var l []api.Event
	s = step.Own(s)
	for range fuel {
		if until && s.C.IP == at {
			break
		}
		var more []api.Event
		s, more = step.Step(s)
		l = append(l, more...)
	}
	return s, l
}

func TestP17_1(t *testing.T) {
	s := counting(3)
	s.Pages[0].Data[0] = 0xb9 // mov ecx, imm by its short opcode is no instruction here
	if g, l := Run(s, 9); !g.Over || len(l) != 1 || l[0].N != api.FaultCode {
		t.Error(l)
	}
	s = counting(3)
	was := step.Own(s)
	for fuel := range 20 {
		g, l := Run(s, fuel)
		h, k := slow(s, 0, false, fuel)
		if !step.Same(g, h) || !slices.Equal(l, k) || !step.Same(s, was) {
			t.Fatal(fuel, l, k)
		}
		for _, at := range []uint64{0x1000, 0x1006, 0x1010, 0x1016, 0, 0x5000} {
			g, l := Until(s, at, fuel)
			h, k := slow(s, at, true, fuel)
			if !step.Same(g, h) || !slices.Equal(l, k) {
				t.Fatal(at, fuel, l, k)
			}
		}
	}
	for _, fuel := range []int{0, -1, -1 << 63} {
		if g, l := Run(s, fuel); !step.Same(g, s) || len(l) != 0 {
			t.Error("no fuel", fuel)
		}
	}
	g, l := Run(s, 1<<62)
	if e, ok := End(l); !ok || e.Kind != api.EvEnd || !g.Over {
		t.Error("the end", e, ok)
	}
	if h, l := Run(g, 5); !step.Same(g, h) || len(l) != 0 {
		t.Error("goes on behind its end")
	}
	loop := machine(api.Insn{Do: api.DoJmp, Width: 8, B: encode.Imm(-5)})
	if g, l := Run(loop, 1<<62); g.Over || len(l) != api.MaxFuel {
		t.Error("MaxFuel", len(l))
	}
	if g, l := Run(loop, api.MaxFuel-1); g.Over || len(l) != api.MaxFuel-1 {
		t.Error("below MaxFuel", len(l))
	}
	g.Pages[0].Data[0]++
	if !step.Same(s, was) {
		t.Error("shared")
	}
}

func TestP17_2(t *testing.T) {
	e := func(k uint8, a uint64) api.Event { return api.Event{Kind: k, A: a} }
	a := []api.Event{e(1, 5), e(2, 6), e(1, 7)}
	for i, c := range []struct {
		a, b []api.Event
		want int
	}{{nil, nil, -1}, {nil, []api.Event{}, -1}, {a, slices.Clone(a), -1}, {a, a[:2], 2}, {a[:1], a, 1}, {a, nil, 0}, {nil, a, 0}, {a, []api.Event{e(1, 5), e(3, 6)}, 1}, {a, []api.Event{e(1, 6)}, 0}} {
		if got := Differ(c.a, c.b); got != c.want {
			t.Error(i, got)
		}
	}
	for i, change := range []func(*api.Event){func(e *api.Event) { e.Kind++ }, func(e *api.Event) { e.N++ }, func(e *api.Event) { e.A++ }, func(e *api.Event) { e.B++ }, func(e *api.Event) { e.C++ }} {
		b := slices.Clone(a)
		if change(&b[2]); Differ(a, b) != 2 {
			t.Error(i)
		}
	}
	if l := Fetches(a); !slices.Equal(l, []uint64{5, 7}) || len(Fetches(nil)) != 0 {
		t.Error("Fetches", l)
	}
	for k := range uint8(8) {
		last := e(k, 9)
		got, ok := End(append(slices.Clone(a), last))
		if want := k == api.EvFault || k == api.EvEnd; ok != want || ok && got != last || !ok && got != (api.Event{}) {
			t.Error("End", k, got, ok)
		}
	}
	if _, ok := End(nil); ok {
		t.Error("End of nothing")
	}
	if _, ok := End([]api.Event{e(api.EvEnd, 0), e(1, 1)}); ok {
		t.Error("End is not the last one")
	}
}

func TestP17_3(t *testing.T) {
	s := counting(5)
	for first := range 22 {
		for second := range 22 {
			g, l := Run(s, first)
			h, k := Run(g, second)
			all, m := Run(s, first+second)
			if !step.Same(h, all) || !slices.Equal(append(l, k...), m) {
				t.Fatal(first, second)
			}
		}
		if g, l := Run(s, first); !g.Over && len(Fetches(l)) != first {
			t.Fatal("fetches", first)
		}
	}
}

// TestOdd runs machines whose pages may not be: code that writes itself, pages that cross.
func TestOdd(t *testing.T) {
	rng := rand.New(rand.NewSource(26))
	for range 3000 {
		var s api.State
		for range rng.Intn(4) {
			b := make([]byte, rng.Intn(60))
			rng.Read(b)
			for i := range b {
				if rng.Intn(3) == 0 {
					b[i] = []byte{0x48, 0x89, 0x01, 0x50, 0x58, 0x88, 0xeb, 0x75, 0x90}[rng.Intn(9)]
				}
			}
			s.Pages = append(s.Pages, api.Page{At: uint64(rng.Intn(100) - 20), Perm: uint8(rng.Intn(9)), Data: b})
		}
		for i := range s.C.R {
			s.C.R[i] = uint64(rng.Intn(100) - 20)
		}
		s.C.IP = uint64(rng.Intn(60))
		g, l := Run(s, 40)
		h, k := slow(s, 0, false, 40)
		if !step.Same(g, h) || !reflect.DeepEqual(l, k) {
			t.Fatal(l, k)
		}
	}
}
