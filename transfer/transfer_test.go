package transfer

import (
	"math/rand"
	"reflect"
	"slices"
	"testing"

	"sundial/api"
	"sundial/bits"
	"sundial/cpu"
	"sundial/encode"
	"sundial/interp"
	"sundial/lift"
	"sundial/operand"
	"sundial/step"
	"sundial/strided"
)

func num(n uint64) api.Val { return api.Val{Is: true, N: n} }

func cell(c int) api.Val { return api.Val{Cell: c} }

func set(step, low, high uint64) api.Set { return api.Set{Step: step, Low: low, High: high} }

func deed(op uint8, w, d int, takes ...api.Val) api.Deed {
	takes = append(takes, num(0), num(0), num(0))
	return api.Deed{Op: op, W: w, D: d, A: takes[0], B: takes[1], C: takes[2]}
}

// pages are one that can be written, at 0x2000, and one that can't, at 0x3000, whose bytes count up.
func pages() []api.Page {
	var l []api.Page
	for i, perm := range []uint8{6, 4} {
		p := api.Page{At: uint64(i+2) * 0x1000, Perm: perm, Data: make([]byte, 4096)}
		for k := range p.Data {
			p.Data[k] = byte(k)
		}
		l = append(l, p)
	}
	return l
}

func TestP24_1(t *testing.T) {
	top := Top()
	for i, v := range top.V {
		if want := (map[bool]api.Set{true: strided.All(8), false: set(1, 0, 1)})[i < 16]; v != want || top.D[i] {
			t.Error("Top", i)
		}
	}
	if len(top.Dirt)+len(top.Slots) != 0 || top.X != [16]bool{} {
		t.Error("Top")
	}
	good := func() (api.Abs, api.State, api.State) {
		a := Top()
		a.V[0], a.D[1], a.X[2] = set(4, 0, 40), true, true
		a.Dirt = []api.Range{{Low: 0x2010, High: 0x2011}}
		a.Slots = []api.Slot{{At: 0x2100, To: 0x0706050403020100, Ok: true}, {At: 9, To: 9}}
		s, t := api.State{Pages: pages()}, api.State{Pages: pages()}
		s.C.R[0], t.C.R[0] = 8, 8
		s.C.R[1], s.C.X[2][5] = 5, 6
		t.Pages[0].Data[0x10]++
		return a, s, t
	}
	if a, s, u := good(); !Together(a, s, u) || !Together(a, u, s) {
		t.Error("together")
	}
	for i, change := range []func(a *api.Abs, s, t *api.State){
		func(a *api.Abs, s, t *api.State) { s.Over = true }, func(a *api.Abs, s, t *api.State) { t.Over = true }, func(a *api.Abs, s, t *api.State) { t.C.IP = 1 },
		func(a *api.Abs, s, t *api.State) { s.C.R[0], t.C.R[0] = 9, 9 }, func(a *api.Abs, s, t *api.State) { s.C.R[0] = 12 }, func(a *api.Abs, s, t *api.State) { a.V[0] = strided.None() },
		func(a *api.Abs, s, t *api.State) { a.V[1] = strided.One(5) }, func(a *api.Abs, s, t *api.State) { a.V[1] = strided.One(0) },
		func(a *api.Abs, s, t *api.State) { a.Slots[0] = api.Slot{At: 0x2010, To: 0x1716151413121110, Ok: true} }, func(a *api.Abs, s, t *api.State) { a.Slots[0] = api.Slot{At: 0x2010, To: 0x1716151413121111, Ok: true} },
		func(a *api.Abs, s, t *api.State) { s.Pages[1].Data = s.Pages[1].Data[:9] }, func(a *api.Abs, s, t *api.State) { t.Pages[1].Data = t.Pages[1].Data[:9] },
		func(a *api.Abs, s, t *api.State) { a.D[1] = false }, func(a *api.Abs, s, t *api.State) { a.X[2] = false }, func(a *api.Abs, s, t *api.State) { s.C.F.Z = true },
		func(a *api.Abs, s, t *api.State) { s.C.F.Z, t.C.F.Z, a.V[api.CellZ] = true, true, strided.One(0) },
		func(a *api.Abs, s, t *api.State) { a.Dirt = nil }, func(a *api.Abs, s, t *api.State) { t.Pages[1].Data[4095]++ },
		func(a *api.Abs, s, t *api.State) { a.Slots[0].To++ }, func(a *api.Abs, s, t *api.State) { a.Slots[1].Ok = true }, func(a *api.Abs, s, t *api.State) { a.Slots[0].At = 0x3ffc },
		func(a *api.Abs, s, t *api.State) { a.Slots[0] = api.Slot{At: 0x200c, To: 0x13121110, Ok: true} },
		func(a *api.Abs, s, t *api.State) { s.Pages[0].Perm = 4 }, func(a *api.Abs, s, t *api.State) { s.Pages[0].At, t.Pages[0].At = 1, 1 }, func(a *api.Abs, s, t *api.State) { t.Pages = t.Pages[:1] },
		func(a *api.Abs, s, t *api.State) { s.Pages[0].Perm, t.Pages[0].Perm = 2, 2 },
	} {
		a, s, u := good()
		if change(&a, &s, &u); Together(a, s, u) {
			t.Error("not together", i)
		}
	}
	a, _, _ := good()
	for i, change := range []func(*api.Abs){
		func(a *api.Abs) { a.V[20] = strided.One(0) }, func(a *api.Abs) { a.D[20] = true }, func(a *api.Abs) { a.X[0] = true }, func(a *api.Abs) { a.Dirt = nil }, func(a *api.Abs) { a.Slots = a.Slots[:1] }, func(a *api.Abs) { a.Slots[1].Ok = true },
	} {
		b, _, _ := good()
		if !Same(a, b) {
			t.Error("Same")
		}
		if change(&b); Same(a, b) {
			t.Error("Same", i)
		}
	}
}

func TestSets(t *testing.T) {
	small, big, one, none := set(4, 0, 40), set(1, 0, 1<<40), strided.One(0x1ff), strided.None()
	for i, c := range []struct {
		op      uint8
		w       int
		a, b, c api.Set
		want    api.Set
	}{
		{api.IrCopy, 1, one, one, one, strided.One(0xff)}, {api.IrCopy, 1, one, small, small, strided.One(0xff)}, {api.IrSub, 1, one, small, strided.One(0), set(4, 215, 255)}, {api.IrCopy, 4, small, one, one, small}, {api.IrCopy, 4, big, one, one, strided.All(4)}, {api.IrCopy, 8, big, one, one, big}, {api.IrCopy, 8, none, one, one, none},
		{api.IrAdd, 4, small, strided.One(3), strided.One(0), set(4, 3, 43)}, {api.IrAdd, 4, small, strided.One(3), strided.One(1), strided.All(4)}, {api.IrAdd, 4, strided.One(4), strided.One(3), strided.One(1), strided.One(8)}, {api.IrAdd, 4, small, small, set(1, 0, 1), strided.All(4)},
		{api.IrSub, 4, small, strided.One(0), strided.One(0), small}, {api.IrSub, 4, small, strided.One(3), strided.One(0), strided.All(4)}, {api.IrSub, 4, strided.One(50), small, strided.One(0), set(4, 10, 50)},
		{api.IrAnd, 8, small, strided.One(7), strided.One(0), set(1, 0, 7)}, {api.IrAnd, 8, strided.One(7), small, strided.One(0), set(1, 0, 7)}, {api.IrAnd, 1, big, strided.One(0xf30), strided.One(0), set(16, 0, 0x30)}, {api.IrAnd, 8, small, small, strided.One(0), strided.All(8)},
		{api.IrAnd, 4, small, strided.One(63), strided.One(0), small}, {api.IrAnd, 8, strided.One(12), strided.One(10), small, strided.One(8)}, {api.IrAnd, 8, small, strided.One(0), strided.One(0), strided.One(0)},
		{api.IrShl, 8, small, strided.One(2), strided.One(0), set(16, 0, 160)}, {api.IrShl, 4, small, strided.One(31), strided.One(0), strided.All(4)}, {api.IrShl, 8, small, strided.One(64), strided.One(0), small}, {api.IrShl, 1, small, strided.One(0x101), strided.One(0), set(8, 0, 80)}, {api.IrShl, 8, strided.One(1), small, strided.One(0), strided.All(8)},
		{api.IrPick, 8, small, strided.One(2), small, set(2, 0, 40)}, {api.IrPick, 8, strided.One(3), strided.One(5), strided.One(1), strided.One(3)}, {api.IrPick, 1, one, small, small, set(1, 0, 0x1ff)},
		{api.IrAddC, 8, small, small, small, set(1, 0, 1)}, {api.IrSubC, 8, small, one, one, set(1, 0, 1)}, {api.IrAddO, 8, small, one, one, set(1, 0, 1)}, {api.IrSubO, 8, small, one, one, set(1, 0, 1)}, {api.IrOver, 8, small, one, one, set(1, 0, 1)}, {api.IrZero, 8, small, one, one, set(1, 0, 1)}, {api.IrSign, 8, small, one, one, set(1, 0, 1)}, {api.IrEven, 8, small, one, one, set(1, 0, 1)}, {api.IrIs, 8, small, one, one, set(1, 0, 1)},
		{api.IrZero, 8, strided.One(0), strided.One(0), strided.One(0), strided.One(1)}, {api.IrZero, 8, strided.One(0), strided.One(0), small, set(1, 0, 1)},
		{api.IrExt, 1, small, one, one, strided.All(8)}, {api.IrExt, 1, strided.One(0x80), one, one, strided.One(^uint64(0x7f))},
		{api.IrOr, 4, small, one, one, strided.All(4)}, {api.IrXor, 4, small, one, one, strided.All(4)}, {api.IrShr, 4, small, one, one, strided.All(4)}, {api.IrSar, 4, small, one, one, strided.All(4)}, {api.IrRol, 4, small, one, one, strided.All(4)}, {api.IrMul, 4, small, one, one, strided.All(4)}, {api.IrHigh, 4, small, one, one, strided.All(4)}, {api.IrQuot, 4, small, one, one, strided.All(4)}, {api.IrRest, 4, small, one, one, strided.All(4)},
	} {
		a := Top()
		a.V[0], a.V[1], a.V[2] = c.a, c.b, c.c
		got, went := Run(a, nil, deed(c.op, c.w, 3, cell(0), cell(1), cell(2)))
		if got.V[3] != c.want || !reflect.DeepEqual(went, api.Went{}) {
			t.Error(i, got.V[3], c.want)
		}
	}
}

func TestDiffers(t *testing.T) {
	takesB := []uint8{api.IrAdd, api.IrSub, api.IrAddC, api.IrSubC, api.IrAddO, api.IrSubO, api.IrAnd, api.IrOr, api.IrXor, api.IrShl, api.IrShr, api.IrSar, api.IrRol, api.IrRor, api.IrMul, api.IrHigh, api.IrOver, api.IrQuot, api.IrRest, api.IrIs, api.IrPick}
	takesC := []uint8{api.IrAdd, api.IrSub, api.IrAddC, api.IrSubC, api.IrAddO, api.IrSubO, api.IrQuot, api.IrRest, api.IrPick}
	for op := api.IrCopy; op < api.IrLoad; op++ {
		for i, want := range []bool{false, true, slices.Contains(takesB, op), slices.Contains(takesC, op)} {
			a := Top()
			a.D[3] = true
			if i > 0 {
				a.D[i-1] = true
			}
			if got, _ := Run(a, nil, deed(op, 4, 3, cell(0), cell(1), cell(2))); got.D[3] != want {
				t.Error(op, i, got.D[3])
			}
		}
	}
	a := Top()
	a.D[0] = true
	if got, _ := Run(a, nil, deed(api.IrCopy, 8, 32, cell(0)), deed(api.IrCopy, 8, 1, cell(32)), deed(api.IrCopy, 8, 0, num(5)), deed(api.IrCopy, 8, 2, cell(33))); !got.D[1] || got.D[0] || got.V[0] != strided.One(5) || got.V[2] != strided.One(0) || got.D[2] {
		t.Error("temporary cells")
	}
	if got, went := Run(a, nil, api.Deed{Op: api.IrCopy, W: 9, D: 0}, api.Deed{Op: api.IrGo, W: 8, D: 1, A: num(5)}); !Same(got, a) || went.To != nil {
		t.Error("deeds that may not be")
	}
	if got, went := Run(a, nil, api.Deed{}, deed(api.IrCopy, 8, 1, num(7)), api.Deed{Op: 99}, deed(api.IrGo, 8, 0, num(5), num(5), num(1))); got.V[1] != strided.One(7) || !slices.Equal(went.To, []api.Set{strided.One(5)}) {
		t.Error("deeds behind one that may not be")
	}
}

func TestLoads(t *testing.T) {
	for i, c := range []struct {
		at      api.Set
		differs bool
		w       int
		dirt    []api.Range
		leak    uint8
		want    api.Set
		dirty   bool
	}{
		{strided.One(0x3004), true, 4, nil, api.LeakLoad, strided.One(7), false},
		{strided.One(0x3004), false, 4, nil, 0, strided.One(0x07060504), false},
		{set(2, 0x3004, 0x3008), false, 1, nil, 0, set(2, 4, 8), false},
		{strided.One(0x2004), false, 4, nil, 0, strided.All(4), false},
		{strided.One(0x2ffe), false, 4, nil, 0, strided.All(4), false},
		{strided.One(0x3ffe), false, 4, nil, 0, strided.All(4), false},
		{set(1, 0x3000, 0x303f), false, 1, nil, 0, set(1, 0, 63), false},
		{set(1, 0x3000, 0x3040), false, 1, nil, 0, strided.All(1), false},
		{strided.One(0x3004), false, 4, []api.Range{{Low: 0x3007, High: 0x3007}}, 0, strided.All(4), true},
		{strided.One(0x3004), false, 4, []api.Range{{Low: 0x3008, High: 0x3008}}, 0, strided.One(0x07060504), false},
		{set(0x100, 0x3000, 0x3100), false, 1, []api.Range{{Low: 0x3050, High: 0x3050}}, 0, strided.One(0), true},
		{strided.One(0x3008), false, 8, nil, 0, strided.One(0x0f0e0d0c0b0a0908), false},
		{strided.None(), false, 8, nil, 0, strided.All(8), false},
		{strided.None(), false, 8, []api.Range{{Low: 5, High: 5}}, 0, strided.All(8), true},
		{strided.One(^uint64(0)), false, 2, []api.Range{{Low: 77, High: 77}}, 0, strided.All(2), true},
		{strided.One(^uint64(0)), false, 1, []api.Range{{Low: 77, High: 77}}, 0, strided.All(1), false},
	} {
		a := Top()
		a.V[0], a.D[0], a.Dirt, a.V[1], a.D[1] = c.at, c.differs, c.dirt, strided.One(7), false
		got, went := Run(a, pages(), deed(api.IrLoad, c.w, 1, cell(0)))
		if went.Leak != c.leak || got.V[1] != c.want || got.D[1] != c.dirty {
			t.Error(i, went, got.V[1], got.D[1])
		}
		if c.w == 8 || c.leak != 0 {
			continue
		}
		load := api.Insn{Do: api.DoMovdqu, Width: 16, A: encode.Vec(3), B: operand.Mem(0, 0)}
		got, went = Run(a, pages(), api.Deed{Op: api.IrVec, W: 16, A: cell(0), B: num(0), C: num(0), V: load})
		want := false
		for _, r := range c.dirt {
			low, high := c.at.Low, c.at.High+15
			want = want || high < c.at.High || r.Low <= high && low <= r.High
		}
		if got.X[3] != want || went.Leak != 0 {
			t.Error("vector", i, got.X[3])
		}
	}
}

// TestFirstPage loads from the first of all pages, which can't be written.
func TestFirstPage(t *testing.T) {
	a := Top()
	a.V[0] = strided.One(0x3005)
	if got, _ := Run(a, pages()[1:], deed(api.IrLoad, 1, 1, cell(0))); got.V[1] != strided.One(5) {
		t.Error(got.V[1])
	}
}

func TestStores(t *testing.T) {
	old := []api.Range{{Low: 0x100, High: 0x10f}}
	all := []api.Range{{Low: 0, High: ^uint64(0)}}
	slots := []api.Slot{{At: 0x100, To: 1, Ok: true}, {At: 0x108, To: 2, Ok: true}, {At: ^uint64(0) - 3, To: 3, Ok: true}}
	for i, c := range []struct {
		at         api.Set
		atD, wordD bool
		w          int
		leak       uint8
		dirt       []api.Range
		ok         [3]bool
	}{
		{strided.One(0x104), true, false, 4, api.LeakStore, old, [3]bool{true, true, true}},
		{strided.One(0x104), false, false, 4, 0, []api.Range{{Low: 0x100, High: 0x103}, {Low: 0x108, High: 0x10f}}, [3]bool{false, true, true}},
		{strided.One(0x104), false, false, 8, 0, []api.Range{{Low: 0x100, High: 0x103}, {Low: 0x10c, High: 0x10f}}, [3]bool{false, false, true}},
		{strided.One(0x110), false, true, 8, 0, []api.Range{{Low: 0x100, High: 0x117}}, [3]bool{true, true, true}},
		{set(1, 0x0, 0x10), false, true, 1, 0, []api.Range{{Low: 0, High: 0x10}, old[0]}, [3]bool{true, true, false}},
		{set(8, 0x100, 0x108), false, false, 8, 0, old, [3]bool{false, false, true}},
		{strided.One(^uint64(0)), false, false, 2, 0, old, [3]bool{}},
		{strided.One(^uint64(0)), false, true, 2, 0, all, [3]bool{}},
		{strided.One(^uint64(0)), false, false, 1, 0, old, [3]bool{true, true, false}},
		{strided.One(3), false, false, 1, 0, old, [3]bool{true, true, false}},
		{strided.One(4), false, false, 1, 0, old, [3]bool{true, true, true}},
		{strided.None(), false, true, 1, 0, all, [3]bool{}},
		{strided.None(), false, false, 1, 0, old, [3]bool{}},
	} {
		a := Top()
		a.V[0], a.D[0], a.D[1], a.Dirt, a.Slots = c.at, c.atD, c.wordD, slices.Clone(old), slices.Clone(slots)
		got, went := Run(a, pages(), deed(api.IrStore, c.w, 0, cell(0), cell(1)))
		ok := [3]bool{got.Slots[0].Ok, got.Slots[1].Ok, got.Slots[2].Ok}
		if went.Leak != c.leak || !slices.Equal(got.Dirt, c.dirt) || ok != c.ok {
			t.Error(i, went, got.Dirt, ok)
		}
		if !slices.Equal(a.Slots, slots) || !slices.Equal(a.Dirt, old) {
			t.Error("changed")
		}
	}
	store := api.Insn{Do: api.DoMovdqu, Width: 16, A: operand.Mem(0, 0), B: encode.Vec(3)}
	for _, differs := range []bool{false, true} {
		a := Top()
		a.X[3], a.Dirt = differs, old
		a.V[0] = strided.One(0x108)
		got, _ := Run(a, nil, api.Deed{Op: api.IrVec, W: 16, A: cell(0), B: num(0), C: num(0), V: store})
		want := []api.Range{{Low: 0x100, High: 0x107}}
		if differs {
			want = []api.Range{{Low: 0x100, High: 0x117}}
		}
		if !slices.Equal(got.Dirt, want) {
			t.Error("a vector that is stored", got.Dirt)
		}
	}
	a := Top()
	a.D[0] = true
	if _, went := Run(a, nil, api.Deed{Op: api.IrVec, W: 16, A: cell(0), B: num(0), C: num(0), V: store}); went.Leak != api.LeakStore {
		t.Error("LeakStore of a vector", went)
	}
	store.A, store.B = store.B, store.A
	if _, went := Run(a, nil, api.Deed{Op: api.IrVec, W: 16, A: cell(0), B: num(0), C: num(0), V: store}); went.Leak != api.LeakLoad {
		t.Error("LeakLoad of a vector", went)
	}
}

func TestVectors(t *testing.T) {
	for _, do := range []uint8{api.DoMovdqu, api.DoPxor, api.DoAesenc, api.DoAeslast, api.DoClmul} {
		for i := range 4 {
			x, y := i&1 == 1, i&2 == 2
			a := Top()
			a.X[1], a.X[2], a.D[0] = x, y, true
			run := func(b int) bool {
				got, went := Run(a, nil, api.Deed{Op: api.IrVec, W: 16, A: cell(0), B: num(0), C: num(0), V: api.Insn{Do: do, Width: 16, A: encode.Vec(1), B: encode.Vec(b)}})
				if went.Leak != 0 {
					t.Error("a leak of registers alone")
				}
				return got.X[1]
			}
			if want := y || x && do != api.DoMovdqu; run(2) != want {
				t.Error(do, x, y)
			}
			if want := x && do != api.DoPxor; run(1) != want {
				t.Error(do, x, "with itself")
			}
		}
	}
}

func TestGoAndDiv(t *testing.T) {
	one, two, both, none := strided.One(1), strided.One(2), set(1, 0, 1), strided.None()
	for i, c := range []struct {
		a, b, c api.Set
		d       [3]bool
		leak    uint8
		to      []api.Set
	}{
		{one, two, both, [3]bool{}, 0, []api.Set{one, two}}, {one, one, both, [3]bool{}, 0, []api.Set{one}}, {one, two, one, [3]bool{}, 0, []api.Set{one}}, {one, two, strided.One(0), [3]bool{}, 0, []api.Set{two}},
		{one, two, none, [3]bool{}, 0, []api.Set{one}}, {one, two, set(1, 1, 2), [3]bool{}, 0, []api.Set{one}},
		{one, two, one, [3]bool{false, false, true}, api.LeakBranch, nil}, {one, one, both, [3]bool{false, false, true}, api.LeakBranch, nil}, {one, two, both, [3]bool{true, false, true}, api.LeakBranch, nil},
		{one, two, both, [3]bool{true, false, false}, api.LeakGo, nil}, {one, two, both, [3]bool{false, true, false}, api.LeakGo, nil}, {one, two, one, [3]bool{false, true, false}, 0, []api.Set{one}}, {one, two, one, [3]bool{true, false, false}, api.LeakGo, nil},
		{one, two, strided.One(0), [3]bool{true, false, false}, 0, []api.Set{two}}, {one, two, strided.One(0), [3]bool{false, true, false}, api.LeakGo, nil}, {one, two, none, [3]bool{false, true, false}, api.LeakGo, nil},
	} {
		a := Top()
		for k, v := range []api.Set{c.a, c.b, c.c} {
			a.V[k], a.D[k] = v, c.d[k]
		}
		if _, went := Run(a, nil, deed(api.IrGo, 8, 0, cell(0), cell(1), cell(2))); went.Leak != c.leak || !slices.Equal(went.To, c.to) {
			t.Error(i, went)
		}
	}
	a := Top()
	a.D[0] = true
	if _, went := Run(a, nil, deed(api.IrGo, 8, 0, num(5), num(5), cell(0))); went.Leak != 0 || !slices.Equal(went.To, []api.Set{strided.One(5)}) {
		t.Error("a branch over nothing", went)
	}
	a.V[1] = strided.One(0)
	for i, takes := range [][2]api.Val{{cell(1), num(0)}, {num(0), cell(1)}, {cell(1), cell(1)}, {num(1), num(0)}} {
		if _, went := Run(a, nil, deed(api.IrGo, 8, 0, takes[0], takes[1], cell(0))); went.Leak != api.LeakBranch {
			t.Error("not the same number", i, went)
		}
	}
	for k := range 3 {
		takes := []api.Val{num(1), num(1), num(1)}
		takes[k] = cell(0)
		if _, went := Run(a, nil, deed(api.IrDiv, 8, 0, takes...)); went.Leak != api.LeakDiv {
			t.Error("LeakDiv", k)
		}
		takes[k] = cell(1)
		if _, went := Run(a, nil, deed(api.IrDiv, 8, 0, takes...)); went.Leak != 0 {
			t.Error("no LeakDiv", k)
		}
	}
	got, went := Run(a, nil, deed(api.IrCopy, 8, 1, num(9)), deed(api.IrDiv, 8, 0, cell(0)), deed(api.IrCopy, 8, 2, num(9)), deed(api.IrGo, 8, 0, num(5)))
	if went.Leak != api.LeakDiv || went.To != nil || got.V[1] != strided.One(9) || got.V[2] != strided.All(8) {
		t.Error("the first leak ends it", went)
	}
}

func TestFlagsAtTheEnd(t *testing.T) {
	for i, c := range []struct{ v, want api.Set }{
		{strided.One(0), strided.One(0)}, {strided.One(1), strided.One(1)}, {strided.One(7), strided.One(1)}, {set(1, 1, 9), strided.One(1)}, {set(1, 0, 9), set(1, 0, 1)}, {strided.All(8), set(1, 0, 1)}, {strided.None(), strided.One(1)}, {set(3, 0, 5), strided.One(1)},
	} {
		a := Top()
		a.V[api.CellO] = c.v
		if got, _ := Run(a, nil); got.V[api.CellO] != c.want {
			t.Error(i, got.V[api.CellO])
		}
		a.D[0] = true
		if got, went := Run(a, nil, deed(api.IrDiv, 8, 0, cell(0))); got.V[api.CellO] != c.want || went.Leak == 0 {
			t.Error("with a leak", i, got.V[api.CellO])
		}
	}
}

func TestP24_3(t *testing.T) {
	a, b := Top(), Top()
	a.V[0], b.V[0] = strided.One(3), strided.One(11)
	a.D[1], b.D[2], a.X[3], b.X[4] = true, true, true, true
	a.Dirt, b.Dirt = []api.Range{{Low: 1, High: 3}}, []api.Range{{Low: 4, High: 5}}
	a.Slots = []api.Slot{{At: 1, To: 2, Ok: true}, {At: 3, To: 4, Ok: true}, {At: 5, To: 6}, {At: 7, To: 8, Ok: true}}
	b.Slots = []api.Slot{{At: 1, To: 2, Ok: true}, {At: 3, To: 4}, {At: 5, To: 6, Ok: true}, {At: 7, To: 9, Ok: true}}
	check := func(name string, got api.Abs, want api.Set) {
		t.Helper()
		if got.V[0] != want || got.V[1] != strided.All(8) || !got.D[1] || !got.D[2] || got.D[0] || !got.X[3] || !got.X[4] || got.X[0] || !slices.Equal(got.Dirt, []api.Range{{Low: 1, High: 5}}) {
			t.Error(name, got)
		}
		if !slices.Equal(got.Slots, []api.Slot{{At: 1, To: 2, Ok: true}, {At: 3, To: 4}, {At: 5, To: 6}, {At: 7, To: 8}}) {
			t.Error(name, got.Slots)
		}
	}
	check("Join", Join(a, b), set(8, 3, 11))
	check("Widen", Widen(a, b), set(8, 3, ^uint64(0)-4))
	if a.V[0] != strided.One(3) || a.D[2] || !a.Slots[1].Ok || len(a.Dirt) != 1 {
		t.Error("changed")
	}
	b.Slots = b.Slots[:3]
	if len(Join(a, b).Slots) != 0 || len(Widen(b, a).Slots) != 0 {
		t.Error("unlike numbers of slots")
	}
	a.V[api.CellC], b.V[api.CellC] = strided.One(0), strided.One(1)
	if got := Widen(a, b).V[api.CellC]; got != strided.All(8) {
		t.Error("a flag widened", got)
	}
}

func TestIn(t *testing.T) {
	top := Top()
	top.Slots = []api.Slot{{At: 1, To: 2, Ok: true}, {At: 3, To: 4}}
	for i, c := range []struct {
		change func(*api.Abs)
		in, of bool // within top, and top within it
	}{
		{func(a *api.Abs) {}, true, true}, {func(a *api.Abs) { a.V[0] = strided.One(3) }, true, false}, {func(a *api.Abs) { a.V[16] = strided.All(8) }, false, true}, {func(a *api.Abs) { a.D[20] = true }, false, true}, {func(a *api.Abs) { a.X[15] = true }, false, true},
		{func(a *api.Abs) { a.Dirt = []api.Range{{Low: 1, High: 1}} }, false, true}, {func(a *api.Abs) { a.Slots = a.Slots[:1] }, false, false}, {func(a *api.Abs) { a.Slots[0].Ok = false }, false, true}, {func(a *api.Abs) { a.Slots[1].Ok = true }, true, false}, {func(a *api.Abs) { a.Slots[1].At++ }, false, false}, {func(a *api.Abs) { a.Slots[1].To++ }, false, false},
		{func(a *api.Abs) { a.V[0] = set(9, 1, 2) }, true, false},
	} {
		a := Top()
		a.Slots = slices.Clone(top.Slots)
		c.change(&a)
		if In(a, top) != c.in || In(top, a) != c.of {
			t.Error(i, In(a, top), In(top, a))
		}
	}
}

// pair makes what is known, and two machines that go together by it.
func pair(rng *rand.Rand) (api.Abs, api.State, api.State) {
	a := Top()
	s := api.State{Pages: pages()}
	for i := range 16 {
		s.C.R[i] = []uint64{rng.Uint64(), uint64(rng.Intn(70)), 0x2100, 0x3100, 0x2800, 1 << 63}[rng.Intn(6)]
		rng.Read(s.C.X[i][:])
	}
	s.C.F, s.C.IP = cpu.Unpacked(uint8(rng.Int())), 0x1000
	u := step.Own(s)
	if rng.Intn(2) == 0 {
		a.Slots = append(a.Slots, api.Slot{At: 0x2800, To: bits.Number(s.Pages[0].Data[0x800:0x808]), Ok: true})
	}
	n, m := interp.Start(s.C), interp.Start(u.C)
	for i := range a.V {
		if a.D[i] = rng.Intn(3) == 0; a.D[i] {
			if m.N[i] = rng.Uint64() >> uint(rng.Intn(64)); i >= 16 {
				m.N[i] = uint64(rng.Intn(2))
			}
		}
		switch join := strided.Join(strided.One(n.N[i]), strided.One(m.N[i])); rng.Intn(4) {
		case 0, 1:
			a.V[i] = join
		case 2:
			a.V[i] = strided.Join(join, strided.One(uint64(rng.Intn(2))))
		}
	}
	u.C = interp.Back(m, u.C)
	for i := range 16 {
		if a.X[i] = rng.Intn(3) == 0; a.X[i] {
			rng.Read(u.C.X[i][:])
		}
	}
	for range rng.Intn(3) {
		low := uint64(0x2000 + rng.Intn(0x180))
		a.Dirt = append(a.Dirt, api.Range{Low: low, High: low + uint64(rng.Intn(64))})
	}
	for _, r := range a.Dirt {
		rng.Read(u.Pages[0].Data[r.Low-0x2000 : r.High-0x2000+1])
	}
	return a, s, u
}

// some makes an instruction that may be.
func some(rng *rand.Rand) api.Insn {
	var x api.Insn
	for !encode.Right(x) {
		any := func() api.Operand {
			switch rng.Intn(6) {
			case 0:
				return api.Operand{}
			case 1:
				return encode.Imm(int64(rng.Intn(300) - 100))
			case 2:
				return encode.Vec(rng.Intn(16))
			case 3:
				return api.Operand{Kind: 2, Base: rng.Intn(17) - 1, Index: []int{-1, -1, 1}[rng.Intn(3)], Scale: 1, Disp: []int64{0, 8, 0x2100, 0x3100}[rng.Intn(4)]}
			}
			return operand.Reg(rng.Intn(16))
		}
		x = api.Insn{Do: uint8(rng.Intn(int(api.Deeds))), Width: []int{1, 4, 8, 8, 16}[rng.Intn(5)], A: any(), B: any(), Len: 3}
		if x.Do == api.DoJcc || x.Do == api.DoCmov || x.Do == api.DoSet {
			x.Cond = uint8(rng.Intn(16))
		}
	}
	return x
}

func TestP24_4(t *testing.T) {
	rng := rand.New(rand.NewSource(41))
	whole, faults := 0, 0
	for range 12000 {
		a, s, u := pair(rng)
		if !Together(a, s, u) {
			t.Fatal("the pair does not go together")
		}
		x := some(rng)
		l, _ := lift.Lift(x, s.C.IP)
		was := Join(a, a)
		b, went := Run(a, s.Pages, l...)
		if !In(a, was) || !In(was, a) {
			t.Fatal("changed")
		}
		if went.Leak != 0 {
			continue
		}
		g, events := interp.Run(s, l...)
		h, shown := interp.Run(u, l...)
		if !slices.Equal(events, shown) || g.Over != h.Over {
			t.Fatalf("%+v\n%+v\n%v\n%v", x, a, events, shown)
		}
		if g.Over {
			faults++
			continue
		}
		whole++
		if !Together(b, g, h) || !slices.ContainsFunc(went.To, func(v api.Set) bool { return strided.Has(v, g.C.IP) }) {
			t.Fatalf("%+v\n%+v\n%+v\n%v\n%v\n%v", x, a, b, went, g.C, h.C)
		}
	}
	if whole < 1000 || faults < 100 {
		t.Error("too few", whole, faults)
	}
}
