package fix

import (
	"math/rand"
	"reflect"
	"slices"
	"testing"

	"sundial/api"
	"sundial/encode"
	"sundial/operand"
	"sundial/run"
	"sundial/step"
	"sundial/strided"
	"sundial/transfer"
)

func reg(r int) api.Operand { return operand.Reg(r) }

func imm(n int64) api.Operand { return encode.Imm(n) }

func mem(base int, disp int64) api.Operand { return operand.Mem(base, disp) }

var (
	nop = api.Insn{Do: api.DoNop, Width: 8}
	ret = api.Insn{Do: api.DoRet, Width: 8}
)

func jmp(n int64) api.Insn { return api.Insn{Do: api.DoJmp, Width: 8, B: imm(n)} }

func jcc(c uint8, n int64) api.Insn { return api.Insn{Do: api.DoJcc, Cond: c, Width: 8, B: imm(n)} }

func call(n int64) api.Insn { return api.Insn{Do: api.DoCall, Width: 8, B: imm(n)} }

func mov(a, b api.Operand) api.Insn { return api.Insn{Do: api.DoMov, Width: 8, A: a, B: b} }

// pages are code at 0x1000, bytes at 0x2000 that can be written, noughts at 0x3000 that can't.
func pages(code ...api.Insn) []api.Page {
	b, e := encode.Code(code...)
	if e != api.OK {
		panic("code")
	}
	var l []api.Page
	for i, perm := range []uint8{5, 6, 4} {
		l = append(l, api.Page{At: uint64(i+1) * 0x1000, Perm: perm, Data: make([]byte, 4096)})
	}
	for i := range l[0].Data {
		l[0].Data[i] = 0xcc
	}
	copy(l[0].Data, b)
	return l
}

// first is what is known at first: RSP fixed, its return going to 0.
func first(secret ...int) api.Abs {
	a := transfer.Top()
	a.V[api.RSP] = strided.One(0x2800)
	a.Slots = []api.Slot{{At: 0x2800, Ok: true}}
	for _, r := range secret {
		a.D[r] = true
	}
	return a
}

func at(f api.Fix) []uint64 {
	var l []uint64
	for _, n := range f.Nodes {
		l = append(l, n.At)
	}
	return l
}

func TestExamples(t *testing.T) {
	secret := first(api.RBX)
	loop := []api.Insn{{Do: api.DoMov, Width: 4, A: reg(1), B: imm(10)}, {Do: api.DoShl, Width: 8, A: reg(3), B: imm(1)}, {Do: api.DoAdd, Width: 8, A: reg(0), B: reg(3)}, {Do: api.DoDec, Width: 4, A: reg(1)}, jcc(5, -14), ret}
	for i, c := range []struct {
		code  []api.Insn
		a     api.Abs
		why   uint8
		leaks []api.Leak
	}{
		{[]api.Insn{{Do: api.DoAdd, Width: 8, A: reg(0), B: reg(3)}, ret}, secret, 0, nil},
		{[]api.Insn{mov(reg(0), mem(3, 0)), ret}, secret, 0, []api.Leak{{At: 0x1000, Kind: api.LeakLoad}}},
		{[]api.Insn{{Do: api.DoTest, Width: 8, A: reg(3), B: reg(3)}, jcc(4, 1), nop, ret}, secret, 0, []api.Leak{{At: 0x1003, Kind: api.LeakBranch}}},
		{[]api.Insn{{Do: api.DoTest, Width: 8, A: reg(3), B: reg(3)}, jcc(4, 0), nop, ret}, secret, 0, nil},
		{[]api.Insn{{Do: api.DoDiv, Width: 8, A: reg(3)}, ret}, secret, 0, []api.Leak{{At: 0x1000, Kind: api.LeakDiv}}},
		{[]api.Insn{{Do: api.DoXor, Width: 8, A: reg(3), B: reg(3)}, mov(reg(0), mem(3, 0)), ret}, secret, 0, nil},
		{[]api.Insn{mov(mem(-1, 0x2000), reg(3)), mov(reg(0), mem(-1, 0x2000)), mov(reg(0), mem(0, 0)), ret}, secret, 0, []api.Leak{{At: 0x1010, Kind: api.LeakLoad}}},
		{[]api.Insn{{Do: api.DoJmp, Width: 8, A: reg(0)}}, secret, api.WhyJump, nil},
		{loop, secret, 0, nil},
		{[]api.Insn{{Do: api.DoPop, Width: 8, A: reg(4)}, ret}, first(), api.WhyReturn, nil},
		{[]api.Insn{mov(mem(3, 0), reg(0)), ret}, secret, 0, []api.Leak{{At: 0x1000, Kind: api.LeakStore}}},
		{[]api.Insn{{Do: api.DoJmp, Width: 8, A: reg(3)}}, secret, 0, []api.Leak{{At: 0x1000, Kind: api.LeakGo}}},
		{[]api.Insn{call(0), ret}, transfer.Top(), api.WhyStack, nil},
		{[]api.Insn{call(-5)}, first(), api.WhyDeep, nil},
		{[]api.Insn{mov(mem(4, 0), reg(0)), ret}, first(), api.WhyReturn, nil},
		{[]api.Insn{mov(mem(0, 0), reg(1)), ret}, first(), api.WhyReturn, nil},
		{[]api.Insn{ret}, transfer.Top(), api.WhyReturn, nil},
	} {
		p := pages(c.code...)
		f := Run(p, 0x1000, c.a, api.MaxBudget)
		if f.Why != c.why || !slices.Equal(f.Leaks, c.leaks) {
			t.Error(i, f.Why, f.Leaks, at(f))
		}
		if Known(p, f) != (c.why == 0) || c.why == 0 && !transfer.In(c.a, f.Nodes[0].A) {
			t.Error("Known", i)
		}
	}
	f := Run(nil, 0, first(), 5)
	if len(f.Nodes) != 1 || f.Steps != 1 || f.Why != 0 || len(f.Leaks) != 0 || f.Nodes[0].Times != 1 || !transfer.Same(f.Nodes[0].A, first()) {
		t.Error("the address 0", f)
	}
}

func TestStepCallsAndReturns(t *testing.T) {
	p := pages(call(3), nop, nop, ret, ret)
	a := first()
	next, leak, why := Step(p, api.Node{At: 0x1000, A: a, Times: 7})
	if leak != 0 || why != 0 || len(next) != 1 || next[0].At != 0x1008 || next[0].Times != 1 || !slices.Equal(next[0].A.Slots, []api.Slot{{At: 0x2800, Ok: true}, {At: 0x27f8, To: 0x1005, Ok: true}}) || next[0].A.V[4] != strided.One(0x27f8) || len(a.Slots) != 1 {
		t.Error(next, leak, why)
	}
	next, leak, why = Step(p, next[0])
	if leak != 0 || why != 0 || len(next) != 1 || next[0].At != 0x1005 || !slices.Equal(next[0].A.Slots, a.Slots) || next[0].A.V[4] != strided.One(0x2800) {
		t.Error(next, leak, why)
	}
	for i, change := range []func(*api.Abs){
		func(a *api.Abs) { a.Slots = nil }, func(a *api.Abs) { a.Slots[0].Ok = false }, func(a *api.Abs) { a.Slots[0].At++ }, func(a *api.Abs) { a.V[4] = strided.Of(0x2800, 0x2808, 8) }, func(a *api.Abs) { a.V[4] = strided.None() },
	} {
		a := first()
		change(&a)
		if next, leak, why := Step(p, api.Node{At: 0x1008, A: a}); next != nil || leak != 0 || why != api.WhyReturn {
			t.Error(i, next, leak, why)
		}
	}
	a = first(4)
	if next, leak, why := Step(p, api.Node{At: 0x1008, A: a}); next != nil || leak != api.LeakLoad || why != 0 {
		t.Error("a leak goes ahead of a reason", next, leak, why)
	}
	a = first()
	a.Dirt = []api.Range{{Low: 0x2807, High: 0x2807}}
	if _, leak, why := Step(p, api.Node{At: 0x1008, A: a}); leak != api.LeakGo || why != 0 {
		t.Error("a return by dirt", leak, why)
	}
	a = first()
	for range api.MaxSlots - 1 {
		a.Slots = append(a.Slots, api.Slot{})
	}
	if _, _, why := Step(p, api.Node{At: 0x1000, A: a}); why != api.WhyDeep {
		t.Error("as many slots as may be", why)
	}
	a.Slots = a.Slots[1:]
	if next, _, why := Step(p, api.Node{At: 0x1000, A: a}); why != 0 || len(next[0].A.Slots) != api.MaxSlots {
		t.Error("one fewer", why)
	}
	a.Slots = make([]api.Slot, 20)
	a.V[4] = strided.All(8)
	if _, _, why := Step(p, api.Node{At: 0x1000, A: a}); why != api.WhyStack {
		t.Error("WhyStack goes ahead", why)
	}
	low := pages(nop, ret)
	low[0].At = 0
	if next, leak, why := Step(low, api.Node{At: 0, A: first()}); next != nil || leak+why != 0 {
		t.Error("an instruction at the address 0", next)
	}
	for _, x := range []uint64{0, 0x1003, 0x2000, 0x5000} {
		if next, leak, why := Step(p, api.Node{At: x, A: first()}); next != nil || leak+why != 0 {
			t.Error("nothing comes of", x)
		}
	}
}

func TestStepJumps(t *testing.T) {
	p := pages(api.Insn{Do: api.DoJmp, Width: 8, A: reg(0)}, jcc(4, 3), jmp(0))
	a := first()
	a.V[0] = strided.Of(0x1000, 0x1000+63*2, 2)
	next, leak, why := Step(p, api.Node{At: 0x1000, A: a})
	if len(next) != 64 || leak+why != 0 || next[63].At != 0x107e || next[1].At != 0x1002 {
		t.Error("as many targets as may be", len(next), leak, why)
	}
	next[0].A.Slots[0].To = 77
	if next[1].A.Slots[0].To != 0 || a.Slots[0].To != 0 {
		t.Error("shared")
	}
	a.V[0] = strided.Of(0x1000, 0x1000+64*2, 2)
	if next, leak, why := Step(p, api.Node{At: 0x1000, A: a}); next != nil || leak != 0 || why != api.WhyJump {
		t.Error("one more", leak, why)
	}
	a.V[0] = strided.None()
	if next, leak, why := Step(p, api.Node{At: 0x1000, A: a}); next != nil || leak+why != 0 {
		t.Error("none", leak, why)
	}
	where := func(z api.Set) []uint64 {
		a := first()
		a.V[api.CellZ] = z
		next, _, _ := Step(p, api.Node{At: 0x1002, A: a})
		var l []uint64
		for _, n := range next {
			l = append(l, n.At)
		}
		return l
	}
	if !slices.Equal(where(strided.Of(0, 1, 1)), []uint64{0x100b, 0x1008}) || !slices.Equal(where(strided.One(0)), []uint64{0x1008}) || !slices.Equal(where(strided.One(1)), []uint64{0x100b}) {
		t.Error("a branch")
	}
}

func TestGoingOn(t *testing.T) {
	// RCX counts up for ever: it is joined up to four times, then widened.
	p := pages(api.Insn{Do: api.DoAdd, Width: 8, A: reg(1), B: imm(8)}, jmp(-9))
	a := first()
	a.V[1] = strided.One(5)
	f := Run(p, 0x1000, a, api.MaxBudget)
	if len(f.Nodes) != 2 || f.Why != 0 || f.Nodes[0].A.V[1].Low > 5 || f.Nodes[0].Times < 5 || !Known(p, f) {
		t.Errorf("%+v", f)
	}
	var sets []api.Set
	for budget := 1; budget < f.Steps; budget += 2 {
		g := Run(p, 0x1000, a, budget)
		if g.Why != api.WhyLong || g.Steps != budget {
			t.Error("budget", budget, g.Why, g.Steps)
		}
		sets = append(sets, g.Nodes[0].A.V[1])
	}
	if !slices.Equal(sets[:4], []api.Set{strided.One(5), strided.Of(5, 13, 8), strided.Of(5, 21, 8), strided.Of(5, 29, 8)}) || sets[4].High < 1<<62 {
		t.Error(sets)
	}
	for _, budget := range []int{0, -1, -1 << 63} {
		if g := Run(p, 0x1000, a, budget); g.Steps != 0 || g.Why != api.WhyLong || len(g.Nodes) != 1 {
			t.Error("no budget", g)
		}
	}
	if g := Run(p, 0x1000, a, f.Steps); !Same(g, f) {
		t.Error("just as many steps as it needs")
	}
	if g := Run(p, 0x1000, a, f.Steps-1); g.Why != api.WhyLong {
		t.Error("one step fewer")
	}
	if g := Run(p, 0x1000, a, 1<<62); !Same(g, f) {
		t.Error("a great budget")
	}
}

func TestLarge(t *testing.T) {
	// Jumps into a page of nops from 64 places: more than MaxNodes of them on the way.
	var l []api.Page
	for i := range 2 {
		p := api.Page{At: uint64(i+1) * 0x1000, Perm: 5, Data: make([]byte, 4096)}
		for k := range p.Data {
			p.Data[k] = 0x90
		}
		l = append(l, p)
	}
	f := Run(l, 0x1000, first(), api.MaxBudget)
	if len(f.Nodes) != api.MaxNodes || f.Why != api.WhyLarge || f.Steps != api.MaxNodes {
		t.Error(len(f.Nodes), f.Why, f.Steps)
	}
	if Known(l, f) {
		t.Error("Known with a reason")
	}
	f.Why = 0
	if Known(l, f) {
		t.Error("Known without its last place")
	}
	f = Run(l, 0x3000-api.MaxNodes+1, first(), api.MaxBudget)
	if len(f.Nodes) != api.MaxNodes || f.Why != 0 {
		t.Error("as many as may be", len(f.Nodes), f.Why)
	}
}

func TestFirstReasonAndOrder(t *testing.T) {
	// Both ways have a reason; the first one that is come to is kept.
	code := []api.Insn{jcc(4, 2), {Do: api.DoJmp, Width: 8, A: reg(0)}, mov(reg(4), reg(0)), ret}
	f := Run(pages(code...), 0x1000, first(), api.MaxBudget)
	if f.Why != api.WhyJump || !slices.Equal(at(f), []uint64{0x1000, 0x1008, 0x1006, 0x100b}) {
		t.Error(f.Why, at(f))
	}
	// Leaks rise, each once.
	code = []api.Insn{jcc(4, 3), mov(reg(0), mem(3, 0)), mov(mem(3, 0), reg(0)), ret}
	f = Run(pages(code...), 0x1000, first(3), api.MaxBudget)
	if !slices.Equal(f.Leaks, []api.Leak{{At: 0x1006, Kind: api.LeakLoad}, {At: 0x1009, Kind: api.LeakStore}}) {
		t.Error(f.Leaks)
	}
}

func TestP25_1(t *testing.T) {
	p := pages(call(3), nop, nop, ret, ret)
	f := Run(p, 0x1000, first(), 100)
	for i, n := range f.Nodes {
		slots := slices.Clone(n.A.Slots)
		for k := range slots {
			slots[k].Ok = !slots[k].Ok
		}
		if Find(f, n.At, slots) != i {
			t.Error("Find", i)
		}
		if len(slots) > 0 {
			slots[0].To++
			if Find(f, n.At, slots) != -1 || Find(f, n.At, slots[1:]) == i {
				t.Error("Find of other slots", i)
			}
		}
	}
	if Find(f, 0x7777, nil) != -1 || Find(api.Fix{}, 0, nil) != -1 {
		t.Error("Find of none")
	}
	g := Run(p, 0x1000, first(), 100)
	if !Same(f, g) || !reflect.DeepEqual(f, g) {
		t.Error("not the same twice")
	}
	for i, change := range []func(*api.Fix){
		func(f *api.Fix) { f.Why++ }, func(f *api.Fix) { f.Steps++ }, func(f *api.Fix) { f.Leaks = []api.Leak{{}} }, func(f *api.Fix) { f.Nodes[1].At++ }, func(f *api.Fix) { f.Nodes[1].Times++ }, func(f *api.Fix) { f.Nodes[1].A.D[3] = true }, func(f *api.Fix) { f.Nodes = f.Nodes[1:] },
	} {
		g := Run(p, 0x1000, first(), 100)
		if change(&g); Same(f, g) {
			t.Error("Same", i)
		}
	}
}

func TestP25_3(t *testing.T) {
	code := []api.Insn{jcc(4, 1), nop, mov(reg(0), mem(3, 0)), ret}
	p := pages(code...)
	whole := func() api.Fix { return Run(p, 0x1000, first(3), 100) }
	if !Known(p, whole()) {
		t.Error("Known")
	}
	for i, change := range []func(*api.Fix){
		func(f *api.Fix) { f.Nodes = nil }, func(f *api.Fix) { f.Why = 1 }, func(f *api.Fix) { f.Leaks = nil }, func(f *api.Fix) { f.Leaks[0].Kind++ }, func(f *api.Fix) { f.Nodes = f.Nodes[:2] },
		func(f *api.Fix) { f.Nodes[1].A.V[0] = strided.One(5) }, func(f *api.Fix) { f.Nodes[0].A.Slots[0].To = 9 },
	} {
		f := whole()
		if change(&f); Known(p, f) {
			t.Error(i)
		}
	}
	f := whole()
	f.Leaks = append(f.Leaks, api.Leak{At: 1, Kind: 1})
	f.Steps = -9
	if !Known(p, f) {
		t.Error("more leaks than there are")
	}
}

// some makes an instruction of a small program.
func some(rng *rand.Rand) api.Insn {
	r := func() api.Operand { return reg([]int{0, 1, 2, 3, 6}[rng.Intn(5)]) }
	m := func() api.Operand {
		return []api.Operand{mem(-1, 0x2000+int64(rng.Intn(4))*8), mem(6, int64(rng.Intn(3))*8), mem(-1, 0x3000), {Kind: 2, Base: 6, Index: 0, Scale: 1}}[rng.Intn(4)]
	}
	var x api.Insn
	for !encode.Right(x) {
		switch rng.Intn(9) {
		case 0:
			x = jcc(uint8(rng.Intn(16)), int64(rng.Intn(50)-25))
		case 1:
			x = mov(m(), r())
		case 2:
			x = mov(r(), m())
		case 3:
			x = mov(r(), imm(int64(rng.Intn(40))))
		case 4:
			x = api.Insn{Do: []uint8{api.DoPush, api.DoPop, api.DoInc, api.DoDec, api.DoNeg}[rng.Intn(5)], Width: 8, A: r()}
		case 5:
			x = []api.Insn{ret, call(int64(rng.Intn(40) - 20)), jmp(int64(rng.Intn(30) - 10))}[rng.Intn(3)]
		case 6:
			x = api.Insn{Do: api.DoShl + uint8(rng.Intn(5)), Width: 8, A: r(), B: imm(int64(rng.Intn(70)))}
		default:
			x = api.Insn{Do: api.DoAdd + uint8(rng.Intn(9)), Width: []int{4, 8}[rng.Intn(2)], A: r(), B: []api.Operand{r(), imm(int64(rng.Intn(200) - 100))}[rng.Intn(2)]}
		}
	}
	return x
}

func TestP25_4(t *testing.T) {
	rng := rand.New(rand.NewSource(42))
	safe := 0
	for range 3000 {
		var code []api.Insn
		for range rng.Intn(14) + 1 {
			code = append(code, some(rng))
		}
		p := pages(append(code, ret)...)
		a := first(3)
		a.V[6] = strided.One(0x2010)
		if rng.Intn(2) == 0 {
			a.Dirt = []api.Range{{Low: 0x2008, High: 0x200f}}
		}
		f := Run(p, 0x1000, a, 4000)
		if f.Why != 0 {
			continue
		}
		if !Known(p, f) || !transfer.In(a, f.Nodes[0].A) {
			t.Fatal("not Known", code)
		}
		if len(f.Leaks) > 0 {
			continue
		}
		safe++
		for range 4 {
			s := api.State{Pages: step.Own(api.State{Pages: p}).Pages}
			for i := range s.C.R {
				s.C.R[i] = rng.Uint64() >> uint(rng.Intn(64))
			}
			s.C.R[4], s.C.R[6], s.C.IP = 0x2800, 0x2010, 0x1000
			rng.Read(s.Pages[1].Data[:0x800])
			u := step.Own(s)
			u.C.R[3] = rng.Uint64() >> uint(rng.Intn(64))
			if len(a.Dirt) > 0 {
				rng.Read(u.Pages[1].Data[8:16])
			}
			if !transfer.Together(a, s, u) {
				t.Fatal("the pair does not go together")
			}
			_, l := run.Run(s, 2000)
			_, m := run.Run(u, 2000)
			if run.Differ(l, m) != -1 {
				t.Fatalf("%+v\n%v\n%v", code, l, m)
			}
		}
	}
	if safe < 300 {
		t.Error("too few", safe)
	}
}
