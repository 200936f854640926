package verdict

import (
	"math/rand"
	"reflect"
	"slices"
	"testing"

	"sundial/api"
	"sundial/contract"
	"sundial/encode"
	"sundial/operand"
	"sundial/run"
	"sundial/step"
	"sundial/writer"
)

func reg(r int) api.Operand { return operand.Reg(r) }

func imm(n int64) api.Operand { return encode.Imm(n) }

func mem(base int, disp int64) api.Operand { return operand.Mem(base, disp) }

func mov(a, b api.Operand) api.Insn { return api.Insn{Do: api.DoMov, Width: 8, A: a, B: b} }

func jcc(c uint8, n int64) api.Insn { return api.Insn{Do: api.DoJcc, Cond: c, Width: 8, B: imm(n)} }

var (
	nop  = api.Insn{Do: api.DoNop, Width: 8}
	ret  = api.Insn{Do: api.DoRet, Width: 8}
	full = api.Limits{Steps: api.MaxBudget, Tries: api.MaxTries, Fuel: api.MaxFuel}
)

// object is code at 0x1000, where f stands, bytes at 0x2000, and noughts at 0x3000.
func object(code ...api.Insn) []byte {
	b, e := encode.Code(code...)
	if e != api.OK {
		panic("code")
	}
	p := api.Image{Symbols: []api.Symbol{{Name: "f", At: 0x1000, Func: true, Size: uint64(len(b))}, {Name: "d", At: 0x2000}}}
	for i, perm := range []uint8{5, 6, 6} {
		p.Pages = append(p.Pages, api.Page{At: uint64(i+1) * 0x1000, Perm: perm, Data: make([]byte, 4096)})
	}
	copy(p.Pages[0].Data, b)
	o, e := writer.Write(p, 0x1000)
	if e != api.OK {
		panic("object")
	}
	return o
}

const secret = "rsp 0x3800\nrbx secret\n"

var examples = []struct {
	code  []api.Insn
	text  string
	kind  uint8
	at    int
	why   uint8
	leaks []api.Leak
}{
	{[]api.Insn{{Do: api.DoAdd, Width: 8, A: reg(0), B: reg(3)}, ret}, secret, api.VdSafe, 0, 0, nil},
	{[]api.Insn{mov(reg(0), mem(3, 0)), ret}, secret, api.VdUnsafe, 1, 0, nil},
	{[]api.Insn{{Do: api.DoTest, Width: 8, A: reg(3), B: reg(3)}, jcc(4, 1), nop, ret}, secret, api.VdUnsafe, 2, 0, nil},
	{[]api.Insn{{Do: api.DoTest, Width: 8, A: reg(3), B: reg(3)}, jcc(4, 0), ret}, secret, api.VdSafe, 0, 0, nil},
	{[]api.Insn{{Do: api.DoDiv, Width: 8, A: reg(3)}, ret}, secret, api.VdUnsafe, 1, 0, nil},
	{[]api.Insn{{Do: api.DoXor, Width: 8, A: reg(3), B: reg(3)}, mov(reg(0), mem(3, 0)), ret}, secret, api.VdSafe, 0, 0, nil},
	{[]api.Insn{mov(mem(-1, 0x2000), reg(3)), mov(reg(0), mem(-1, 0x2000)), mov(reg(0), mem(0, 0)), ret}, secret, api.VdUnsafe, 5, 0, nil},
	{[]api.Insn{{Do: api.DoJmp, Width: 8, A: reg(0)}}, secret, api.VdUnknown, 0, api.WhyJump, nil},
	{[]api.Insn{{Do: api.DoMov, Width: 4, A: reg(1), B: imm(10)}, {Do: api.DoShl, Width: 8, A: reg(3), B: imm(1)}, {Do: api.DoAdd, Width: 8, A: reg(0), B: reg(3)}, {Do: api.DoDec, Width: 4, A: reg(1)}, jcc(5, -14), ret}, secret, api.VdSafe, 0, 0, nil},
	{[]api.Insn{{Do: api.DoPop, Width: 8, A: reg(4)}, ret}, "rsp 0x3800", api.VdUnknown, 0, api.WhyReturn, nil},
	// A leak that no pair shows: the branch goes the same way for all but one word in 2^64.
	{[]api.Insn{mov(reg(0), imm(0x123456789abcdef0)), {Do: api.DoCmp, Width: 8, A: reg(3), B: reg(0)}, jcc(4, 1), nop, ret}, secret, api.VdUnknown, 0, 0, []api.Leak{{At: 0x100d, Kind: api.LeakBranch}}},
	{[]api.Insn{mov(reg(0), mem(3, 0)), ret}, "rsp 0x3800", api.VdSafe, 0, 0, nil},
	{[]api.Insn{mov(reg(0), mem(-1, 0x2000)), mov(reg(0), mem(0, 0)), ret}, "rsp 0x3800\nsecret 0x2007 1", api.VdUnsafe, 3, 0, nil},
	{[]api.Insn{ret}, "rsp 0x3800\nsecret 0x3807 1", api.VdUnsafe, 2, 0, nil},
}

func TestP28_2(t *testing.T) {
	for i, c := range examples {
		b := object(c.code...)
		v := Analyse(b, "f", c.text, full)
		if v.Kind != c.kind || v.At != c.at || v.Why != c.why || v.E != 0 || !slices.Equal(v.Leaks, c.leaks) {
			t.Error(i, v.Kind, v.At, v.Why, v.Leaks)
		}
		x, e := Read(b, "f", c.text)
		if e != api.OK || !Same(Of(x, full), v) {
			t.Error("Of", i, e)
		}
		if c.kind != api.VdUnsafe {
			if !step.Same(v.S, api.State{}) || !step.Same(v.T, api.State{}) {
				t.Error("machines are told", i)
			}
			continue
		}
		_, l := run.Run(v.S, api.MaxFuel)
		_, m := run.Run(v.T, api.MaxFuel)
		if run.Differ(l, m) != v.At || !contract.Low(x.C, x.Pages, v.S, v.T) || v.S.C.IP != x.At || v.T.C.IP != x.At {
			t.Error("the machines", i)
		}
	}
}

func TestP28_1(t *testing.T) {
	b := object(ret)
	x, e := Read(b, "f", "rax secret\nsecret 0x2000 5")
	if e != api.OK || x.At != 0x1000 || len(x.Pages) != 3 || x.C.R[0].Kind != api.PartSecret || len(x.C.Secret) != 1 {
		t.Error(x.At, e)
	}
	for i, c := range []struct {
		b          []byte
		name, text string
		want       api.Errno
	}{
		{nil, "f", "", api.ErrShort}, {nil, "g", "x", api.ErrShort}, {make([]byte, 64), "f", "", api.ErrMagic}, {b, "g", "", api.ErrName}, {b, "d", "x", api.ErrName}, {b, "", "", api.ErrName},
		{b, "f", "x", api.ErrArg}, {b, "f", "secret 0x1000 1", api.ErrArg}, {b, "f", "open 0x3fff 2", api.ErrArg}, {append(make([]byte, 1<<17), 0), "f", "", api.ErrArg},
	} {
		x, e := Read(c.b, c.name, c.text)
		if e != c.want || !reflect.DeepEqual(x, api.Input{}) {
			t.Error(i, e)
		}
		if v := Analyse(c.b, c.name, c.text, full); !reflect.DeepEqual(v, api.Verdict{Kind: api.VdReject, E: c.want}) {
			t.Error(i, v.Kind, v.E)
		}
	}
	v := Analyse(object(mov(reg(0), mem(3, 0)), ret), "f", secret, full)
	for i, change := range []func(*api.Verdict){
		func(v *api.Verdict) { v.Kind++ }, func(v *api.Verdict) { v.E++ }, func(v *api.Verdict) { v.At++ }, func(v *api.Verdict) { v.Why++ }, func(v *api.Verdict) { v.Leaks = []api.Leak{{}} }, func(v *api.Verdict) { v.S.C.IP++ }, func(v *api.Verdict) { v.T.Pages = nil },
	} {
		w := v
		if !Same(v, w) {
			t.Error("the same")
		}
		if change(&w); Same(v, w) {
			t.Error("Same", i)
		}
	}
}

func TestP28_3(t *testing.T) {
	rng := rand.New(rand.NewSource(48))
	rank := func(l api.Limits, b []byte, text string) uint8 { return Analyse(b, "f", text, l).Kind }
	for i, c := range examples {
		b := object(c.code...)
		was := uint8(api.VdUnknown)
		for n := range 5 {
			l := api.Limits{Steps: n * n * 8, Tries: n, Fuel: n * n * 4}
			k := rank(l, b, c.text)
			if was == api.VdSafe && k != api.VdSafe || was == api.VdUnsafe && k == api.VdSafe {
				t.Error("greater limits", i, n, was, k)
			}
			was = k
		}
		for range 3 {
			if v := Analyse(b, "f", c.text, full); v.Kind == api.VdSafe {
				x, _ := Read(b, "f", c.text)
				s := contract.Make(x.C, x.Pages, x.At, 7, rng.Uint64())
				u := contract.Make(x.C, x.Pages, x.At, 7, rng.Uint64())
				_, l := run.Run(s, 3000)
				_, m := run.Run(u, 3000)
				if run.Differ(l, m) != -1 {
					t.Error("safe, and yet", i)
				}
			}
		}
	}
	if v := Analyse(object(ret), "f", secret, api.Limits{Steps: -1, Tries: -1, Fuel: -1}); v.Kind != api.VdUnknown || v.Why != api.WhyLong {
		t.Error("limits below 0", v.Kind, v.Why)
	}
	odd := api.Input{Pages: []api.Page{{At: 3, Perm: 7, Data: []byte{0xeb, 0xfe}}}, At: 3}
	odd.C.Secret = []api.Range{{Low: 9, High: 2}}
	Of(odd, api.Limits{Steps: 50, Tries: 5, Fuel: 50})
	Of(api.Input{}, full)
}
