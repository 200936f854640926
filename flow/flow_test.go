package flow

import (
	"math/rand"
	"reflect"
	"slices"
	"testing"

	"sundial/api"
	"sundial/encode"
	"sundial/facts"
	"sundial/operand"
	"sundial/step"
)

func pages(at uint64, code ...api.Insn) []api.Page {
	b, e := encode.Code(code...)
	if e != api.OK {
		panic("code")
	}
	data := make([]byte, 4096)
	for i := range data {
		data[i] = 0xcc
	}
	copy(data, b)
	return []api.Page{{At: at, Perm: 5, Data: data}}
}

var (
	nop = api.Insn{Do: api.DoNop, Width: 8}
	ret = api.Insn{Do: api.DoRet, Width: 8}
)

func jmp(n int64) api.Insn { return api.Insn{Do: api.DoJmp, Width: 8, B: encode.Imm(n)} }

func jz(n int64) api.Insn {
	return api.Insn{Do: api.DoJcc, Cond: 4, Width: 8, B: encode.Imm(n)}
}

func call(n int64) api.Insn { return api.Insn{Do: api.DoCall, Width: 8, B: encode.Imm(n)} }

func TestSmall(t *testing.T) {
	f := Find(pages(0x1000, ret), 0x1000)
	if !reflect.DeepEqual(f, api.Flow{Places: []api.Place{{At: 0x1000, X: api.Insn{Do: api.DoRet, Width: 8, Len: 1}}}, Blocks: []api.Block{{From: 0, Many: 1}}}) {
		t.Errorf("%+v", f)
	}
	f = Find(nil, 0x1000)
	if len(f.Places)+len(f.Blocks) != 0 || f.Entry != -1 || !slices.Equal(f.Bad, []uint64{0x1000}) || f.Large {
		t.Errorf("%+v", f)
	}
	f = Find(pages(0, ret), 0, 0)
	if len(f.Places)+len(f.Blocks)+len(f.Bad) != 0 || f.Entry != -1 {
		t.Errorf("the address 0: %+v", f)
	}
}

// shape is a flow's blocks as text addresses.
func shape(f api.Flow) (l [][]uint64, next [][]int) {
	for _, b := range f.Blocks {
		var a []uint64
		for _, p := range f.Places[b.From : b.From+b.Many] {
			a = append(a, p.At)
		}
		l, next = append(l, a), append(next, b.Next)
	}
	return l, next
}

func TestP18_1(t *testing.T) {
	// 1000 nop; 1001 jz 1008; 1007 nop; 1008 nop; 1009 jmp 1000
	f := Find(pages(0x1000, nop, jz(1), nop, nop, jmp(-14)), 0x1000)
	l, next := shape(f)
	if !reflect.DeepEqual(l, [][]uint64{{0x1000, 0x1001}, {0x1007}, {0x1008, 0x1009}}) || !reflect.DeepEqual(next, [][]int{{1, 2}, {2}, {0}}) || f.Entry != 0 || len(f.Bad) != 0 {
		t.Error(l, next, f.Entry, f.Bad)
	}
	// A block goes on over places one of which is told as an entry, or not.
	code := pages(0x1000, nop, nop, nop, ret)
	if l, _ := shape(Find(code, 0x1000)); !reflect.DeepEqual(l, [][]uint64{{0x1000, 0x1001, 0x1002, 0x1003}}) {
		t.Error(l)
	}
	f = Find(code, 0x1002, 0x1000, 0, 0x1002, 0x7000, 0x2000)
	if l, next := shape(f); !reflect.DeepEqual(l, [][]uint64{{0x1000, 0x1001}, {0x1002, 0x1003}}) || !reflect.DeepEqual(next, [][]int{{1}, nil}) || f.Entry != 1 || !slices.Equal(f.Bad, []uint64{0x2000, 0x7000}) {
		t.Error(l, next, f.Entry, f.Bad)
	}
	// Behind a call it goes on; a jump over nothing has one next block.
	f = Find(pages(0x1000, call(2), nop, ret, jz(0), ret), 0x1000)
	if l, next := shape(f); !reflect.DeepEqual(l, [][]uint64{{0x1000}, {0x1005, 0x1006}, {0x1007}, {0x100d}}) || !reflect.DeepEqual(next, [][]int{{1, 2}, nil, {3}, nil}) {
		t.Error(l, next)
	}
	// A jump by a register, and one into nothing.
	f = Find(pages(0x1000, jz(5), jmp(0x2000), api.Insn{Do: api.DoJmp, Width: 8, A: operand.Reg(0)}), 0x1000)
	if l, next := shape(f); !reflect.DeepEqual(l, [][]uint64{{0x1000}, {0x1006}, {0x100b}}) || !reflect.DeepEqual(next, [][]int{{1, 2}, nil, nil}) || !slices.Equal(f.Bad, []uint64{0x300b}) {
		t.Error(l, next, f.Bad)
	}
}

func TestMaxFound(t *testing.T) {
	var l []api.Insn
	for range api.MaxFound {
		l = append(l, nop)
	}
	f := Find(pages(0x1000, l...), 0x1000)
	if len(f.Places) != api.MaxFound || f.Large || !slices.Equal(f.Bad, []uint64{0x1000 + api.MaxFound}) {
		t.Error("as many as may be", len(f.Places), f.Large, f.Bad)
	}
	f = Find(pages(0x1000, append(l, ret)...), 0x1000)
	if len(f.Places) != api.MaxFound || !f.Large || len(f.Bad) != 0 {
		t.Error("one more", len(f.Places), f.Large, f.Bad)
	}
	f = Find(pages(0x1000, append(l, ret)...), 0x1001, 0x1000, 0x8000)
	if len(f.Places) != api.MaxFound || !f.Large || !slices.Equal(f.Bad, []uint64{0x8000}) {
		t.Error("what is told comes ahead", len(f.Places), f.Large, f.Bad)
	}
}

// TestBehindTooMany: what waits behind the one that is too many is not looked at, bad ones neither.
func TestBehindTooMany(t *testing.T) {
	l := slices.Repeat([]api.Insn{nop}, api.MaxFound-1)
	f := Find(pages(0x1000, append(l, jz(0x4000), ret)...), 0x1000)
	if len(f.Places) != api.MaxFound || !f.Large || len(f.Bad) != 0 {
		t.Error(len(f.Places), f.Large, f.Bad)
	}
}

func TestP18_2(t *testing.T) {
	f := Find(pages(0x1000, nop, jz(1), nop, nop, jmp(-14)), 0x1000)
	text := Text(f)
	if !slices.Equal(text, []uint64{0x1000, 0x1001, 0x1007, 0x1008, 0x1009}) {
		t.Error(text)
	}
	for i, at := range text {
		if At(f, at) != i || Block(f, i) != []int{0, 0, 1, 2, 2}[i] {
			t.Error(i, At(f, at), Block(f, i))
		}
	}
	for _, i := range []int{-1, 5, 1 << 62, -1 << 63} {
		if Block(f, i) != -1 {
			t.Error("Block", i)
		}
	}
	if At(f, 0x1002) != -1 || At(api.Flow{}, 0) != -1 || Block(api.Flow{}, 0) != -1 || len(Text(api.Flow{})) != 0 {
		t.Error("nothing")
	}
	if Block(api.Flow{Blocks: []api.Block{{Many: 9}}}, 0) != -1 || Block(api.Flow{Places: make([]api.Place, 3), Blocks: []api.Block{{Many: 9}}}, 3) != -1 {
		t.Error("no place")
	}
	odd := api.Flow{Places: make([]api.Place, 3), Blocks: []api.Block{{From: -1 << 63, Many: 1<<63 - 1}, {From: 1 << 62, Many: 1 << 62}, {From: 2, Many: -1}, {From: 1, Many: 1}}}
	for i, want := range []int{-1, 3, -1} {
		if Block(odd, i) != want {
			t.Error("odd", i, Block(odd, i))
		}
	}
}

// goes tells where a place goes on.
func goes(p api.Place) []uint64 {
	l := facts.Targets(p.X, p.At)
	if p.X.Do == api.DoCall {
		l = append([]uint64{p.At + uint64(p.X.Len)}, l...)
	}
	return l
}

func TestP18_3(t *testing.T) {
	rng := rand.New(rand.NewSource(27))
	for range 2000 {
		var code []api.Insn
		for range rng.Intn(25) + 1 {
			switch n := int64(rng.Intn(60) - 30); rng.Intn(6) {
			case 0:
				code = append(code, jmp(n))
			case 1, 2:
				code = append(code, jz(n))
			case 3:
				code = append(code, []api.Insn{ret, call(n)}[rng.Intn(2)])
			default:
				code = append(code, nop)
			}
		}
		p := pages(0x1000, code...)
		entry := 0x1000 + uint64(rng.Intn(10))
		more := []uint64{0x1000 + uint64(rng.Intn(30)), uint64(rng.Intn(2)) * 0x1003}
		f := Find(p, entry, more...)
		entries := append([]uint64{entry}, more...)
		found := map[uint64]bool{}
		from := map[uint64]map[uint64]bool{}
		begins := map[uint64]bool{}
		for _, at := range entries {
			found[at], begins[at] = true, true
		}
		byAt := map[uint64]api.Place{}
		for _, x := range f.Places {
			if _, ok := byAt[x.At]; ok {
				t.Fatal("a place twice")
			}
			byAt[x.At] = x
			y, e := step.At(api.State{C: api.CPU{IP: x.At}, Pages: p})
			if y != x.X || e != api.FaultNone {
				t.Fatal("no instruction there", x)
			}
			l := goes(x)
			for _, to := range l {
				found[to] = true
				if from[to] == nil {
					from[to] = map[uint64]bool{}
				}
				from[to][x.At] = true
				if len(l) > 1 || facts.Of(x.X).Ends {
					begins[to] = true
				}
			}
		}
		delete(found, 0)
		if len(found) != len(f.Places)+len(f.Bad) || !slices.IsSorted(f.Bad) {
			t.Fatal("found", len(found), len(f.Places), f.Bad)
		}
		for _, at := range f.Bad {
			if _, ok := byAt[at]; ok || !found[at] {
				t.Fatal("bad", at)
			}
		}
		many, last := 0, uint64(0)
		for i, b := range f.Blocks {
			if b.From != many || b.Many < 1 || f.Places[b.From].At <= last {
				t.Fatal("order of blocks", f.Blocks)
			}
			many += b.Many
			last = f.Places[b.From].At
			for k := b.From; k < many; k++ {
				at := f.Places[k].At
				if start := begins[at] || len(from[at]) != 1; start != (k == b.From) {
					t.Fatal("begins", at)
				}
				l := goes(f.Places[k])
				if k+1 < many && (len(l) != 1 || l[0] != f.Places[k+1].At) {
					t.Fatal("a block that does not go on", at)
				}
			}
			var next []int
			for _, to := range goes(f.Places[many-1]) {
				if _, ok := byAt[to]; ok {
					next = append(next, Block(f, At(f, to)))
					if f.Places[f.Blocks[next[len(next)-1]].From].At != to {
						t.Fatal("into a block", to)
					}
				}
			}
			slices.Sort(next)
			if !slices.Equal(slices.Compact(next), b.Next) {
				t.Fatal("next", i, next, b.Next)
			}
		}
		if many != len(f.Places) || f.Entry != Block(f, At(f, entry)) {
			t.Fatal("places", many, f.Entry)
		}
	}
}
