package search

import (
	"math/rand"
	"slices"
	"sync"
	"testing"
	"time"

	"sundial/api"
	"sundial/contract"
	"sundial/encode"
	"sundial/operand"
	"sundial/run"
	"sundial/step"
)

func pages(code ...api.Insn) []api.Page {
	b, e := encode.Code(code...)
	if e != api.OK {
		panic("code")
	}
	var l []api.Page
	for i, perm := range []uint8{5, 6} {
		l = append(l, api.Page{At: uint64(i+1) * 0x1000, Perm: perm, Data: make([]byte, 4096)})
	}
	for i := range l[1].Data {
		l[1].Data[i] = byte(i * 3)
	}
	copy(l[0].Data, b)
	return l
}

func parsed(t *testing.T, text string) api.Contract {
	t.Helper()
	c, e := contract.Parse(text)
	if e != api.OK {
		t.Fatal(text)
	}
	return c
}

var (
	ret  = api.Insn{Do: api.DoRet, Width: 8}
	load = api.Insn{Do: api.DoMov, Width: 8, A: operand.Reg(0), B: operand.Mem(3, 0)}
)

const all = "rbx secret\nxmm3 secret\nflags secret\nopen 0x2020 8\nsecret 0x2000 0x10\nrsp 0x2800\n"

func TestP27_1(t *testing.T) {
	c, p := parsed(t, all), pages(ret)
	s := contract.Make(c, p, 0x1000, 5, 6)
	s.Over = true
	was := step.Own(s)
	bare, near := step.Own(s), step.Own(s)
	bare.C.R[3], bare.C.X[3], bare.C.F = 0, [16]byte{}, api.Flags{}
	near.C.R[3] ^= 1
	near.C.X[3][0] ^= 1
	near.C.F = api.Flags{C: !s.C.F.C, Z: !s.C.F.Z, S: !s.C.F.S, O: !s.C.F.O, P: !s.C.F.P}
	for i := range 0x10 {
		bare.Pages[1].Data[i] = 0
		near.Pages[1].Data[i] ^= 1
	}
	if !step.Same(Bare(c, s), bare) || !step.Same(Near(c, s), near) || !step.Same(s, was) {
		t.Error("Bare, Near")
	}
	var open api.Contract
	if !step.Same(Bare(open, s), s) || !step.Same(Near(open, s), s) {
		t.Error("nothing is secret")
	}
	Bare(c, s).Pages[0].Data[0]++
	if !step.Same(s, was) {
		t.Error("shared")
	}
	for i := -4; i < 9; i++ {
		k := uint64(max(i, 0))
		s := contract.Make(c, p, 0x1000, contract.Word(1, k), contract.Word(2, k))
		a, b := s, s
		switch k % 3 {
		case 0:
			a = Bare(c, s)
		case 1:
			b = Near(c, s)
		default:
			b = contract.Make(c, p, 0x1000, contract.Word(1, k), contract.Word(3, k))
		}
		if x, y := Pair(c, p, 0x1000, i); !step.Same(x, a) || !step.Same(y, b) {
			t.Error("Pair", i)
		}
	}
}

func TestP27_2(t *testing.T) {
	c, p := parsed(t, all), pages(load, ret)
	s, u := Pair(c, p, 0x1000, 0)
	if n, ok := Try(s, u, 100); !ok || n != 1 {
		t.Error(n, ok)
	}
	for _, fuel := range []int{0, -5} {
		if n, ok := Try(s, u, fuel); ok || n != 0 {
			t.Error("no fuel", n, ok)
		}
	}
	over := step.Own(s)
	over.Over = true
	if n, ok := Try(s, over, 100); !ok || n != 0 {
		t.Error("a machine that is over", n, ok)
	}
	if n, ok := Try(s, s, 100); ok || n != 0 {
		t.Error("the same machine", n, ok)
	}
}

// slow finds one behind the other.
func slow(c api.Contract, p []api.Page, at uint64, tries, fuel int) (int, int, bool) {
	for i := range max(0, min(tries, api.MaxTries)) {
		s, t := Pair(c, p, at, i)
		if n, ok := Try(s, t, fuel); ok {
			return i, n, true
		}
	}
	return 0, 0, false
}

func TestP27_3(t *testing.T) {
	c := parsed(t, all)
	test := func(bit int64) []api.Insn { // goes elsewhere, if all bits of RBX that are looked at are noughts
		return []api.Insn{{Do: api.DoTest, Width: 8, A: operand.Reg(3), B: encode.Imm(bit)}, {Do: api.DoJcc, Cond: 4, Width: 8, B: encode.Imm(1)}, {Do: api.DoNop, Width: 8}, ret}
	}
	for i, code := range [][]api.Insn{{load, ret}, {ret}, test(1), test(6), test(0x70000000), test(0x7fffffff)} {
		p := pages(code...)
		for _, tries := range []int{-1, 0, 1, 2, 3, 10, 200, 1 << 62} {
			for _, fuel := range []int{0, 3, 50} {
				at, n, ok := slow(c, p, 0x1000, tries, fuel)
				s, u, m, found := Find(c, p, 0x1000, tries, fuel)
				a, b := api.State{}, api.State{}
				if ok {
					a, b = Pair(c, p, 0x1000, at)
				}
				if found != ok || m != n || !step.Same(s, a) || !step.Same(u, b) {
					t.Fatal(i, tries, fuel, found, m, n)
				}
			}
		}
	}
}

// TestLowest finds the lowest number, however late it is come to.
func TestLowest(t *testing.T) {
	rng := rand.New(rand.NewSource(46))
	for range 300 {
		many := rng.Intn(60)
		var good []int
		for range rng.Intn(4) {
			good = append(good, rng.Intn(60))
		}
		slices.Sort(good)
		var lock sync.Mutex
		running := 0
		got, ok := lowest(many, func(i int) (int, bool) {
			lock.Lock()
			running++
			lock.Unlock()
			for k := range (60 - i) * 200 { // the higher, the sooner
				_ = k * k
			}
			lock.Lock()
			running--
			lock.Unlock()
			return i, slices.Contains(good, i)
		}, nil)
		if running != 0 {
			t.Fatal("not joined")
		}
		if want := len(good) > 0 && good[0] < many; ok != want || ok && got != good[0] || !ok && got != 0 {
			t.Fatal(many, good, got, ok)
		}
	}
}

// TestUntil is told to stop: nothing is found, and nobody works any more.
func TestUntil(t *testing.T) {
	stop := make(chan struct{})
	tried := 0
	var lock sync.Mutex
	if _, ok := lowest(200, func(i int) (int, bool) {
		lock.Lock()
		defer lock.Unlock()
		if tried++; tried == 5 {
			close(stop)
		}
		return i, i == 199
	}, stop); ok && tried < 200 {
		t.Error("found behind the stop", tried)
	}
	c, p := parsed(t, all), pages(load, ret)
	closed := make(chan struct{})
	close(closed)
	if _, ok := lowest(3, func(i int) (int, bool) {
		time.Sleep(100 * time.Millisecond)
		return i, true
	}, closed); ok {
		t.Error("found, and yet it was to stop ahead of it")
	}
	Until(closed, c, p, 0x1000, 200, 100)
}

func TestP27_4(t *testing.T) {
	rng := rand.New(rand.NewSource(47))
	for i := range 60 {
		c := parsed(t, all)
		for k := range c.R {
			if rng.Intn(3) == 0 && k != 4 {
				c.R[k] = api.Part{Kind: api.PartSecret}
			}
		}
		c.Flags = uint8(rng.Intn(2))
		p := pages(load, ret)
		if s, u := Pair(c, p, 0x1000, i); !contract.Low(c, p, s, u) {
			t.Fatal("the pair does not go by it", i)
		}
	}
	c, p := parsed(t, "rsp 0x2800\nopen 0x2000 16"), pages(load, ret)
	if s, u, n, ok := Find(c, p, 0x1000, 200, 100); ok || n != 0 || len(s.Pages)+len(u.Pages) != 0 {
		t.Error("without secrets something is found")
	}
	c = parsed(t, all)
	s, u, n, ok := Find(c, p, 0x1000, 200, 100)
	_, a := run.Run(s, 100)
	_, b := run.Run(u, 100)
	if !ok || run.Differ(a, b) != n {
		t.Error("what is found does not differ there", n)
	}
}
