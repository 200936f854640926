package contract

import (
	"math/rand"
	"reflect"
	"slices"
	"strings"
	"testing"

	"sundial/api"
	"sundial/step"
	"sundial/strided"
	"sundial/transfer"
	"sundial/vector"
)

const top = ^uint64(0)

func r(low, high uint64) api.Range { return api.Range{Low: low, High: high} }

// pages are code at 0x1000, bytes at 0x2000 and 0x3000 that can be written, and one at 0x5000 that can't.
func pages() []api.Page {
	var l []api.Page
	for i, perm := range []uint8{5, 6, 6, 4} {
		p := api.Page{At: []uint64{0x1000, 0x2000, 0x3000, 0x5000}[i], Perm: perm, Data: make([]byte, 4096)}
		for k := range p.Data[:0x800] {
			p.Data[k] = byte(k + i)
		}
		l = append(l, p)
	}
	return l
}

func TestP26_1Parse(t *testing.T) {
	want := api.Contract{Flags: api.PartSecret, Open: []api.Range{r(0x2000, 0x2007)}, Secret: []api.Range{r(0x2010, 0x2021), r(top, top)}}
	want.R[0], want.R[4], want.R[15], want.X[0], want.X[15] = api.Part{Kind: api.PartSecret}, api.Part{Kind: api.PartFixed, N: 0x2800}, api.Part{Kind: api.PartFixed}, api.Part{Kind: api.PartSecret}, api.Part{Kind: api.PartFixed, N: top}
	text := "rax secret\n\n# a remark\nrsp 0x2800\nr15 0\nxmm0 secret\nxmm15 18446744073709551615\nflags secret\nrbx open\nopen 8192 8\nsecret 0x2010 0x0000000000000010\nsecret 0x2020 2\nsecret 0xffffffffffffffff 1"
	for _, end := range []string{"", "\n", "\n\n", "\n#"} {
		if c, e := Parse(text + end); e != api.OK || !Same(c, want) {
			t.Error(c, e)
		}
	}
	for _, nothing := range []string{"", "\n", "#", "# rax secret\n\n\n", "flags open\nrax open\nxmm3 open"} {
		if c, e := Parse(nothing); e != api.OK || !Same(c, api.Contract{}) {
			t.Errorf("%q: %v %d", nothing, c, e)
		}
	}
	for i, name := range strings.Fields("rax rcx rdx rbx rsp rbp rsi rdi r8 r9 r10 r11 r12 r13 r14 r15") {
		if c, e := Parse(name + " secret"); e != api.OK || c.R[i].Kind != api.PartSecret {
			t.Error(name, e)
		}
	}
	if c, e := Parse("secret 0xfffffffffffffffe 2\nopen 0 0xfffffffffffffffe"); e != api.OK || !slices.Equal(c.Secret, []api.Range{r(top-1, top)}) || !slices.Equal(c.Open, []api.Range{r(0, top-2)}) {
		t.Error("up to the last one of all", c, e)
	}
	for text, want := range map[string]api.Range{"secret 18446744073709551600 16": r(top-15, top), "secret 18446744073709551615 1": r(top, top), "secret 1 18446744073709551615": r(1, top), "secret 0 18446744073709551615": r(0, top-1)} {
		if c, e := Parse(text); e != api.OK || !slices.Equal(c.Secret, []api.Range{want}) {
			t.Error(text, c, e)
		}
	}
	for _, wrong := range []string{
		"secret 18446744073709551615 2", "open 0xffffffffffffffff 0x2", "secret 0xfffffffffffffffe 9", "secret 2 18446744073709551615", "open 18446744073709551600 17", "open 0xffffffffffffffff 0xffffffffffffffff", "rax secret\nsecret 0xffffffffffffffff 2\n",
		"rax", "rax ", " rax secret", "rax  secret", "rax secret ", "rax secret\r", "RAX secret", "rax Secret", "r0 secret", "r7 open", "r08 open", "r16 open", "xmm16 open", "xmm open", "xmm01 open", "eax secret", "rip 5", "flags 5", "flags 0", "flags", "rax fixed",
		"rax 05", "rax 00", "rax 0x", "rax 0xA", "rax 0X1", "rax 0x00000000000000001", "rax 18446744073709551616", "rax -1", "rax +1", "rax 1_0", "rax 1a", "rax 0x1g", "rax 0b1",
		"rax secret\nrax secret", "rax secret\nrax open", "rax open\nrax 5", "xmm1 5\nxmm1 5", "flags open\nflags open",
		"open 5", "open 5 0", "open 5 1 1", "secret x 1", "secret 1 x", "fixed 1 1", "rax 1 1", "open open 1", "open 1 0x10000000000000000", "open 8 8\nsecret 15 1", " ", "\t", "secret", "rax secret#", " # remark",
	} {
		if c, e := Parse(wrong); e != api.ErrArg || !reflect.DeepEqual(c, api.Contract{}) {
			t.Errorf("%q: %v %d", wrong, c, e)
		}
	}
	long := strings.Repeat("#", 20000)
	if _, e := Parse(long); e != api.OK {
		t.Error("20000 bytes", e)
	}
	if _, e := Parse(long + "#"); e != api.ErrArg {
		t.Error("20001 bytes", e)
	}
}

func TestP26_1Text(t *testing.T) {
	var c api.Contract
	c.R[1], c.R[8], c.R[4] = api.Part{Kind: api.PartSecret}, api.Part{Kind: api.PartFixed}, api.Part{Kind: api.PartFixed, N: 0xabc}
	c.X[2], c.X[10] = api.Part{Kind: api.PartFixed, N: top}, api.Part{Kind: api.PartSecret}
	c.Flags = api.PartSecret
	c.Open, c.Secret = []api.Range{r(0, 0), r(2, 3)}, []api.Range{r(5, top)}
	want := "rcx secret\nrsp 0xabc\nr8 0x0\nxmm2 0xffffffffffffffff\nxmm10 secret\nflags secret\nopen 0x0 0x1\nopen 0x2 0x2\nsecret 0x5 0xfffffffffffffffb\n"
	if s, e := Text(c); s != want || e != api.OK {
		t.Error(s, e)
	}
	if s, e := Text(api.Contract{}); s != "" || e != api.OK {
		t.Error(s, e)
	}
	c.R[0].N = 1
	if s, e := Text(c); s != "" || e != api.ErrArg {
		t.Error(s, e)
	}
	all := api.Contract{Secret: []api.Range{r(0, top)}}
	if s, e := Text(all); s != "secret 0x0 0x8000000000000000\nsecret 0x8000000000000000 0x8000000000000000\n" || e != api.OK {
		t.Error(s, e)
	}
}

// some makes a contract that may be; its ranges are in pages that can be written.
func some(rng *rand.Rand) api.Contract {
	var c api.Contract
	part := func() api.Part {
		k := uint8(rng.Intn(3))
		if k == api.PartFixed {
			return api.Part{Kind: k, N: rng.Uint64() >> uint(rng.Intn(64))}
		}
		return api.Part{Kind: k}
	}
	for i := range 16 {
		c.R[i], c.X[i] = part(), part()
	}
	if rng.Intn(2) == 0 {
		c.R[4] = api.Part{Kind: api.PartFixed, N: uint64(0x2780 + rng.Intn(0x100))}
	}
	c.Flags = uint8(rng.Intn(2))
	at := uint64(0x2000)
	for range rng.Intn(5) {
		low := at + uint64(rng.Intn(0x600))
		x := r(low, low+uint64(rng.Intn(40)))
		if at = x.High + 2; at >= 0x3f00 {
			break
		}
		if rng.Intn(2) == 0 {
			c.Open = append(c.Open, x)
		} else {
			c.Secret = append(c.Secret, x)
		}
	}
	return c
}

func TestP26_5Text(t *testing.T) {
	rng := rand.New(rand.NewSource(43))
	for range 500 {
		c := some(rng)
		s, e := Text(c)
		d, e2 := Parse(s)
		if e != api.OK || e2 != api.OK || !Same(c, d) || !Right(c) {
			t.Fatal(c, s, d, e, e2)
		}
	}
	all := api.Contract{Secret: []api.Range{r(0, top)}}
	s, _ := Text(all)
	if d, e := Parse(s); e != api.OK || !Same(d, all) {
		t.Error("all there is", d, e)
	}
}

func TestP26_2Right(t *testing.T) {
	for i, c := range []struct {
		change func(*api.Contract)
		right  bool
		fits   bool
	}{
		{func(c *api.Contract) {}, true, true},
		{func(c *api.Contract) { c.R[3].Kind = 3 }, false, false}, {func(c *api.Contract) { c.X[3].Kind = 255 }, false, false}, {func(c *api.Contract) { c.R[3].N = 1 }, false, false}, {func(c *api.Contract) { c.X[3] = api.Part{Kind: 1, N: 1} }, false, false},
		{func(c *api.Contract) { c.R[3] = api.Part{Kind: 2, N: 1} }, true, true}, {func(c *api.Contract) { c.Flags = 1 }, true, true}, {func(c *api.Contract) { c.Flags = 2 }, false, false},
		{func(c *api.Contract) { c.Open = []api.Range{r(3, 2)} }, false, false}, {func(c *api.Contract) { c.Secret = []api.Range{r(3, 4), r(5, 6)} }, false, false},
		{func(c *api.Contract) {
			c.Open, c.Secret = []api.Range{r(0x2000, 0x2001)}, []api.Range{r(0x2002, 0x3fff)}
		}, true, true},
		{func(c *api.Contract) {
			c.Open, c.Secret = []api.Range{r(0x2000, 0x2002)}, []api.Range{r(0x2002, 0x3fff)}
		}, false, false},
		{func(c *api.Contract) {
			c.Open, c.Secret = []api.Range{r(0, 1), r(0x20, 0x21)}, []api.Range{r(3, 4), r(0x10, 0x20)}
		}, false, false},
		{func(c *api.Contract) { c.Secret = []api.Range{r(0x1fff, 0x2000)} }, true, false}, {func(c *api.Contract) { c.Secret = []api.Range{r(0x3fff, 0x4000)} }, true, false}, {func(c *api.Contract) { c.Open = []api.Range{r(0x5000, 0x5000)} }, true, false}, {func(c *api.Contract) { c.Open = []api.Range{r(0, top)} }, true, false}, {func(c *api.Contract) { c.Open = []api.Range{r(0x2000, 0x3fff)} }, true, true},
	} {
		var x api.Contract
		if c.change(&x); Right(x) != c.right || Fits(x, pages()) != c.fits {
			t.Error(i, Right(x), Fits(x, pages()))
		}
	}
	if !Fits(api.Contract{}, nil) || Fits(api.Contract{}, []api.Page{{At: 1}}) {
		t.Error("Fits")
	}
}

func TestP26_2Low(t *testing.T) {
	var c api.Contract
	c.R[1], c.R[2], c.X[1], c.X[2] = api.Part{Kind: 1}, api.Part{Kind: 2, N: 7}, api.Part{Kind: 1}, api.Part{Kind: 2, N: 9}
	c.Open, c.Secret = []api.Range{r(0x2000, 0x200f)}, []api.Range{r(0x2010, 0x201f)}
	good := func() (s, t api.State) {
		s = api.State{Pages: pages()}
		s.C.R[2], s.C.X[2] = 7, vector.Block(9, 0)
		s.C.R[0], s.C.R[1], s.C.F.Z = 5, 6, true
		s.Pages[1].Data[0], s.Pages[1].Data[0x10] = 99, 98
		t = step.Own(s)
		t.C.R[1], t.C.X[1][3], t.C.IP = 77, 3, 5
		t.Pages[1].Data[0x10] = 97
		return s, t
	}
	if s, u := good(); !Low(c, pages(), s, u) {
		t.Error("they go by it")
	}
	for i, change := range []func(s, t *api.State){
		func(s, t *api.State) { s.Over = true }, func(s, t *api.State) { t.Over = true }, func(s, t *api.State) { s.Pages = s.Pages[:3] }, func(s, t *api.State) { t.Pages = nil },
		func(s, t *api.State) { s.Pages[0].At, t.Pages[0].At = 0, 0 }, func(s, t *api.State) { s.Pages[0].Perm, t.Pages[0].Perm = 4, 4 }, func(s, t *api.State) { s.Pages[0].Data, t.Pages[0].Data = nil, nil },
		func(s, t *api.State) { s.C.R[0] = 4 }, func(s, t *api.State) { s.C.R[2], t.C.R[2] = 8, 8 }, func(s, t *api.State) { s.C.R[2] = 8 }, func(s, t *api.State) { t.C.R[2] = 8 }, func(s, t *api.State) { t.C.X[2][0] = 8 },
		func(s, t *api.State) { s.Pages[0].At = 0 }, func(s, t *api.State) { t.Pages[0].At = 0 }, func(s, t *api.State) { s.Pages[0].Perm = 4 }, func(s, t *api.State) { t.Pages[0].Perm = 4 }, func(s, t *api.State) { s.Pages[0].Data = nil }, func(s, t *api.State) { t.Pages[0].Data = nil }, func(s, t *api.State) { s.C.X[2][15], t.C.X[2][15] = 1, 1 }, func(s, t *api.State) { t.C.X[0][0] = 1 }, func(s, t *api.State) { t.C.F.O = true },
		func(s, t *api.State) { s.Pages[1].Data[0] = 1 }, func(s, t *api.State) { s.Pages[1].Data[0x20], t.Pages[1].Data[0x20] = 0, 0 }, func(s, t *api.State) { s.Pages[3].Data[9]++ },
	} {
		s, u := good()
		if change(&s, &u); Low(c, pages(), s, u) {
			t.Error(i)
		}
	}
	s, u := good()
	u.C.F.O, c.Flags = true, api.PartSecret
	if !Low(c, pages(), s, u) {
		t.Error("secret flags")
	}
	c.R[0].N = 1
	if Low(c, pages(), s, u) {
		t.Error("a contract that may not be")
	}
}

func TestWord(t *testing.T) {
	for _, c := range [][2]uint64{{0, 0}, {1, 0}, {5, 16}, {top, top}} {
		x := (c[0] + c[1]*0x9e3779b97f4a7c15) * 0xbf58476d1ce4e5b9
		if x ^= x >> 29; Word(c[0], c[1]) != x {
			t.Error(c)
		}
	}
	if Word(0, 0) != 0 || Word(1, 0) != 0xbf58476d1ce4e5b9^0xbf58476d1ce4e5b9>>29 {
		t.Error("known ones")
	}
}

func TestP26_3(t *testing.T) {
	rng := rand.New(rand.NewSource(44))
	for range 200 {
		c := some(rng)
		open, secret := rng.Uint64(), rng.Uint64()
		p := pages()
		s := Make(c, p, 0x1234, open, secret)
		if s.C.IP != 0x1234 || s.Over || !reflect.DeepEqual(p, pages()) {
			t.Fatal("IP")
		}
		from := func(k uint8) uint64 { return []uint64{open, secret, 0}[k] }
		for i := range uint64(16) {
			want := Word(from(c.R[i].Kind), i)
			if c.R[i].Kind == 2 {
				want = c.R[i].N
			}
			x := vector.Block(Word(from(c.X[i].Kind), 32+2*i), Word(from(c.X[i].Kind), 33+2*i))
			if c.X[i].Kind == 2 {
				x = vector.Block(c.X[i].N, 0)
			}
			if s.C.R[i] != want || s.C.X[i] != x {
				t.Fatal("register", i)
			}
		}
		b := Word(from(c.Flags), 16)
		if s.C.F != (api.Flags{C: b&1 > 0, Z: b&2 > 0, S: b&4 > 0, O: b&8 > 0, P: b&16 > 0}) {
			t.Fatal("flags")
		}
		in := func(l []api.Range, at uint64) bool {
			return slices.ContainsFunc(l, func(r api.Range) bool { return r.Low <= at && at <= r.High })
		}
		for i, x := range s.Pages {
			for k, b := range x.Data {
				at, want := x.At+uint64(k), p[i].Data[k]
				if in(c.Open, at) {
					want = byte(Word(open, 64+at))
				} else if in(c.Secret, at) {
					want = byte(Word(secret, 64+at))
				}
				if b != want {
					t.Fatalf("byte at %x", at)
				}
			}
		}
		u := Make(c, p, 0x1234, open, rng.Uint64())
		if !Low(c, p, s, u) || !transfer.Together(Know(c, p), s, u) {
			t.Fatal("P26.5", c)
		}
	}
	edges := api.Contract{Open: []api.Range{r(0x2fff, 0x2fff)}, Secret: []api.Range{r(0x3000, 0x3000)}}
	if s := Make(edges, pages(), 0, 5, 6); s.Pages[1].Data[4095] != byte(Word(5, 64+0x2fff)) || s.Pages[2].Data[0] != byte(Word(6, 64+0x3000)) {
		t.Error("a page's last byte, and its first one")
	}
	odd := api.Contract{Open: []api.Range{r(9, 3), r(0, top)}, Flags: 9}
	odd.R[0].Kind, odd.X[0].Kind = 77, 77
	Make(odd, []api.Page{{At: top - 3, Data: make([]byte, 9)}, {At: 5}, {At: 0, Data: make([]byte, 3)}, {At: 9, Data: make([]byte, 1)}}, 0, 1, 2)
}

func TestP26_4(t *testing.T) {
	p := pages()
	var c api.Contract
	c.R[0], c.R[1], c.X[3] = api.Part{Kind: 1}, api.Part{Kind: 2, N: 5}, api.Part{Kind: 1}
	c.X[4] = api.Part{Kind: 2, N: 5}
	c.Open, c.Secret = []api.Range{r(0x2900, 0x2907)}, []api.Range{r(0x2908, 0x2909)}
	a := Know(c, p)
	want := transfer.Top()
	want.V[1], want.D[0], want.X[3], want.Dirt = strided.One(5), true, true, c.Secret
	if !transfer.Same(a, want) {
		t.Error(a)
	}
	c.Flags = 1
	a = Know(c, p)
	for i := range 5 {
		want.D[16+i] = true
	}
	if !transfer.Same(a, want) {
		t.Error("secret flags", a)
	}
	if a.Dirt[0].Low = 7; c.Secret[0].Low != 0x2908 {
		t.Error("shared")
	}
	for at, ok := range map[uint64]bool{0x2800: true, 0x27fe: false, 0x2ff8: true, 0x2ffc: false, 0x28f8: true, 0x28f9: false, 0x2908: false, 0x290a: true, 0x2902: false, 0x1800: true, 0x5800: true, 0x5ffc: false, 0x9000: false} {
		c.R[4] = api.Part{Kind: 2, N: at}
		if a := Know(c, p); !slices.Equal(a.Slots, []api.Slot{{At: at, To: 0, Ok: ok}}) || a.V[4] != strided.One(at) {
			t.Errorf("slot at %x: %v", at, a.Slots)
		}
	}
}

func TestSame(t *testing.T) {
	c := some(rand.New(rand.NewSource(45)))
	for i, change := range []func(*api.Contract){
		func(c *api.Contract) { c.R[9].N++ }, func(c *api.Contract) { c.X[9].Kind++ }, func(c *api.Contract) { c.Flags++ }, func(c *api.Contract) { c.Open = append(slices.Clone(c.Open), r(1, 1)) }, func(c *api.Contract) { c.Secret = append(slices.Clone(c.Secret), r(1, 1)) },
	} {
		d := c
		if !Same(c, d) {
			t.Error("the same")
		}
		if change(&d); Same(c, d) {
			t.Error(i)
		}
	}
}
