package report

import (
	"bytes"
	"math/rand"
	"reflect"
	"strings"
	"testing"

	"sundial/api"
	"sundial/cpu"
	"sundial/step"
	"sundial/vector"
	"sundial/verdict"
)

const top = ^uint64(0)

func TestP29_1Words(t *testing.T) {
	for i, c := range []struct {
		of    func(uint8) string
		first int
		words string
	}{{Kind, 1, "reject safe unsafe unknown"}, {Why, 0, "none stack deep return jump large long"}, {Leak, 0, "none load store div branch go"}} {
		l := strings.Fields(c.words)
		for k := range 256 {
			want := ""
			if k >= c.first && k < c.first+len(l) {
				want = l[k-c.first]
			}
			if c.of(uint8(k)) != want {
				t.Error(i, k)
			}
		}
	}
}

func page(at uint64, perm uint8) api.Page {
	return api.Page{At: at, Perm: perm, Data: make([]byte, 4096)}
}

func unsafe() api.Verdict {
	v := api.Verdict{Kind: api.VdUnsafe, At: 7}
	v.S.Pages = []api.Page{page(0x1000, 5)}
	v.T.Over = true
	return v
}

func TestP29_1Right(t *testing.T) {
	state := api.State{Pages: []api.Page{page(0, 4)}}
	for i, c := range []struct {
		v    api.Verdict
		want bool
	}{
		{api.Verdict{}, false}, {api.Verdict{Kind: 5}, false}, {api.Verdict{Kind: 255}, false}, {api.Verdict{Kind: api.VdSafe}, true}, {api.Verdict{Kind: api.VdUnknown}, true}, {unsafe(), true}, {api.Verdict{Kind: api.VdUnsafe}, true},
		{api.Verdict{Kind: api.VdReject}, false}, {api.Verdict{Kind: api.VdReject, E: 1}, true}, {api.Verdict{Kind: api.VdReject, E: 999}, true}, {api.Verdict{Kind: api.VdReject, E: 1000}, false}, {api.Verdict{Kind: api.VdReject, E: -1}, false},
		{api.Verdict{Kind: api.VdReject, E: 1, At: 1}, false}, {api.Verdict{Kind: api.VdReject, E: 1, Why: 1}, false}, {api.Verdict{Kind: api.VdReject, E: 1, Leaks: []api.Leak{{Kind: 1}}}, false}, {api.Verdict{Kind: api.VdReject, E: 1, S: state}, false},
		{api.Verdict{Kind: api.VdSafe, E: 1}, false}, {api.Verdict{Kind: api.VdSafe, At: 1}, false}, {api.Verdict{Kind: api.VdSafe, T: state}, false}, {api.Verdict{Kind: api.VdSafe, S: api.State{Over: true}}, false}, {api.Verdict{Kind: api.VdSafe, S: api.State{C: api.CPU{IP: 1}}}, false}, {api.Verdict{Kind: api.VdSafe, Why: 1}, false}, {api.Verdict{Kind: api.VdSafe, S: api.State{Pages: []api.Page{}}}, true},
		{api.Verdict{Kind: api.VdUnsafe, At: -1}, false}, {api.Verdict{Kind: api.VdUnsafe, At: 1<<62 - 1}, true}, {api.Verdict{Kind: api.VdUnsafe, At: 1 << 62}, false}, {api.Verdict{Kind: api.VdUnsafe, E: 1}, false}, {api.Verdict{Kind: api.VdUnsafe, Why: 1}, false}, {api.Verdict{Kind: api.VdUnsafe, Leaks: []api.Leak{{Kind: 1}}}, false},
		{api.Verdict{Kind: api.VdUnsafe, S: api.State{Pages: []api.Page{{At: 1}}}}, false}, {api.Verdict{Kind: api.VdUnsafe, T: api.State{Pages: []api.Page{page(0, 3)}}}, false},
		{api.Verdict{Kind: api.VdUnknown, Why: 6}, true}, {api.Verdict{Kind: api.VdUnknown, Why: 7}, false}, {api.Verdict{Kind: api.VdUnknown, At: 1}, false}, {api.Verdict{Kind: api.VdUnknown, E: 1}, false}, {api.Verdict{Kind: api.VdUnknown, S: state}, false},
		{api.Verdict{Kind: api.VdUnknown, Leaks: []api.Leak{{Kind: 5, At: top}}}, true}, {api.Verdict{Kind: api.VdUnknown, Leaks: []api.Leak{{Kind: 1}, {}}}, false}, {api.Verdict{Kind: api.VdUnknown, Leaks: []api.Leak{{Kind: 6}}}, false},
	} {
		if Right(c.v) != c.want {
			t.Error(i)
		}
		if s, e := Text(c.v); !c.want && (e != api.ErrArg || s != "") {
			t.Error("Text", i, e)
		}
	}
}

func TestMachine(t *testing.T) {
	var s api.State
	if got := Machine(s); got != "ip 0x0\n" {
		t.Error(got)
	}
	s.C.IP, s.C.R[0], s.C.R[4], s.C.R[15], s.Over = 0x1000, 1, top, 0xabc, true
	s.C.X[0], s.C.X[9], s.C.X[15] = vector.Block(5, 0), vector.Block(0, 0xf0), vector.Block(1, top)
	s.C.F = api.Flags{C: true, Z: true, S: true, O: true, P: true}
	s.Pages = []api.Page{page(0x1000, 5), page(0x2000, 6), page(0x3000, 0), {At: top - 3, Perm: 7, Data: make([]byte, 34)}, {Perm: 8}}
	s.Pages[0].Data[0], s.Pages[0].Data[4095] = 0x1f, 0xa0
	s.Pages[3].Data[33], s.Pages[3].Data[32] = 9, 8
	want := "ip 0x1000\nrax 0x1\nrsp 0xffffffffffffffff\nr15 0xabc\nxmm0 0x0 0x5\nxmm9 0xf0 0x0\nxmm15 0xffffffffffffffff 0x1\nflags c z s o p\nover\n" +
		"page 0x1000 rx\nbytes 0x1000 1f" + strings.Repeat("00", 31) + "\nbytes 0x1fe0 " + strings.Repeat("00", 31) + "a0\npage 0x2000 rw\npage 0x3000 -\npage 0xfffffffffffffffc rwx\nbytes 0x1c 0809\npage 0x0 -\n"
	if got := Machine(s); got != want {
		t.Error(got)
	}
	s.C.F = api.Flags{Z: true, P: true}
	if !strings.Contains(Machine(s), "\nflags z p\n") {
		t.Error("flags")
	}
}

func TestP29_2Known(t *testing.T) {
	v := unsafe()
	v.S.Pages[0].Data[32] = 0x5a
	v.T.C.R[3] = 255
	for i, c := range []struct {
		v    api.Verdict
		want string
	}{
		{api.Verdict{Kind: api.VdSafe}, "safe\n"}, {api.Verdict{Kind: api.VdReject, E: 122}, "reject\nerror 122\n"}, {api.Verdict{Kind: api.VdUnknown}, "unknown\nwhy none\n"},
		{api.Verdict{Kind: api.VdUnknown, Why: api.WhyJump, Leaks: []api.Leak{{At: 0x1000, Kind: api.LeakLoad}, {At: 0, Kind: api.LeakGo}, {At: 0x1000, Kind: api.LeakLoad}}}, "unknown\nwhy jump\nleak 0x1000 load\nleak 0x0 go\nleak 0x1000 load\n"},
		{v, "unsafe\nat 7\nfirst\nip 0x0\npage 0x1000 rx\nbytes 0x1020 5a" + strings.Repeat("00", 31) + "\nsecond\nip 0x0\nrbx 0xff\nover\n"},
	} {
		if s, e := Text(c.v); s != c.want || e != api.OK {
			t.Error(i, s, e)
		}
		if v, e := Parse(c.want); e != api.OK || !verdict.Same(v, c.v) {
			t.Error(i, v, e)
		}
	}
}

func TestP29_2Wrong(t *testing.T) {
	row := strings.Repeat("00", 31)
	for _, s := range []string{
		"", "\n", "safe", " safe\n", "safe \n", "safe\n\n", "\nsafe\n", "safe\nsafe\n", "Safe\n", "safe x\n", "safe\r\n", "reject\n", "reject\nerror\n", "reject\nerror 0\n", "reject\nerror 1000\n", "reject\nerror 05\n", "reject\nerror +5\n", "reject\nerror 0x5\n", "reject\nerror 5 5\n", "reject\nerror 5\nerror 5\n", "safe\nerror 0\n", "safe\nerror 5\n",
		"unknown\n", "unknown\nwhy\n", "unknown\nwhy x\n", "unknown\nwhy none none\n", "unknown\nleak 0x0 go\nwhy none\n", "unknown\nwhy none\nleak 0x0 none\n", "unknown\nwhy none\nleak 0x00 go\n", "unknown\nwhy none\nleak 0xA go\n", "unknown\nwhy none\nleak 10 go\n", "unknown\nwhy none\nleak 0x0\n", "unknown\nwhy none\nleak 0x10000000000000000 go\n", "unknown\nwhy none\nwhy none\n", "unknown\nwhy none\nat 0\n", "unknown\nwhy none\nfirst\nip 0x0\nsecond\nip 0x0\n",
		"unsafe\n", "unsafe\nat 0\n", "unsafe\nat 0\nfirst\nip 0x0\n", "unsafe\nat -1\nfirst\nip 0x0\nsecond\nip 0x0\n", "unsafe\nat 4611686018427387904\nfirst\nip 0x0\nsecond\nip 0x0\n", "unsafe\nat 9999999999999999999999\nfirst\nip 0x0\nsecond\nip 0x0\n", "unsafe\nat 0\nfirst\nsecond\nip 0x0\n", "unsafe\nat 0\nsecond\nip 0x0\nfirst\nip 0x0\n", "unsafe\nat 0\nip 0x0\nfirst\nip 0x0\nsecond\nip 0x0\n",
		"unsafe\nat 0\nfirst\nip 0x0\nrax 0x0\nsecond\nip 0x0\n", "unsafe\nat 0\nfirst\nip 0x0\nrcx 0x1\nrax 0x1\nsecond\nip 0x0\n", "unsafe\nat 0\nfirst\nrax 0x1\nip 0x0\nsecond\nip 0x0\n", "unsafe\nat 0\nfirst\nip 0x0\nr16 0x1\nsecond\nip 0x0\n", "unsafe\nat 0\nfirst\nip 0x0\nxmm16 0x1 0x1\nsecond\nip 0x0\n", "unsafe\nat 0\nfirst\nip 0x0\nxmm-1 0x1 0x1\nsecond\nip 0x0\n", "unsafe\nat 0\nfirst\nip 0x0\nxmm01 0x1 0x1\nsecond\nip 0x0\n", "unsafe\nat 0\nfirst\nip 0x0\nxmm1 0x1\nsecond\nip 0x0\n", "unsafe\nat 0\nfirst\nip 0x0\nxmm1 0x0 0x0\nsecond\nip 0x0\n",
		"unsafe\nat 0\nfirst\nip 0x0\nflags\nsecond\nip 0x0\n", "unsafe\nat 0\nfirst\nip 0x0\nflags z c\nsecond\nip 0x0\n", "unsafe\nat 0\nfirst\nip 0x0\nflags c c\nsecond\nip 0x0\n", "unsafe\nat 0\nfirst\nip 0x0\nover 1\nsecond\nip 0x0\n", "unsafe\nat 0\nfirst\nip 0x0\nover\nover\nsecond\nip 0x0\n",
		"unsafe\nat 0\nfirst\nip 0x0\npage 0x1 r\nsecond\nip 0x0\n", "unsafe\nat 0\nfirst\nip 0x0\npage 0x1000 wx\nsecond\nip 0x0\n", "unsafe\nat 0\nfirst\nip 0x0\npage 0x1000 xr\nsecond\nip 0x0\n", "unsafe\nat 0\nfirst\nip 0x0\npage 0x1000 \nsecond\nip 0x0\n", "unsafe\nat 0\nfirst\nip 0x0\npage 0x2000 r\npage 0x1000 r\nsecond\nip 0x0\n",
		"unsafe\nat 0\nfirst\nip 0x0\nbytes 0x0 01" + row + "\nsecond\nip 0x0\n", "unsafe\nat 0\nfirst\nip 0x0\npage 0x1000 r\nbytes 0x1000 00" + row + "\nsecond\nip 0x0\n", "unsafe\nat 0\nfirst\nip 0x0\npage 0x1000 r\nbytes 0x1001 01" + row + "\nsecond\nip 0x0\n", "unsafe\nat 0\nfirst\nip 0x0\npage 0x1000 r\nbytes 0x2000 01" + row + "\nsecond\nip 0x0\n", "unsafe\nat 0\nfirst\nip 0x0\npage 0x1000 r\nbytes 0xfe0 01" + row + "\nsecond\nip 0x0\n", "unsafe\nat 0\nfirst\nip 0x0\npage 0x1000 r\nbytes 0x1000 0A" + row + "\nsecond\nip 0x0\n", "unsafe\nat 0\nfirst\nip 0x0\npage 0x1000 r\nbytes 0x1000 01\nsecond\nip 0x0\n", "unsafe\nat 0\nfirst\nip 0x0\npage 0x1000 r\nbytes 0x1000 +1" + row + "\nsecond\nip 0x0\n",
		"unsafe\nat 0\nfirst\nip 0x0\n" + strings.Repeat("page 0x1000 r\n", 40) + "second\nip 0x0\n", "unsafe\nat 0\nfirst\nip 0x0\nsecond\nip 0x0\nwhy none\n",
	} {
		if v, e := Parse(s); e != api.ErrArg || !reflect.DeepEqual(v, api.Verdict{}) {
			t.Errorf("%q: %v %d", s, v, e)
		}
	}
}

func state(rng *rand.Rand) api.State {
	var s api.State
	word := func() uint64 { return []uint64{0, rng.Uint64(), uint64(rng.Intn(20))}[rng.Intn(3)] }
	for i := range 16 {
		s.C.R[i], s.C.X[i] = word(), vector.Block(word(), word())
	}
	s.C.F, s.C.IP, s.Over = cpu.Unpacked(uint8(rng.Int())), word(), rng.Intn(2) == 0
	at := uint64(0)
	for range rng.Intn(4) {
		at += uint64(rng.Intn(3)+1) * 4096
		p := page(at, []uint8{0, 1, 2, 4, 5, 6}[rng.Intn(6)])
		for range rng.Intn(8) {
			p.Data[rng.Intn(4096)] = byte(rng.Int())
		}
		s.Pages = append(s.Pages, p)
	}
	return s
}

func some(rng *rand.Rand) api.Verdict {
	v := api.Verdict{Kind: uint8(rng.Intn(4) + 1)}
	switch v.Kind {
	case api.VdReject:
		v.E = api.Errno(rng.Intn(999) + 1)
	case api.VdUnsafe:
		v.At, v.S, v.T = int(rng.Int63()>>1), state(rng), state(rng)
	case api.VdUnknown:
		v.Why = uint8(rng.Intn(7))
		for range rng.Intn(4) {
			v.Leaks = append(v.Leaks, api.Leak{At: rng.Uint64() >> uint(rng.Intn(64)), Kind: uint8(rng.Intn(5) + 1)})
		}
	}
	return v
}

func TestP29_3(t *testing.T) {
	rng := rand.New(rand.NewSource(49))
	seen := map[string]api.Verdict{}
	for range 400 {
		v := some(rng)
		s, e := Text(v)
		w, e2 := Parse(s)
		if e != api.OK || e2 != api.OK || !verdict.Same(v, w) {
			t.Fatal(s, e, e2)
		}
		if was, ok := seen[s]; ok && !verdict.Same(was, v) {
			t.Fatal("one text of two verdicts", s)
		}
		seen[s] = v
		// One byte changed: another verdict, or none.
		b := []byte(s)
		b[rng.Intn(len(b))] = "0123456789abcdefx \nrwz-"[rng.Intn(23)]
		if u, e := Parse(string(b)); e == api.OK && !bytes.Equal(b, []byte(s)) && verdict.Same(u, v) {
			t.Fatal("two texts of one verdict")
		}
	}
	s := state(rng)
	was := step.Own(s)
	if Machine(s); !step.Same(s, was) {
		t.Error("changed")
	}
}
