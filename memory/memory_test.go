package memory

import (
	"bytes"
	"math/rand"
	"reflect"
	"testing"

	"sundial/api"
)

func page(at uint64, perm uint8) api.Page {
	b := make([]byte, 4096)
	for i := range b {
		b[i] = byte(uint64(i)*5 + at>>12*7 + uint64(i)>>8)
	}
	return api.Page{At: at, Perm: perm, Data: b}
}

func sample() []api.Page {
	return []api.Page{page(0, 4), page(0x1000, 6), page(0x2000, 5), page(0x4000, 2), page(0x5000, 0), page(1<<64-4096, 6)}
}

func TestP12_1(t *testing.T) {
	if !Right(nil) || !Right(sample()) {
		t.Error("right ones")
	}
	for i, change := range []func(p []api.Page){
		func(p []api.Page) { p[1].At = 0 }, func(p []api.Page) { p[1].At = 0x2000 }, func(p []api.Page) { p[1].At = 0x1001 }, func(p []api.Page) { p[1].At = 0x9000 },
		func(p []api.Page) { p[1].Data = nil }, func(p []api.Page) { p[1].Data = p[1].Data[:4095] }, func(p []api.Page) { p[1].Data = append(p[1].Data, 1) },
		func(p []api.Page) { p[1].Perm = 3 }, func(p []api.Page) { p[1].Perm = 7 }, func(p []api.Page) { p[1].Perm = 8 }, func(p []api.Page) { p[1].Perm = 0x84 },
	} {
		p := sample()
		if change(p); Right(p) {
			t.Error(i)
		}
	}
	var many []api.Page
	for i := range 17 {
		many = append(many, page(uint64(i)*4096, 4))
	}
	if Right(many) || !Right(many[:16]) {
		t.Error("how many")
	}
	p := sample()
	for at, want := range map[uint64]int{0: 0, 0xfff: 0, 0x1000: 1, 0x2fff: 2, 0x3000: -1, 0x3fff: -1, 0x5fff: 4, 0x6000: -1, 1<<64 - 4097: -1, 1<<64 - 4096: 5, 1<<64 - 1: 5} {
		if Find(p, at) != want {
			t.Error("Find", at, Find(p, at))
		}
	}
	odd := []api.Page{{At: 100, Data: make([]byte, 5)}, {At: 90, Data: make([]byte, 100)}, {At: 3}}
	for at, want := range map[uint64]int{89: -1, 90: 1, 99: 1, 100: 0, 104: 0, 105: 1, 189: 1, 190: -1, 3: -1} {
		if Find(odd, at) != want {
			t.Error("Find of odd pages", at, Find(odd, at))
		}
	}
	own := Own(p)
	if !Same(own, p) || len(Own(nil)) != 0 || !Same(nil, []api.Page{}) {
		t.Error("Own")
	}
	own[0].Data[7]++
	if Same(own, p) || p[0].Data[7] == own[0].Data[7] {
		t.Error("shared")
	}
	for i, change := range []func(p []api.Page){func(p []api.Page) { p[5].At++ }, func(p []api.Page) { p[0].Perm++ }, func(p []api.Page) { p[0].Data = nil }} {
		own := Own(p)
		if change(own); Same(own, p) || Same(p, own) {
			t.Error("Same", i)
		}
	}
	if Same(p, p[1:]) || Same(p, p[:2]) {
		t.Error("Same of fewer")
	}
}

// slow reads byte by byte.
func slow(p []api.Page, at uint64, most int, perm uint8) []byte {
	var b []byte
	for i := range most {
		k := -1
		for j, x := range p {
			if d := at + uint64(i) - x.At; k < 0 && d < uint64(len(x.Data)) {
				k = j
			}
		}
		if k < 0 || p[k].Perm&perm == 0 {
			break
		}
		b = append(b, p[k].Data[at+uint64(i)-p[k].At])
	}
	return b
}

func TestP12_2(t *testing.T) {
	p := sample()
	if b, e := Read(nil, 0, 1); b != nil || e != api.ErrRead {
		t.Error(b, e)
	}
	for i, c := range []struct {
		at   uint64
		n    int
		want api.Errno
	}{
		{0, -1, api.ErrArg}, {0, 4097, api.ErrArg}, {0x3000, -1 << 63, api.ErrArg}, {0, 4096, api.OK}, {5, 4096, api.OK}, {0x3000, 0, api.OK},
		{0x2fff, 1, api.OK}, {0x2fff, 2, api.ErrRead}, {0xffe, 4, api.OK}, {0x1ffe, 4, api.OK}, {0x3fff, 2, api.ErrRead}, {0x4000, 1, api.ErrRead}, {0x5000, 1, api.ErrRead},
		{1<<64 - 1, 2, api.OK}, {1<<64 - 8, 4096, api.OK}, {1<<64 - 4097, 1, api.ErrRead},
	} {
		b, e := Read(p, c.at, c.n)
		if e != c.want || e != api.OK && b != nil || e == api.OK && !bytes.Equal(b, slow(p, c.at, c.n, 4)) {
			t.Error(i, e)
		}
	}
	for i, c := range []struct {
		at   uint64
		n    int
		want api.Errno
	}{
		{0x1000, 4097, api.ErrArg}, {0x1000, 4096, api.OK}, {0x1001, 4096, api.ErrWrite}, {0xfff, 2, api.ErrWrite}, {0x2000, 1, api.ErrWrite}, {0x4fff, 1, api.OK}, {0x4fff, 2, api.ErrWrite}, {0x3000, 0, api.OK}, {1<<64 - 3, 3, api.OK}, {1<<64 - 3, 4, api.ErrWrite},
	} {
		p := sample()
		b := bytes.Repeat([]byte{0xab}, c.n)
		q, e := Write(p, c.at, b)
		want := sample()
		if c.want == api.OK {
			for k := range b {
				i := Find(want, c.at+uint64(k))
				want[i].Data[c.at+uint64(k)-want[i].At] = 0xab
			}
		}
		if e != c.want || !Same(q, want) || !Same(p, sample()) {
			t.Error(i, e)
		}
		q[0].Data[0]++
		if !Same(p, sample()) {
			t.Error("shared")
		}
	}
}

func TestP12_3(t *testing.T) {
	p := []api.Page{page(0x1000, 5), page(0x2000, 1), page(0x3000, 4), page(1<<64-4096, 1)}
	for i, c := range []struct {
		at   uint64
		most int
		want int
	}{
		{0x1000, 15, 15}, {0x1ff8, 15, 15}, {0x2ff8, 15, 8}, {0x2fff, 15, 1}, {0x3000, 15, 0}, {0xfff, 15, 0}, {0x1000, 0, 0}, {0x1000, -5, 0}, {0x1000, 1, 1}, {0x1000, 4097, 4096}, {0x1000, 1<<63 - 1, 4096}, {0x1800, 9000, 4096}, {0x2800, 9000, 2048}, {1<<64 - 2, 15, 2}, {0, 15, 0},
	} {
		b, e := Fetch(p, c.at, c.most)
		if len(b) != c.want || (e == api.OK) != (c.want > 0) || e != api.OK && (e != api.ErrFetch || b != nil) || c.want > 0 && !bytes.Equal(b, slow(p, c.at, c.want, 1)) {
			t.Error(i, len(b), e)
		}
	}
}

// TestEmptyAhead has a page of no bytes at the address itself, ahead of one that has it.
func TestEmptyAhead(t *testing.T) {
	p := []api.Page{{At: 5, Perm: 4}, {At: 0, Perm: 4, Data: []byte{0, 1, 2, 3, 4, 5, 6, 7}}}
	if b, e := Read(p, 5, 3); e != api.OK || !bytes.Equal(b, []byte{5, 6, 7}) {
		t.Error(b, e)
	}
}

func TestP12_4AndOddPages(t *testing.T) {
	rng := rand.New(rand.NewSource(14))
	for range 3000 {
		var p []api.Page
		for range rng.Intn(6) {
			b := make([]byte, rng.Intn(40))
			rng.Read(b)
			p = append(p, api.Page{At: uint64(rng.Intn(100) - 20), Perm: uint8(rng.Intn(16)) | 4, Data: b})
		}
		at, n := uint64(rng.Intn(120)-30), rng.Intn(30)
		want := slow(p, at, n, 4)
		b, e := Read(p, at, n)
		if (e == api.OK) != (len(want) == n) || e == api.OK && !bytes.Equal(b, want) {
			t.Fatal(p, at, n, b, want)
		}
		want = slow(p, at, n, 1)
		if b, _ := Fetch(p, at, n); !bytes.Equal(b, want) {
			t.Fatal(p, at, n, b, want)
		}
		put := make([]byte, n)
		rng.Read(put)
		was := Own(p)
		q, e := Write(p, at, put)
		if (e == api.OK) != (len(slow(p, at, n, 2)) == n) || !Same(was, p) || e != api.OK && !Same(p, q) {
			t.Fatal("Write", e)
		}
		if e == api.OK && !bytes.Equal(slow(q, at, n, 2), put) {
			t.Fatal("what was written is not there")
		}
		for i := range 150 {
			a := uint64(i - 30)
			if k := Find(p, a); a-at >= uint64(n) && k >= 0 && p[k].Data[a-p[k].At] != q[k].Data[a-q[k].At] {
				t.Fatal("something else was written")
			}
		}
	}
	p := sample()
	for at := uint64(0x2000); at < 0x3000; at += 100 {
		if q, e := Write(p, at, []byte{1}); e != api.ErrWrite || !reflect.DeepEqual(q, p) {
			t.Fatal("what may be executed was written")
		}
	}
}
