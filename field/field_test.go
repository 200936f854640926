package field

import (
	"crypto/aes"
	"math/rand"
	"sync"
	"testing"

	"sundial/api"
)

// slow is the product by its rest, told as long polynomials.
func slow(a, b byte) byte {
	p := 0
	for i := range 8 {
		if b>>i&1 == 1 {
			p ^= int(a) << i
		}
	}
	for i := 14; i >= 8; i-- {
		if p>>i&1 == 1 {
			p ^= 0x11b << (i - 8)
		}
	}
	return byte(p)
}

func TestP2_1(t *testing.T) {
	if Mul(0x57, 0x83) != 0xc1 {
		t.Error("example")
	}
	if x, e := Inv(0); x != 0 || e != api.ErrZero {
		t.Error("inverse of 0", x, e)
	}
	for a := range 256 {
		for b := range 256 {
			if Mul(byte(a), byte(b)) != slow(byte(a), byte(b)) {
				t.Fatal("Mul", a, b)
			}
		}
		if x, e := Inv(byte(a)); a != 0 && (e != api.OK || slow(byte(a), x) != 1) {
			t.Error("Inv", a, x, e)
		}
	}
	box, back := Box(), Back()
	if box[0] != 0x63 || box[1] != 0x7c || box[0x53] != 0xed || box[255] != 0x16 {
		t.Error("box", box)
	}
	for i := range 256 {
		b, _ := Inv(byte(i))
		want := b ^ 0x63
		for n := 1; n <= 4; n++ {
			want ^= b<<n | b>>(8-n)
		}
		if box[i] != want || back[box[i]] != byte(i) {
			t.Error("box of", i)
		}
	}
	box[0] = 9
	if Box()[0] != 0x63 {
		t.Error("the box is kept by whoever asked")
	}
}

func TestTablesTogether(t *testing.T) {
	var w sync.WaitGroup
	for range 8 {
		w.Go(func() {
			if Box()[1] != 0x7c || Back()[0x7c] != 1 {
				t.Error("tables")
			}
		})
	}
	w.Wait()
}

// TestWhoReadsTables garbles the tables that are made once: Back alone answers by them.
func TestWhoReadsTables(t *testing.T) {
	var block, key [16]byte
	for i := range block {
		block[i], key[i] = byte(i*37), byte(i*91)
	}
	Back()
	told := func() ([256]byte, [16]byte, [16]byte) { return Box(), Round(block, key), Last(block, key) }
	boxes, round, last := told()
	wasBox, wasBack := box, back
	defer func() { box, back = wasBox, wasBack }()
	if box != boxes {
		t.Error("the table of boxes")
	}
	box, back = [256]byte{}, [256]byte{9}
	if b, r, l := told(); b != boxes || r != round || l != last {
		t.Error("read by another one than Back")
	}
	if Back() != [256]byte{9} {
		t.Error("made anew")
	}
}

// expanded is the schedule of keys of AES with 128 bits.
func expanded(key [16]byte) [11][16]byte {
	box := Box()
	var l [11][16]byte
	l[0] = key
	rcon := byte(1)
	for i := 1; i < 11; i++ {
		was := l[i-1]
		g := [4]byte{box[was[13]] ^ rcon, box[was[14]], box[was[15]], box[was[12]]}
		rcon = slow(rcon, 2)
		for c := range 4 {
			for r := range 4 {
				if c == 0 {
					l[i][r] = was[r] ^ g[r]
				} else {
					l[i][4*c+r] = was[4*c+r] ^ l[i][4*c-4+r]
				}
			}
		}
	}
	return l
}

func TestP2_2(t *testing.T) {
	if Mix([4]byte{0xdb, 0x13, 0x53, 0x45}) != [4]byte{0x8e, 0x4d, 0xa1, 0xbc} || Mix([4]byte{1, 1, 1, 1}) != [4]byte{1, 1, 1, 1} {
		t.Error("Mix")
	}
	rng := rand.New(rand.NewSource(2))
	for range 50 {
		var key, block, want [16]byte
		rng.Read(key[:])
		rng.Read(block[:])
		c, _ := aes.NewCipher(key[:])
		c.Encrypt(want[:], block[:])
		keys := expanded(key)
		for i := range block {
			block[i] ^= keys[0][i]
		}
		for i := 1; i < 10; i++ {
			block = Round(block, keys[i])
		}
		if got := Last(block, keys[10]); got != want {
			t.Fatal("rounds", got, want)
		}
	}
}

func TestP2_3(t *testing.T) {
	rng := rand.New(rand.NewSource(3))
	for i := range 300 {
		a, b := rng.Uint64(), rng.Uint64()
		if i == 0 {
			a, b = ^uint64(0), ^uint64(0)
		}
		var bit [128]uint64
		for k := range 64 {
			for m := range 64 {
				bit[k+m] ^= a >> k & (b >> m) & 1
			}
		}
		low, high := Clmul(a, b)
		for k := range 128 {
			w := low
			if k >= 64 {
				w = high
			}
			if w>>(k%64)&1 != bit[k] {
				t.Fatal("Clmul", a, b, low, high)
			}
		}
	}
	if l, h := Clmul(1<<63, 2); l != 0 || h != 1 {
		t.Error("Clmul", l, h)
	}
	if l, h := Clmul(0, 5); l != 0 || h != 0 {
		t.Error("Clmul of 0", l, h)
	}
}

func TestP2_4(t *testing.T) {
	rng := rand.New(rand.NewSource(4))
	for range 2000 {
		a, b, c := byte(rng.Int()), byte(rng.Int()), byte(rng.Int())
		if Mul(a, b) != Mul(b, a) || Mul(a, Mul(b, c)) != Mul(Mul(a, b), c) || Mul(a, b^c) != Mul(a, b)^Mul(a, c) || Mul(a, 1) != a {
			t.Fatal("laws", a, b, c)
		}
		x, y, z := rng.Uint64(), rng.Uint64(), rng.Uint64()
		l, h := Clmul(x, y^z)
		l1, h1 := Clmul(x, y)
		l2, h2 := Clmul(x, z)
		if l != l1^l2 || h != h1^h2 {
			t.Fatal("Clmul", x, y, z)
		}
		l, h = Clmul(y^z, x)
		if l != l1^l2 || h != h1^h2 {
			t.Fatal("Clmul, turned", x, y, z)
		}
	}
	var seen [256]int
	for _, b := range Box() {
		seen[b]++
	}
	for b, n := range seen {
		if n != 1 {
			t.Error("box", b, n)
		}
	}
}
