package bits

import (
	"math/big"
	"math/rand"
	"testing"
)

var words = []uint64{0, 1, 2, 3, 0x7f, 0x80, 0x81, 0xff, 0x100, 0x7fff, 0x8000, 0xffff, 0x7fffffff, 0x80000000, 0xffffffff, 1 << 32, 1<<63 - 1, 1 << 63, 1<<63 + 1, ^uint64(0) - 1, ^uint64(0)}

var widths = []int{-1 << 63, -1, 0, 1, 2, 3, 4, 5, 6, 7, 8, 9, 1<<63 - 1}

func many(w int) uint {
	if w < 1 {
		w = 1
	}
	if w > 8 {
		w = 8
	}
	return uint(8 * w)
}

func whole(n uint) *big.Int { return new(big.Int).Lsh(big.NewInt(1), n) }

func num(x uint64) *big.Int { return new(big.Int).SetUint64(x) }

func signed(x uint64, n uint) *big.Int {
	v := new(big.Int).Mod(num(x), whole(n))
	if v.Bit(int(n-1)) == 1 {
		v.Sub(v, whole(n))
	}
	return v
}

func TestP1_1(t *testing.T) {
	for _, w := range widths {
		n := many(w)
		if num(Mask(w)).Cmp(new(big.Int).Sub(whole(n), big.NewInt(1))) != 0 {
			t.Error("Mask", w, Mask(w))
		}
		for _, x := range words {
			if num(Cut(x, w)).Cmp(new(big.Int).Mod(num(x), whole(n))) != 0 {
				t.Error("Cut", x, w)
			}
			s := signed(x, n)
			if Sign(x, w) != (s.Sign() < 0) {
				t.Error("Sign", x, w)
			}
			if num(Ext(x, w)).Cmp(new(big.Int).Mod(s, whole(64))) != 0 {
				t.Error("Ext", x, w)
			}
			for _, by := range []int{-1 << 63, -65, -64, -9, -1, 0, 1, 7, 8, 63, 64, 1<<63 - 1} {
				k := new(big.Int).Mod(big.NewInt(int64(by)), big.NewInt(int64(n))).Uint64()
				want := uint64(0)
				for i := range uint64(n) {
					want |= (x >> i & 1) << ((i + k) % uint64(n))
				}
				if got := Turn(x, by, w); got != want {
					t.Errorf("Turn(%x, %d, %d): %x, not %x", x, by, w, got, want)
				}
			}
		}
	}
	for i := range 512 {
		ones := 0
		for k := range 8 {
			ones += i >> k & 1
		}
		if Parity(uint64(i)) != (ones%2 == 0) {
			t.Error("Parity", i)
		}
	}
}

func TestP1_2(t *testing.T) {
	for _, w := range widths {
		for _, x := range words {
			b := Bytes(x, w)
			if len(b) != int(many(w)/8) || Number(b) != Cut(x, w) {
				t.Error(x, w, b)
			}
			for i := range b {
				if b[i] != byte(x>>(8*i)) {
					t.Error(x, w, b)
				}
			}
		}
	}
	if Number(nil) != 0 || Number([]byte{}) != 0 || Number([]byte{1, 2, 3, 4, 5, 6, 7, 8, 9, 10}) != 0x0807060504030201 {
		t.Error("Number")
	}
	b := []byte{1, 2, 3}
	Number(b[:2])
	if b[2] != 3 {
		t.Error("changed")
	}
}

func checkSum(t *testing.T, a, b uint64, c bool, w int) {
	t.Helper()
	n := many(w)
	one := big.NewInt(0)
	if c {
		one = big.NewInt(1)
	}
	a1, b1 := new(big.Int).Mod(num(a), whole(n)), new(big.Int).Mod(num(b), whole(n))
	low := new(big.Int).Neg(whole(n - 1))
	within := func(x *big.Int) bool { return x.Cmp(low) >= 0 && x.Cmp(whole(n-1)) < 0 }

	s := new(big.Int).Add(new(big.Int).Add(a1, b1), one)
	r, out, over := Add(a, b, c, w)
	exact := new(big.Int).Add(new(big.Int).Add(signed(a, n), signed(b, n)), one)
	if num(r).Cmp(new(big.Int).Mod(s, whole(n))) != 0 || out != (s.Cmp(whole(n)) >= 0) || over != !within(exact) {
		t.Errorf("Add(%x, %x, %v, %d): %x %v %v", a, b, c, w, r, out, over)
	}
	if back, lent, _ := Sub(r, b, c, w); back != Cut(a, w) || lent != out {
		t.Errorf("back of Add(%x, %x, %v, %d): %x %v", a, b, c, w, back, lent)
	}

	d := new(big.Int).Sub(new(big.Int).Sub(a1, b1), one)
	r, out, over = Sub(a, b, c, w)
	exact = new(big.Int).Sub(new(big.Int).Sub(signed(a, n), signed(b, n)), one)
	if num(r).Cmp(new(big.Int).Mod(d, whole(n))) != 0 || out != (d.Sign() < 0) || over != !within(exact) {
		t.Errorf("Sub(%x, %x, %v, %d): %x %v %v", a, b, c, w, r, out, over)
	}
}

func TestP1_3AndP1_4(t *testing.T) {
	rng := rand.New(rand.NewSource(1))
	for _, w := range widths {
		for _, a := range words {
			for _, b := range words {
				checkSum(t, a, b, false, w)
				checkSum(t, a, b, true, w)
			}
		}
		for range 300 {
			checkSum(t, rng.Uint64(), rng.Uint64(), rng.Intn(2) == 1, w)
		}
	}
}
