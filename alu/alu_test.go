package alu

import (
	"math/big"
	"math/rand"
	"testing"

	"sundial/api"
)

var words = []uint64{0, 1, 2, 3, 0x7f, 0x80, 0x81, 0xff, 0x100, 0x7fff, 0x8000, 0xffff, 0x7fffffff, 0x80000000, 0x80000001, 0xffffffff, 1 << 32, 1<<63 - 1, 1 << 63, ^uint64(0) - 1, ^uint64(0)}

var widths = []int{-5, 0, 1, 2, 3, 4, 5, 7, 8, 9, 1 << 62}

func many(w int) uint {
	return uint(8 * max(1, min(w, 8)))
}

func num(x uint64) *big.Int { return new(big.Int).SetUint64(x) }

func cut(x *big.Int, n uint) uint64 {
	return new(big.Int).Mod(x, new(big.Int).Lsh(big.NewInt(1), n)).Uint64()
}

func signed(x uint64, n uint) *big.Int {
	v := num(cut(num(x), n))
	if v.Bit(int(n-1)) == 1 {
		v.Sub(v, new(big.Int).Lsh(big.NewInt(1), n))
	}
	return v
}

func within(x *big.Int, n uint) bool { return signed(cut(x, n), n).Cmp(x) == 0 }

// plain are the plain flags, with C and O.
func plain(r uint64, n uint, c, o bool) api.Flags {
	ones := 0
	for i := range 8 {
		ones += int(r >> i & 1)
	}
	return api.Flags{C: c, O: o, Z: r == 0, S: r>>(n-1)&1 == 1, P: ones%2 == 0}
}

func one(b bool) *big.Int {
	if b {
		return big.NewInt(1)
	}
	return new(big.Int)
}

func sums(t *testing.T, w int, a, b uint64, c bool) {
	n := many(w)
	a1, b1 := num(cut(num(a), n)), num(cut(num(b), n))
	s := new(big.Int).Add(new(big.Int).Add(a1, b1), one(c))
	exact := new(big.Int).Add(new(big.Int).Add(signed(a, n), signed(b, n)), one(c))
	r, f := Add(w, a, b, c)
	if r != cut(s, n) || f != plain(r, n, s.BitLen() > int(n), !within(exact, n)) {
		t.Fatal("Add", w, a, b, c, r, f)
	}
	d := new(big.Int).Sub(new(big.Int).Sub(a1, b1), one(c))
	exact = new(big.Int).Sub(new(big.Int).Sub(signed(a, n), signed(b, n)), one(c))
	r, f = Sub(w, a, b, c)
	if r != cut(d, n) || f != plain(r, n, d.Sign() < 0, !within(exact, n)) {
		t.Fatal("Sub", w, a, b, c, r, f)
	}
	if !c && (f.C != (a1.Cmp(b1) < 0) || f.Z != (a1.Cmp(b1) == 0) || (f.S != f.O) != (signed(a, n).Cmp(signed(b, n)) < 0)) {
		t.Fatal("P13.5", w, a, b, f)
	}
}

func TestP13_1(t *testing.T) {
	for _, w := range widths {
		n := many(w)
		for _, a := range words {
			if f := Logic(w, a); f != plain(cut(num(a), n), n, false, false) {
				t.Error("Logic", w, a, f)
			}
			for _, c := range []bool{false, true} {
				was := api.Flags{C: c, O: true, Z: true}
				r, f := Inc(w, a, was)
				r2, f2 := Add(w, a, 1, false)
				if f2.C = c; r != r2 || f != f2 {
					t.Error("Inc", w, a, r, f)
				}
				r, f = Dec(w, a, was)
				r2, f2 = Sub(w, a, 1, false)
				if f2.C = c; r != r2 || f != f2 {
					t.Error("Dec", w, a, r, f)
				}
				for _, b := range words {
					sums(t, w, a, b, c)
				}
			}
			r, f := Neg(w, a)
			if r2, f2 := Sub(w, 0, a, false); r != r2 || f != f2 {
				t.Error("Neg", w, a, r, f)
			}
		}
	}
	if r, f := Sub(1, 1, 2, false); r != 0xff || f != (api.Flags{C: true, S: true, P: true}) {
		t.Error("example", r, f)
	}
}

// shifted tells a shift by its bits, as whole numbers.
func shifted(do uint8, n uint, a uint64, k uint, was api.Flags) (uint64, api.Flags) {
	v := num(a)
	bit := func(x *big.Int, i uint) bool { return x.Bit(int(i)) == 1 }
	switch do {
	case api.DoShl:
		x := new(big.Int).Lsh(v, k)
		r := cut(x, n)
		return r, plain(r, n, bit(x, n), bit(x, n-1) != bit(x, n))
	case api.DoShr:
		r := new(big.Int).Rsh(v, k).Uint64()
		return r, plain(r, n, bit(v, k-1), bit(v, n-1))
	case api.DoSar:
		s := signed(a, n)
		r := cut(new(big.Int).Rsh(s, k), n)
		return r, plain(r, n, new(big.Int).Rsh(s, k-1).Bit(0) == 1, false)
	}
	if do == api.DoRor {
		k = (n - k%n) % n
	}
	k %= n
	r := cut(num(cut(new(big.Int).Lsh(v, k), n)|new(big.Int).Rsh(v, n-k).Uint64()), n)
	f := was
	top, low, next := r>>(n-1)&1 == 1, r&1 == 1, r>>(n-2)&1 == 1
	if do == api.DoRol {
		f.C, f.O = low, top != low
	} else {
		f.C, f.O = top, top != next
	}
	return r, f
}

func TestP13_2(t *testing.T) {
	for _, do := range []uint8{api.DoShl, api.DoShr, api.DoSar, api.DoRol, api.DoRor} {
		for _, w := range widths {
			n := many(w)
			by := uint(32)
			if n == 64 {
				by = 64
			}
			for _, a := range words {
				for k := range 256 {
					was := api.Flags{C: k%3 == 0, Z: k%5 == 0, S: k%7 == 0, O: k%2 == 0, P: k%11 == 0}
					low := cut(num(a), n)
					want, f := low, was
					if uint(k)%by != 0 {
						want, f = shifted(do, n, low, uint(k)%by, was)
					}
					if r, g := Shift(do, w, a, byte(k), was); r != want || g != f {
						t.Fatalf("do %d width %d: %x by %d: %x %v, not %x %v", do, w, a, k, r, g, want, f)
					}
				}
			}
		}
	}
	was := api.Flags{C: true, P: true}
	for _, do := range []uint8{0, api.DoAdd, api.Deeds, 255} {
		if r, f := Shift(do, 4, 1<<40|5, 3, was); r != 5 || f != was {
			t.Error("another do", do, r, f)
		}
	}
}

func products(t *testing.T, w int, a, b uint64) {
	n := many(w)
	p := new(big.Int).Mul(num(cut(num(a), n)), num(cut(num(b), n)))
	low, high, f := Mul(w, a, b)
	h := new(big.Int).Rsh(p, n).Uint64()
	if low != cut(p, n) || high != h || f != plain(low, n, h != 0, h != 0) {
		t.Fatal("Mul", w, a, b, low, high, f)
	}
	s := new(big.Int).Mul(signed(a, n), signed(b, n))
	r, f := Imul(w, a, b)
	if r != cut(s, n) || f != plain(r, n, !within(s, n), !within(s, n)) {
		t.Fatal("Imul", w, a, b, r, f)
	}
}

func quotients(t *testing.T, w int, high, low, d uint64) {
	n := many(w)
	v := new(big.Int).Add(new(big.Int).Lsh(num(cut(num(high), n)), n), num(cut(num(low), n)))
	by := num(cut(num(d), n))
	q, rest, ok := Div(w, high, low, d)
	if by.Sign() == 0 {
		if ok || q != 0 || rest != 0 {
			t.Fatal("Div by 0", w, high, low, q, rest, ok)
		}
		return
	}
	q1, r1 := new(big.Int).QuoRem(v, by, new(big.Int))
	if fits := q1.BitLen() <= int(n); ok != fits || !ok && (q != 0 || rest != 0) || ok && (q != q1.Uint64() || rest != r1.Uint64()) {
		t.Fatal("Div", w, high, low, d, q, rest, ok)
	}
}

func TestP13_3AndP13_4(t *testing.T) {
	rng := rand.New(rand.NewSource(15))
	for _, w := range widths {
		for _, a := range words {
			for _, b := range words {
				products(t, w, a, b)
				for _, c := range words {
					quotients(t, w, a, b, c)
				}
			}
		}
		for range 500 {
			products(t, w, rng.Uint64(), rng.Uint64())
			d := rng.Uint64()
			quotients(t, w, rng.Uint64()&(1<<(many(w)-1)-1)>>8, rng.Uint64(), d)
		}
	}
	if q, rest, ok := Div(8, 0, 7, 2); q != 3 || rest != 1 || !ok {
		t.Error("example", q, rest, ok)
	}
}
