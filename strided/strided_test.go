package strided

import (
	"math/rand"
	"slices"
	"testing"

	"sundial/api"
	"sundial/bits"
)

const top = ^uint64(0)

func set(step, low, high uint64) api.Set { return api.Set{Step: step, Low: low, High: high} }

func TestP22_1(t *testing.T) {
	for i, c := range []struct {
		s    api.Set
		want bool
	}{
		{set(0, 1, 0), true}, {set(0, 5, 5), true}, {set(0, 0, 0), true}, {set(0, 2, 1), false}, {set(0, 0, 1), false}, {set(1, 1, 0), false}, {set(1, 5, 5), false}, {set(1, 0, top), true},
		{set(4, 3, 19), true}, {set(4, 3, 20), false}, {set(top, 0, top), true}, {set(2, 0, top), false}, {set(3, 0, top), true}, {set(5, 9, 4), false},
	} {
		if Right(c.s) != c.want {
			t.Error(i)
		}
	}
	if None() != set(0, 1, 0) || One(7) != set(0, 7, 7) || All(1) != set(1, 0, 255) || All(0) != set(1, 0, 255) || All(99) != set(1, 0, top) {
		t.Error("None, One, All")
	}
	for i, c := range []struct{ low, high, step, wantStep, wantLow, wantHigh uint64 }{
		{3, 20, 4, 4, 3, 19}, {5, 4, 1, 0, 1, 0}, {5, 5, 1, 0, 5, 5}, {5, 9, 0, 0, 5, 5}, {5, 9, 5, 0, 5, 5}, {5, 9, 4, 4, 5, 9}, {5, 9, 3, 3, 5, 8}, {0, top, 1, 1, 0, top}, {0, top, top, top, 0, top}, {1, top, top, 0, 1, 1},
	} {
		if got := Of(c.low, c.high, c.step); got != set(c.wantStep, c.wantLow, c.wantHigh) {
			t.Error(i, got)
		}
	}
	odd := set(4, 3, 20)
	if Has(odd, 3) || Many(odd) != 0 || len(List(odd, 5)) != 0 || !In(odd, None()) || In(One(3), odd) || Join(odd, One(3)) != One(3) || Widen(odd, One(3), 8) != One(3) || Widen(One(3), odd, 8) != One(3) || Add(odd, One(3), 8) != None() || And(odd, 3) != None() || Cut(odd, 1) != None() || Mul(odd, 0, 1) != None() || Sub(One(1), odd, 8) != None() {
		t.Error("a set that may not be")
	}
	if Many(All(8)) != top || Many(set(1, 1, top)) != top || Many(set(2, 0, top-1)) != 1<<63 || Many(One(4)) != 1 || Many(None()) != 0 || Many(set(4, 3, 19)) != 5 {
		t.Error("Many")
	}
	s := set(4, 3, 19)
	for most, want := range map[int][]uint64{-1: nil, -1 << 63: nil, 0: nil, 1: {3}, 5: {3, 7, 11, 15, 19}, 9: {3, 7, 11, 15, 19}, 1<<63 - 1: {3, 7, 11, 15, 19}} {
		if got := List(s, most); !slices.Equal(got, want) {
			t.Error("List", most, got)
		}
	}
	if got := List(set(1, top-2, top), 9); !slices.Equal(got, []uint64{top - 2, top - 1, top}) {
		t.Error("List at the end", got)
	}
	if got := List(All(8), 3); !slices.Equal(got, []uint64{0, 1, 2}) {
		t.Error("List of all", got)
	}
}

// some makes a set of a width, often small.
func some(rng *rand.Rand, width int) api.Set {
	m := bits.Mask(width)
	switch rng.Intn(8) {
	case 0:
		return None()
	case 1, 2:
		return One(rng.Uint64() & m)
	case 3:
		return All(width)
	case 4:
		return set(rng.Uint64()%9, rng.Uint64()%9, rng.Uint64()%30)
	}
	low := []uint64{rng.Uint64() % 20, rng.Uint64() & m, m - rng.Uint64()%40&m}[rng.Intn(3)]
	return Of(low, min(m, low+min(rng.Uint64()%60, top-low)), rng.Uint64()%12)
}

// listed are a set's values, if there are few, else some of them.
func listed(s api.Set) []uint64 {
	l := List(s, 40)
	if Right(s) && s != None() {
		l = append(l, s.High)
	}
	return l
}

func TestHasAndIn(t *testing.T) {
	rng := rand.New(rand.NewSource(37))
	for range 20000 {
		a, b := some(rng, 1), some(rng, 1)
		l, m := List(a, 1000), List(b, 1000)
		if uint64(len(l)) != Many(a) || !slices.IsSorted(l) {
			t.Fatal("List", a)
		}
		for x := range uint64(300) {
			if Has(a, x) != slices.Contains(l, x) {
				t.Fatal("Has", a, x)
			}
		}
		want := !slices.ContainsFunc(l, func(x uint64) bool { return !slices.Contains(m, x) })
		if In(a, b) != want {
			t.Fatal("In", a, b)
		}
	}
}

func TestP22_2(t *testing.T) {
	if Join(One(3), One(11)) != set(8, 3, 11) || Join(One(3), One(3)) != One(3) || Join(None(), One(3)) != One(3) || Join(None(), None()) != None() || Join(set(6, 0, 12), set(4, 2, 10)) != set(2, 0, 12) || Join(One(0), One(top)) != set(top, 0, top) {
		t.Error("Join")
	}
	for i, c := range []struct {
		a, b  api.Set
		width int
		want  api.Set
	}{
		{None(), One(5), 8, One(5)}, {One(5), None(), 8, One(5)}, {set(1, 0, 9), set(3, 0, 9), 8, set(1, 0, 9)}, {One(5), One(9), 1, set(4, 5, 253)}, {One(9), One(5), 1, set(4, 1, 9)},
		{set(4, 8, 16), One(20), 1, set(4, 8, 252)}, {set(4, 8, 16), One(0), 1, set(4, 0, 16)}, {set(4, 8, 16), set(24, 1, 25), 1, set(1, 0, 255)}, {One(5), One(300), 1, set(295, 5, 300)}, {One(10), One(12), 8, set(2, 10, top-1)}, {set(4, 8, 300), One(304), 1, set(4, 8, 304)},
		{One(7), One(2), 1, set(5, 2, 7)}, {One(27), One(17), 1, set(10, 7, 27)},
	} {
		if got := Widen(c.a, c.b, c.width); got != c.want {
			t.Error(i, got)
		}
	}
	rng := rand.New(rand.NewSource(38))
	for range 20000 {
		w := rng.Intn(8) + 1
		a, b := some(rng, w), some(rng, w)
		j, wd := Join(a, b), Widen(a, b, w)
		if !Right(j) || !Right(wd) || !In(a, j) || !In(b, j) || !In(a, wd) || !In(b, wd) {
			t.Fatal(a, b, j, wd)
		}
		if In(b, a) && Right(a) && a != None() && wd != a {
			t.Fatal("within", a, b, wd)
		}
		many := 0
		for range 400 {
			if next := Widen(a, some(rng, w), w); next != a {
				a = next
				many++
			}
		}
		if many > 200 {
			t.Fatal("widened too often", many)
		}
	}
}

func TestP22_3Known(t *testing.T) {
	for i, c := range []struct{ got, want api.Set }{
		{Add(One(0xff), One(2), 1), One(1)}, {Add(One(0x1ff), One(2), 8), One(0x201)}, {Add(None(), One(2), 1), None()}, {Add(One(2), None(), 1), None()},
		{Add(set(4, 0, 8), set(6, 1, 13), 1), set(2, 1, 21)}, {Add(set(4, 0, 8), One(3), 1), set(4, 3, 11)}, {Add(set(4, 0, 252), One(3), 1), set(4, 3, 255)}, {Add(set(4, 0, 252), One(4), 1), All(1)}, {Add(All(8), One(1), 8), All(8)}, {Add(set(1, 0, 300), One(0), 1), All(1)},
		{Sub(One(1), One(2), 1), One(255)}, {Sub(set(4, 8, 16), One(8), 1), set(4, 0, 8)}, {Sub(set(4, 8, 16), One(9), 1), All(1)}, {Sub(One(20), set(3, 1, 7), 8), set(3, 13, 19)}, {Sub(set(1, 0, 300), One(0), 1), All(1)},
		{Mul(One(200), 2, 1), One(144)}, {Mul(set(3, 1, 7), 4, 1), set(12, 4, 28)}, {Mul(set(3, 1, 64), 4, 1), All(1)}, {Mul(set(3, 1, 7), 0, 1), One(0)}, {Mul(None(), 0, 1), None()}, {Mul(set(17, 0, 51), 5, 1), set(85, 0, 255)}, {And(set(4, 3, 15), 15), set(4, 3, 15)}, {Cut(set(5, 0, 255), 1), set(5, 0, 255)}, {Mul(set(1, 0, 2), 1<<63, 8), All(8)}, {Mul(set(1, 0, 1), 1<<63, 8), set(1<<63, 0, 1<<63)}, {Mul(set(1, 0, 300), 1, 1), All(1)},
		{And(One(13), 6), One(4)}, {And(set(4, 1, 13), 6), set(2, 0, 6)}, {And(set(4, 1, 13), 15), set(4, 1, 13)}, {And(set(4, 1, 17), 15), set(1, 0, 15)}, {And(set(4, 1, 17), 0), One(0)}, {And(All(8), top), All(8)}, {And(set(3, 0, 9), top), set(3, 0, 9)}, {And(set(4, 1, 17), 8), set(8, 0, 8)}, {And(None(), 5), None()}, {And(All(8), 0xf0), set(16, 0, 0xf0)},
		{Cut(One(300), 1), One(44)}, {Cut(One(300), 2), One(300)}, {Cut(One(1<<40), 4), One(0)}, {Cut(One(256), 0), One(0)}, {Cut(One(top), -1), One(255)}, {Cut(One(top), 7), One(top >> 8)}, {Cut(One(top), 8), One(top)}, {Cut(One(top), 99), One(top)}, {Cut(One(0), 1), One(0)}, {Cut(set(100, 0, 300), 1), All(1)}, {Cut(set(100, 300, 400), 1), All(1)},
		{Add(One(300), set(4, 0, 8), 1), set(4, 44, 52)}, {Add(set(4, 0, 8), One(300), 1), set(4, 44, 52)}, {Sub(One(300), set(4, 0, 8), 1), set(4, 36, 44)}, {Sub(set(4, 0, 8), One(256), 1), set(4, 0, 8)},
		{Cut(set(4, 1, 253), 1), set(4, 1, 253)}, {Cut(set(4, 1, 257), 1), All(1)}, {Cut(None(), 1), None()}, {Cut(One(5), 1), One(5)}, {Cut(All(8), 8), All(8)}, {Cut(All(8), 4), All(4)},
	} {
		if c.got != c.want {
			t.Error(i, c.got, c.want)
		}
	}
}

func TestP22_4(t *testing.T) {
	rng := rand.New(rand.NewSource(39))
	for range 30000 {
		w := rng.Intn(9)
		a, b := some(rng, w+rng.Intn(2)), some(rng, w+rng.Intn(2))
		n := []uint64{rng.Uint64() % 9, rng.Uint64() >> rng.Intn(64), 1 << rng.Intn(64), 1<<rng.Intn(64) - 1}[rng.Intn(4)]
		add, sub, mul, and, cut := Add(a, b, w), Sub(a, b, w), Mul(a, n, w), And(a, n), Cut(a, w)
		for _, s := range []api.Set{add, sub, mul, and, cut} {
			if !Right(s) {
				t.Fatal(a, b, n, w, s)
			}
		}
		for _, x := range listed(a) {
			if !Has(mul, bits.Cut(x*n, w)) || !Has(and, x&n) || !Has(cut, bits.Cut(x, w)) {
				t.Fatal(a, x, n, w, mul, and, cut)
			}
			for _, y := range listed(b) {
				if !Has(add, bits.Cut(x+y, w)) || !Has(sub, bits.Cut(x-y, w)) {
					t.Fatal(a, b, x, y, w, add, sub)
				}
			}
		}
	}
}
