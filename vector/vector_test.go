package vector

import (
	"encoding/binary"
	"math/rand"
	"testing"

	"sundial/api"
	"sundial/field"
)

func some(rng *rand.Rand) [16]byte {
	var a [16]byte
	rng.Read(a[:])
	return a
}

func TestP15_1(t *testing.T) {
	rng := rand.New(rand.NewSource(18))
	for range 100 {
		a := some(rng)
		low, high := Words(a)
		if low != binary.LittleEndian.Uint64(a[:8]) || high != binary.LittleEndian.Uint64(a[8:]) || Block(low, high) != a {
			t.Fatal(a, low, high)
		}
	}
	if Of(nil) != [16]byte{} || Of([]byte{1, 2}) != [16]byte{1, 2} {
		t.Error("Of few")
	}
	long := make([]byte, 20)
	for i := range long {
		long[i] = byte(i + 1)
	}
	if Of(long) != [16]byte{1, 2, 3, 4, 5, 6, 7, 8, 9, 10, 11, 12, 13, 14, 15, 16} {
		t.Error("Of many")
	}
}

func TestP15_2AndP15_3(t *testing.T) {
	rng := rand.New(rand.NewSource(19))
	for range 50 {
		a, b := some(rng), some(rng)
		var x [16]byte
		for i := range x {
			x[i] = a[i] ^ b[i]
		}
		if Do(api.DoMovdqu, a, b, 9) != b || Do(api.DoPxor, a, b, 9) != x || Do(api.DoPxor, x, b, 0) != a || Do(api.DoPxor, a, a, 0) != [16]byte{} {
			t.Fatal("moves", a, b)
		}
		if Do(api.DoAesenc, a, b, 9) != field.Round(a, b) || Do(api.DoAeslast, a, b, 9) != field.Last(a, b) {
			t.Fatal("rounds", a, b)
		}
		if Do(api.DoPxor, Do(api.DoAesenc, a, [16]byte{}, 0), b, 0) != Do(api.DoAesenc, a, b, 0) {
			t.Fatal("a round of noughts", a, b)
		}
		wa, wb := [2]uint64{}, [2]uint64{}
		wa[0], wa[1] = Words(a)
		wb[0], wb[1] = Words(b)
		for imm := range 256 {
			low, high := field.Clmul(wa[imm&1], wb[imm>>4&1])
			if Do(api.DoClmul, a, b, uint8(imm)) != Block(low, high) {
				t.Fatal("Clmul", imm)
			}
		}
		for _, do := range []uint8{api.DoNone, api.DoMov, api.DoXor, api.Deeds, 255} {
			if Do(do, a, b, 1) != a {
				t.Fatal("another deed", do)
			}
		}
	}
}
