package interp

import (
	"sundial/alu"
	"sundial/api"
	"sundial/bits"
)

// many is what shifts go by the rest of.
const many = 64

// worker tells what is set of a, b and x, of a width.
type worker func(w int, a, b, x uint64) uint64

// divides tells whether (x, a) by b has a quotient.
func divides(w int, a, b, x uint64) bool {
	_, _, ok := alu.Div(w, x, a, b)
	return ok
}

// values answers how what is set is told, by deeds; a, b and x are cut.
func values() map[uint8]worker {
	one := func(x uint64) bool { return x&1 == 1 }
	return map[uint8]worker{
		api.IrCopy: func(_ int, a, _, _ uint64) uint64 { return a },
		api.IrAdd:  func(_ int, a, b, x uint64) uint64 { return a + b + x&1 },
		api.IrSub:  func(_ int, a, b, x uint64) uint64 { return a - b - x&1 },
		api.IrAddC: func(w int, a, b, x uint64) uint64 {
			_, out, _ := bits.Add(a, b, one(x), w)
			return flag(out)
		},
		api.IrSubC: func(w int, a, b, x uint64) uint64 {
			_, out, _ := bits.Sub(a, b, one(x), w)
			return flag(out)
		},
		api.IrAddO: func(w int, a, b, x uint64) uint64 {
			_, _, over := bits.Add(a, b, one(x), w)
			return flag(over)
		},
		api.IrSubO: func(w int, a, b, x uint64) uint64 {
			_, _, over := bits.Sub(a, b, one(x), w)
			return flag(over)
		},
		api.IrAnd: func(_ int, a, b, _ uint64) uint64 { return a & b },
		api.IrOr:  func(_ int, a, b, _ uint64) uint64 { return a | b },
		api.IrXor: func(_ int, a, b, _ uint64) uint64 { return a ^ b },
		api.IrShl: func(_ int, a, b, _ uint64) uint64 { return a << (b % many) },
		api.IrShr: func(_ int, a, b, _ uint64) uint64 { return a >> (b % many) },
		api.IrSar: func(w int, a, b, _ uint64) uint64 { return uint64(int64(bits.Ext(a, w)) >> (b % many)) },
		api.IrRol: func(w int, a, b, _ uint64) uint64 { return bits.Turn(a, int(byte(b)), w) },
		api.IrRor: func(w int, a, b, _ uint64) uint64 { return bits.Turn(a, -int(byte(b)), w) },
		api.IrMul: func(w int, a, b, _ uint64) uint64 {
			low, _, _ := alu.Mul(w, a, b)
			return low
		},
		api.IrHigh: func(w int, a, b, _ uint64) uint64 {
			_, high, _ := alu.Mul(w, a, b)
			return high
		},
		api.IrOver: func(w int, a, b, _ uint64) uint64 {
			_, f := alu.Imul(w, a, b)
			return flag(f.O)
		},
		api.IrQuot: func(w int, a, b, x uint64) uint64 {
			q, _, _ := alu.Div(w, x, a, b)
			return q
		},
		api.IrRest: func(w int, a, b, x uint64) uint64 {
			_, rest, _ := alu.Div(w, x, a, b)
			return rest
		},
		api.IrZero: func(_ int, a, _, _ uint64) uint64 { return flag(a == 0) },
		api.IrSign: func(w int, a, _, _ uint64) uint64 { return flag(bits.Sign(a, w)) },
		api.IrEven: func(_ int, a, _, _ uint64) uint64 { return flag(bits.Parity(a)) },
		api.IrIs:   func(_ int, a, b, _ uint64) uint64 { return flag(a == b) },
	}
}

// value answers what a deed sets; those whose word is of 64 bits whatever the width stand apart.
func value(l map[uint8]worker, op uint8, w int, a, b, x uint64) uint64 {
	switch op {
	case api.IrPick:
		if x != 0 {
			return a
		}
		return b
	case api.IrExt:
		return bits.Ext(a, w)
	}
	work, ok := l[op]
	if !ok {
		return 0
	}
	return bits.Cut(work(w, bits.Cut(a, w), bits.Cut(b, w), bits.Cut(x, w)), w)
}

// Value answers what a deed of that kind and width sets of a, b and x.
func Value(op uint8, w int, a, b, x uint64) uint64 { return value(values(), op, w, a, b, x) }
