package transfer

import (
	"sundial/api"
	"sundial/bits"
	"sundial/interp"
	"sundial/strided"
)

// takesB tells whether a deed that sets a cell takes B.
func takesB(op uint8) bool {
	switch op {
	case api.IrCopy, api.IrExt, api.IrZero, api.IrSign, api.IrEven:
		return false
	}
	return true
}

// takesC tells whether a deed that sets a cell takes C.
func takesC(op uint8) bool {
	switch op {
	case api.IrAdd, api.IrSub, api.IrAddC, api.IrSubC, api.IrAddO, api.IrSubO, api.IrQuot, api.IrRest, api.IrPick:
		return true
	}
	return false
}

// isYesNo tells whether a deed sets 0 or 1.
func isYesNo(op uint8) bool {
	switch op {
	case api.IrAddC, api.IrAddO, api.IrSubC, api.IrSubO, api.IrOver, api.IrZero, api.IrSign, api.IrEven, api.IrIs:
		return true
	}
	return false
}

// differs tells whether what a deed sets may differ.
func differs(op uint8, a, b, x known) bool {
	return a.differs || takesB(op) && b.differs || takesC(op) && x.differs
}

// made answers the set of what a deed sets, by the sets of what it takes.
func made(d api.Deed, a, b, x api.Set) api.Set {
	n, okA := one(a)
	m, okB := one(b)
	o, okC := one(x)
	if okA && okB && okC {
		return strided.One(interp.Value(d.Op, d.W, n, m, o))
	}
	switch {
	case d.Op == api.IrCopy:
		return strided.Cut(a, d.W)
	case d.Op == api.IrAdd && only(x, 0):
		return strided.Add(a, b, d.W)
	case d.Op == api.IrSub && only(x, 0):
		return strided.Sub(a, b, d.W)
	case d.Op == api.IrAnd && okB:
		return masked(a, m, d.W)
	case d.Op == api.IrAnd && okA:
		return masked(b, n, d.W)
	case d.Op == api.IrShl && okB:
		return strided.Mul(a, 1<<(bits.Cut(m, d.W)%64), d.W)
	case d.Op == api.IrPick:
		return strided.Join(a, b)
	case isYesNo(d.Op):
		return yesNo()
	case d.Op == api.IrExt:
		return strided.All(8)
	}
	return strided.All(d.W)
}

// masked answers the values of a with n, bit by bit, of a width.
func masked(a api.Set, n uint64, w int) api.Set {
	return strided.Cut(strided.And(strided.Cut(a, w), bits.Cut(n, w)), w)
}
