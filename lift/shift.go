package lift

import "sundial/api"

// shiftOp answers the deed that does a shift.
func shiftOp(do uint8) uint8 {
	switch do {
	case api.DoShl:
		return api.IrShl
	case api.DoShr:
		return api.IrShr
	case api.DoSar:
		return api.IrSar
	case api.DoRol:
		return api.IrRol
	}
	return api.IrRor
}

// by answers by how many bits it is shifted.
func (l *lifting) by() api.Val {
	many := uint64(32)
	if l.x.Width == 8 {
		many = 64
	}
	if l.x.B.Kind == api.OpImm {
		return Word(uint64(l.x.B.Imm) % many)
	}
	return l.made(api.IrAnd, 1, Cell(api.RCX), Word(many-1))
}

// less answers a word less another one, of a byte; a number, if both are.
func (l *lifting) less(a, b api.Val) api.Val {
	if a.Is && b.Is {
		return Word(a.N - b.N)
	}
	return l.made(api.IrSub, 1, a, b)
}

// fallen answers the bit that fell out last, of x shifted by a deed by k.
func (l *lifting) fallen(op uint8, x, k api.Val) api.Val {
	d := l.made(op, l.x.Width, x, k)
	return l.made(api.IrAnd, 1, d, Word(1))
}

// shiftFlags answers C and O of x, shifted by k to r.
func (l *lifting) shiftFlags(x, k, r api.Val) (c, o api.Val) {
	w := l.x.Width
	switch l.x.Do {
	case api.DoShl:
		c = l.fallen(api.IrShr, x, l.less(Word(l.bitsOf()), k))
		s := l.made(api.IrSign, w, r)
		return c, l.made(api.IrXor, 1, s, c)
	case api.DoShr:
		c = l.fallen(api.IrShr, x, l.less(k, Word(1)))
		return c, l.made(api.IrSign, w, x)
	case api.DoSar:
		return l.fallen(api.IrSar, x, l.less(k, Word(1))), Word(0)
	case api.DoRol:
		c = l.made(api.IrAnd, 1, r, Word(1))
		s := l.made(api.IrSign, w, r)
		return c, l.made(api.IrXor, 1, s, c)
	}
	c = l.made(api.IrSign, w, r)
	next := l.made(api.IrShl, w, r, Word(1))
	s := l.made(api.IrSign, w, next)
	return c, l.made(api.IrXor, 1, c, s)
}

// picked sets a cell to a word, if k is not 0.
func (l *lifting) picked(cell int, word, k api.Val) {
	l.deed(api.IrPick, 8, cell, word, Cell(cell), k)
}

// shift lifts a shift: without bits no flag is set.
func (l *lifting) shift() {
	w := l.x.Width
	turns := l.x.Do == api.DoRol || l.x.Do == api.DoRor
	x := l.takenA()
	k := l.by()
	if k == Word(0) {
		l.putA(l.made(api.IrCopy, w, x))
		return
	}
	r := l.made(shiftOp(l.x.Do), w, x, k)
	c, o := l.shiftFlags(x, k, r)
	l.putA(r)
	if k.Is {
		l.carried(c, o)
		if !turns {
			l.marked(r)
		}
		return
	}
	l.picked(api.CellC, c, k)
	l.picked(api.CellO, o, k)
	if turns {
		return
	}
	z := l.made(api.IrZero, w, r)
	s := l.made(api.IrSign, w, r)
	p := l.made(api.IrEven, w, r)
	l.picked(api.CellZ, z, k)
	l.picked(api.CellS, s, k)
	l.picked(api.CellP, p, k)
}
