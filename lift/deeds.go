package lift

import "sundial/api"

// word is how many bytes the stack goes by.
const word = 8

// lifts answers how each deed is lifted, but for its addresses and where it goes on.
func lifts() map[uint8]func(*lifting) {
	return map[uint8]func(*lifting){
		api.DoMov: (*lifting).mov, api.DoLea: (*lifting).lea,
		api.DoAdd: (*lifting).add, api.DoAdc: (*lifting).add,
		api.DoSub: (*lifting).sub, api.DoSbb: (*lifting).sub, api.DoCmp: (*lifting).sub,
		api.DoAnd: (*lifting).logic, api.DoOr: (*lifting).logic, api.DoXor: (*lifting).logic, api.DoTest: (*lifting).logic,
		api.DoInc: (*lifting).inc, api.DoDec: (*lifting).dec, api.DoNeg: (*lifting).neg, api.DoNot: (*lifting).not,
		api.DoShl: (*lifting).shift, api.DoShr: (*lifting).shift, api.DoSar: (*lifting).shift,
		api.DoRol: (*lifting).shift, api.DoRor: (*lifting).shift,
		api.DoImul: (*lifting).imul, api.DoMul: (*lifting).mul, api.DoDiv: (*lifting).div,
		api.DoPush: (*lifting).push, api.DoPop: (*lifting).pop, api.DoCall: (*lifting).call, api.DoRet: (*lifting).ret,
		api.DoJmp: (*lifting).jmp, api.DoJcc: (*lifting).jcc, api.DoCmov: (*lifting).cmov, api.DoSet: (*lifting).setTo,
		api.DoMovzx: (*lifting).movzx, api.DoMovsx: (*lifting).movsx,
		api.DoMovdqu: (*lifting).vec, api.DoPxor: (*lifting).vec,
		api.DoAesenc: (*lifting).vec, api.DoAeslast: (*lifting).vec, api.DoClmul: (*lifting).vec,
	}
}

func (l *lifting) mov() { l.putA(l.takenB()) }

func (l *lifting) lea() { l.putA(l.b) }

// sum makes a result, its carry and whether it runs over, by three deeds of the same words.
func (l *lifting) sum(ops [3]uint8, takes ...api.Val) (r, c, o api.Val) {
	r = l.made(ops[0], l.x.Width, takes...)
	c = l.made(ops[1], l.x.Width, takes...)
	o = l.made(ops[2], l.x.Width, takes...)
	return r, c, o
}

func (l *lifting) add() {
	x := l.takenA()
	y := l.takenB()
	carry := Word(0)
	if l.x.Do == api.DoAdc {
		carry = Cell(api.CellC)
	}
	r, c, o := l.sum([3]uint8{api.IrAdd, api.IrAddC, api.IrAddO}, x, y, carry)
	l.putA(r)
	l.carried(c, o)
	l.marked(r)
}

func (l *lifting) sub() {
	x := l.takenA()
	y := l.takenB()
	borrow := Word(0)
	if l.x.Do == api.DoSbb {
		borrow = Cell(api.CellC)
	}
	r, c, o := l.sum([3]uint8{api.IrSub, api.IrSubC, api.IrSubO}, x, y, borrow)
	if l.x.Do != api.DoCmp {
		l.putA(r)
	}
	l.carried(c, o)
	l.marked(r)
}

func (l *lifting) logic() {
	x := l.takenA()
	y := l.takenB()
	op := api.IrAnd
	switch l.x.Do {
	case api.DoOr:
		op = api.IrOr
	case api.DoXor:
		op = api.IrXor
	}
	r := l.made(op, l.x.Width, x, y)
	if l.x.Do != api.DoTest {
		l.putA(r)
	}
	l.carried(Word(0), Word(0))
	l.marked(r)
}

// stepped makes one more, or one less, of A.
func (l *lifting) stepped(op, over uint8) {
	x := l.takenA()
	r := l.made(op, l.x.Width, x, Word(1))
	o := l.made(over, l.x.Width, x, Word(1))
	l.putA(r)
	l.flag(api.CellO, o)
	l.marked(r)
}

func (l *lifting) inc() { l.stepped(api.IrAdd, api.IrAddO) }

func (l *lifting) dec() { l.stepped(api.IrSub, api.IrSubO) }

func (l *lifting) neg() {
	r, c, o := l.sum([3]uint8{api.IrSub, api.IrSubC, api.IrSubO}, Word(0), l.takenA())
	l.putA(r)
	l.carried(c, o)
	l.marked(r)
}

// bitsOf is how many bits the instruction's width has.
func (l *lifting) bitsOf() uint64 { return uint64(8 * l.x.Width) }

func (l *lifting) not() {
	all := Word(^uint64(0) >> (64 - l.bitsOf()))
	l.putA(l.made(api.IrXor, l.x.Width, l.takenA(), all))
}

func (l *lifting) imul() {
	x := l.takenA()
	y := l.takenB()
	r := l.made(api.IrMul, l.x.Width, x, y)
	o := l.made(api.IrOver, l.x.Width, x, y)
	l.putA(r)
	l.carried(o, o)
	l.marked(r)
}

func (l *lifting) mul() {
	w, rax, x := l.x.Width, Cell(api.RAX), l.takenA()
	r := l.made(api.IrMul, w, rax, x)
	h := l.made(api.IrHigh, w, rax, x)
	z := l.made(api.IrZero, w, h)
	c := l.made(api.IrXor, 1, z, Word(1))
	l.putReg(api.RAX, w, r)
	l.putReg(api.RDX, w, h)
	l.carried(c, c)
	l.marked(r)
}

func (l *lifting) div() {
	w, rax, rdx, x := l.x.Width, Cell(api.RAX), Cell(api.RDX), l.takenA()
	l.deed(api.IrDiv, w, 0, rax, x, rdx)
	q := l.made(api.IrQuot, w, rax, x, rdx)
	s := l.made(api.IrRest, w, rax, x, rdx)
	l.putReg(api.RAX, w, q)
	l.putReg(api.RDX, w, s)
}

// pushed stores a word at the stack's end.
func (l *lifting) pushed(x api.Val) {
	p := l.made(api.IrSub, word, Cell(api.RSP), Word(word))
	l.deed(api.IrStore, word, 0, p, x)
	l.putReg(api.RSP, word, p)
}

// popped takes a word from the stack's end.
func (l *lifting) popped() api.Val {
	v := l.made(api.IrLoad, word, Cell(api.RSP))
	p := l.made(api.IrAdd, word, Cell(api.RSP), Word(word))
	l.putReg(api.RSP, word, p)
	return v
}

func (l *lifting) push() { l.pushed(l.takenA()) }

func (l *lifting) pop() { l.putA(l.popped()) }

// told answers where the number behind an instruction leads.
func (l *lifting) told() api.Val { return Word(l.next + uint64(l.x.B.Imm)) }

func (l *lifting) call() {
	l.pushed(Word(l.next))
	l.to = l.told()
}

func (l *lifting) ret() { l.to = l.popped() }

func (l *lifting) jmp() {
	if l.x.A.Kind == api.OpNone {
		l.to = l.told()
		return
	}
	l.to = l.takenA()
}

func (l *lifting) jcc() { l.to, l.c = l.told(), l.condition() }

func (l *lifting) cmov() {
	x := l.takenA()
	y := l.takenB()
	k := l.condition()
	l.putA(l.made(api.IrPick, 8, y, x, k))
}

func (l *lifting) setTo() { l.putA(l.condition()) }

// ofByte puts what a deed makes of B's byte into A.
func (l *lifting) ofByte(op uint8) {
	y := l.taken(l.x.B, l.b, 1)
	l.putA(l.made(op, 1, y))
}

func (l *lifting) movzx() { l.ofByte(api.IrCopy) }

func (l *lifting) movsx() { l.ofByte(api.IrExt) }

func (l *lifting) vec() {
	at := Word(0)
	switch {
	case l.x.A.Kind == api.OpMem:
		at = l.a
	case l.x.B.Kind == api.OpMem:
		at = l.b
	}
	l.put(api.Deed{Op: api.IrVec, W: 16, A: at, B: Word(0), C: Word(0), V: l.x})
}
