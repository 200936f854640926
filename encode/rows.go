package encode

import (
	"sundial/api"
	"sundial/bits"
	"sundial/operand"
)

func isNone(o api.Operand) bool { return o == api.Operand{} }

func isR(o api.Operand) bool { return o.Kind == api.OpReg && operand.Right(o) }

func isM(o api.Operand) bool { return o.Kind == api.OpMem && operand.Right(o) }

func isRM(o api.Operand) bool { return operand.Right(o) }

func isX(o api.Operand) bool {
	return o.R >= api.XMM && o.R < api.XMM+16 && o == operand.Reg(o.R)
}

func isXM(o api.Operand) bool { return isX(o) || isM(o) }

func isCL(o api.Operand) bool { return o == operand.Reg(api.RCX) }

func isU8(o api.Operand) bool { return o == Imm(o.Imm) && o.Imm >= 0 && o.Imm <= 255 }

// isI tells of numbers that fit so many bytes, with their sign.
func isI(width int) func(api.Operand) bool {
	return func(o api.Operand) bool {
		return o == Imm(o.Imm) && bits.Ext(uint64(o.Imm), width) == uint64(o.Imm)
	}
}

// lowByte tells whether a register of a byte cannot be told without a byte from 0x40 on.
func lowByte(o api.Operand) bool { return o.Kind == api.OpReg && o.R >= 4 && o.R <= 7 }

// general answers a register's number among those of its kind.
func general(o api.Operand) int { return o.R % api.XMM }

// plain answers an operand whose register, if it is one, is told by its number among those of its kind.
func plain(o api.Operand) api.Operand {
	if o.Kind == api.OpReg {
		return operand.Reg(general(o))
	}
	return o
}

// bInA tells codes with B in rm of A.
func bInA(op ...byte) func(api.Insn) code {
	return func(x api.Insn) code {
		return code{w: x.Width == 8, op: op, reg: general(x.B), rm: plain(x.A)}
	}
}

// aInB tells codes with A in rm of B.
func aInB(op ...byte) func(api.Insn) code {
	return func(x api.Insn) code {
		return code{w: x.Width == 8, op: op, reg: general(x.A), rm: plain(x.B)}
	}
}

// digit tells codes with a digit in rm of A, and B's number of so many bytes behind it.
func digit(d, immLen int, op ...byte) func(api.Insn) code {
	return func(x api.Insn) code {
		return code{w: x.Width == 8, op: op, reg: d, rm: x.A, imm: x.B.Imm, immLen: immLen}
	}
}

// plus tells codes whose opcode has A's three bits.
func plus(op byte) func(api.Insn) code {
	return func(x api.Insn) code { return code{op: []byte{op}, plus: true, reg: x.A.R} }
}

// jump tells codes of an opcode, with B's number of so many bytes behind it.
func jump(immLen int, op ...byte) func(api.Insn) code {
	return func(x api.Insn) code { return code{op: op, bare: true, imm: x.B.Imm, immLen: immLen} }
}

// byCond tells codes whose last opcode byte has the condition added.
func byCond(f func(op ...byte) func(api.Insn) code, op ...byte) func(api.Insn) code {
	return func(x api.Insn) code {
		c := f(op...)(x)
		c.op = append([]byte(nil), op...)
		c.op[len(op)-1] += x.Cond
		return c
	}
}

// ofByte tells codes with a byte's registers, those of them that bytes tells.
func ofByte(f func(api.Insn) code, bytes func(api.Insn) bool) func(api.Insn) code {
	return func(x api.Insn) code {
		c := f(x)
		c.low = bytes(x)
		return c
	}
}

// vector tells codes behind a prefix, without W.
func vector(prefix byte, f func(api.Insn) code) func(api.Insn) code {
	return func(x api.Insn) code {
		c := f(x)
		c.prefix = prefix
		return c
	}
}

// eitherLow tells of both operands, lowB of B alone.
func eitherLow(x api.Insn) bool { return lowByte(x.A) || lowByte(x.B) }

func lowB(x api.Insn) bool { return lowByte(x.B) }

// rows answers how the rows of each deed are made.
func rows() map[uint8]func(do uint8) group[row] {
	return map[uint8]func(do uint8) group[row]{
		api.DoMov: moveRows,
		api.DoLea: func(uint8) group[row] { return group[row]{{both, isR, isM, aInB(0x8d)}} },
		api.DoAdd: sumRows, api.DoOr: sumRows, api.DoAdc: sumRows, api.DoSbb: sumRows,
		api.DoAnd: sumRows, api.DoSub: sumRows, api.DoXor: sumRows, api.DoCmp: sumRows,
		api.DoTest: func(uint8) group[row] {
			return group[row]{{both, isRM, isR, bInA(0x85)}, {both, isRM, isI(4), digit(0, 4, 0xf7)}}
		},
		api.DoInc: oneRows, api.DoDec: oneRows, api.DoNot: oneRows, api.DoNeg: oneRows, api.DoMul: oneRows, api.DoDiv: oneRows,
		api.DoRol: shiftRows, api.DoRor: shiftRows, api.DoShl: shiftRows, api.DoShr: shiftRows, api.DoSar: shiftRows,
		api.DoImul: func(uint8) group[row] { return group[row]{{both, isR, isRM, aInB(0x0f, 0xaf)}} },
		api.DoPush: func(uint8) group[row] { return group[row]{{8, isR, isNone, plus(0x50)}} },
		api.DoPop:  func(uint8) group[row] { return group[row]{{8, isR, isNone, plus(0x58)}} },
		api.DoCall: func(uint8) group[row] { return group[row]{{8, isNone, isI(4), jump(4, 0xe8)}} },
		api.DoJmp: func(uint8) group[row] {
			far := func(x api.Insn) code { return code{op: []byte{0xff}, reg: 4, rm: x.A} }
			return group[row]{{8, isNone, isI(4), jump(4, 0xe9)}, {8, isRM, isNone, far}}
		},
		api.DoJcc: func(uint8) group[row] {
			near := func(op ...byte) func(api.Insn) code { return jump(4, op...) }
			return group[row]{{8, isNone, isI(4), byCond(near, 0x0f, 0x80)}}
		},
		api.DoRet:  func(uint8) group[row] { return group[row]{{8, isNone, isNone, jump(0, 0xc3)}} },
		api.DoNop:  func(uint8) group[row] { return group[row]{{8, isNone, isNone, jump(0, 0x90)}} },
		api.DoCmov: func(uint8) group[row] { return group[row]{{both, isR, isRM, byCond(aInB, 0x0f, 0x40)}} },
		api.DoSet: func(uint8) group[row] {
			set := func(op ...byte) func(api.Insn) code { return digit(0, 0, op...) }
			return group[row]{{1, isRM, isNone, ofByte(byCond(set, 0x0f, 0x90), eitherLow)}}
		},
		api.DoMovzx:   func(uint8) group[row] { return group[row]{{both, isR, isRM, ofByte(aInB(0x0f, 0xb6), lowB)}} },
		api.DoMovsx:   func(uint8) group[row] { return group[row]{{both, isR, isRM, ofByte(aInB(0x0f, 0xbe), lowB)}} },
		api.DoMovdqu:  vectorRows,
		api.DoPxor:    vectorRows,
		api.DoAesenc:  vectorRows,
		api.DoAeslast: vectorRows,
		api.DoClmul:   vectorRows,
	}
}

// moveRows are those of DoMov.
func moveRows(uint8) group[row] {
	wide := func(x api.Insn) code {
		return code{w: true, op: []byte{0xb8}, plus: true, reg: x.A.R, imm: x.B.Imm, immLen: 8}
	}
	return group[row]{
		{1, isRM, isR, ofByte(bInA(0x88), eitherLow)},
		{1, isR, isM, ofByte(aInB(0x8a), eitherLow)},
		{1, isRM, isI(1), ofByte(digit(0, 1, 0xc6), eitherLow)},
		{both, isRM, isR, bInA(0x89)},
		{both, isR, isM, aInB(0x8b)},
		{both, isRM, isI(4), digit(0, 4, 0xc7)},
		{8, isR, isI(8), wide},
	}
}

// sumRows are those from DoAdd to DoCmp, whose opcodes go by eights.
func sumRows(do uint8) group[row] {
	k := int(do - api.DoAdd)
	op := byte(8 * k)
	return group[row]{
		{both, isRM, isR, bInA(op + 1)},
		{both, isR, isM, aInB(op + 3)},
		{both, isRM, isI(1), digit(k, 1, 0x83)},
		{both, isRM, isI(4), digit(k, 4, 0x81)},
	}
}

// oneRows are those with one operand, told apart by a digit.
func oneRows(do uint8) group[row] {
	one := func(op byte, d int) group[row] { return group[row]{{both, isRM, isNone, digit(d, 0, op)}} }
	switch do {
	case api.DoInc:
		return one(0xff, 0)
	case api.DoDec:
		return one(0xff, 1)
	case api.DoNot:
		return one(0xf7, 2)
	case api.DoNeg:
		return one(0xf7, 3)
	case api.DoMul:
		return one(0xf7, 4)
	}
	return one(0xf7, 6)
}

// shiftRows are those of shifts, told apart by a digit.
func shiftRows(do uint8) group[row] {
	by := func(d int) group[row] {
		return group[row]{{both, isRM, isU8, digit(d, 1, 0xc1)}, {both, isRM, isCL, digit(d, 0, 0xd3)}}
	}
	switch do {
	case api.DoRol:
		return by(0)
	case api.DoRor:
		return by(1)
	case api.DoShl:
		return by(4)
	case api.DoShr:
		return by(5)
	}
	return by(7)
}

// vectorRows are those of vectors.
func vectorRows(do uint8) group[row] {
	whole := func(prefix byte, op ...byte) row { return row{16, isX, isXM, vector(prefix, aInB(op...))} }
	switch do {
	case api.DoMovdqu:
		return group[row]{whole(0xf3, 0x0f, 0x6f), {16, isM, isX, vector(0xf3, bInA(0x0f, 0x7f))}}
	case api.DoPxor:
		return group[row]{whole(0x66, 0x0f, 0xef)}
	case api.DoAesenc:
		return group[row]{whole(0x66, 0x0f, 0x38, 0xdc)}
	case api.DoAeslast:
		return group[row]{whole(0x66, 0x0f, 0x38, 0xdd)}
	}
	product := func(x api.Insn) code {
		c := vector(0x66, aInB(0x0f, 0x3a, 0x44))(x)
		c.imm, c.immLen = int64(x.Imm), 1
		return c
	}
	return group[row]{{16, isX, isXM, product}}
}
