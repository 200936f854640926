package step

import (
	"sundial/alu"
	"sundial/api"
	"sundial/bits"
	"sundial/cpu"
	"sundial/vector"
)

// word is how many bytes the stack goes by.
const word = 8

// deeds answers how each deed is done.
func deeds() map[uint8]func(*Machine, api.Insn) {
	return map[uint8]func(*Machine, api.Insn){
		api.DoMov: (*Machine).mov, api.DoLea: (*Machine).lea,
		api.DoAdd: (*Machine).add, api.DoAdc: (*Machine).add,
		api.DoSub: (*Machine).sub, api.DoSbb: (*Machine).sub, api.DoCmp: (*Machine).sub,
		api.DoAnd: (*Machine).logic, api.DoOr: (*Machine).logic, api.DoXor: (*Machine).logic, api.DoTest: (*Machine).logic,
		api.DoInc: (*Machine).inc, api.DoDec: (*Machine).dec, api.DoNeg: (*Machine).neg, api.DoNot: (*Machine).not,
		api.DoShl: (*Machine).shift, api.DoShr: (*Machine).shift, api.DoSar: (*Machine).shift,
		api.DoRol: (*Machine).shift, api.DoRor: (*Machine).shift,
		api.DoImul: (*Machine).imul, api.DoMul: (*Machine).mul, api.DoDiv: (*Machine).div,
		api.DoPush: (*Machine).push, api.DoPop: (*Machine).pop, api.DoCall: (*Machine).call, api.DoRet: (*Machine).ret,
		api.DoJmp: (*Machine).jmp, api.DoJcc: (*Machine).jcc, api.DoCmov: (*Machine).cmov, api.DoSet: (*Machine).setTo,
		api.DoMovzx: (*Machine).movzx, api.DoMovsx: (*Machine).movsx,
		api.DoMovdqu: (*Machine).movdqu, api.DoPxor: (*Machine).mixed,
		api.DoAesenc: (*Machine).mixed, api.DoAeslast: (*Machine).mixed, api.DoClmul: (*Machine).mixed,
	}
}

func (m *Machine) mov(x api.Insn) { m.set(x.A, x.Width, m.value(x.B, x.Width)) }

func (m *Machine) lea(x api.Insn) { m.set(x.A, x.Width, bits.Cut(m.address(x.B), x.Width)) }

// both answers A's and B's values, A's loaded ahead of B's.
func (m *Machine) both(x api.Insn) (a, b uint64) {
	a = m.value(x.A, x.Width)
	return a, m.value(x.B, x.Width)
}

func (m *Machine) add(x api.Insn) {
	a, b := m.both(x)
	r, f := alu.Add(x.Width, a, b, x.Do == api.DoAdc && m.s.C.F.C)
	m.set(x.A, x.Width, r)
	m.s.C.F = f
}

func (m *Machine) sub(x api.Insn) {
	a, b := m.both(x)
	r, f := alu.Sub(x.Width, a, b, x.Do == api.DoSbb && m.s.C.F.C)
	if x.Do != api.DoCmp {
		m.set(x.A, x.Width, r)
	}
	m.s.C.F = f
}

func (m *Machine) logic(x api.Insn) {
	a, b := m.both(x)
	r := a & b
	switch x.Do {
	case api.DoOr:
		r = a | b
	case api.DoXor:
		r = a ^ b
	}
	if x.Do != api.DoTest {
		m.set(x.A, x.Width, r)
	}
	m.s.C.F = alu.Logic(x.Width, r)
}

func (m *Machine) inc(x api.Insn) {
	r, f := alu.Inc(x.Width, m.value(x.A, x.Width), m.s.C.F)
	m.set(x.A, x.Width, r)
	m.s.C.F = f
}

func (m *Machine) dec(x api.Insn) {
	r, f := alu.Dec(x.Width, m.value(x.A, x.Width), m.s.C.F)
	m.set(x.A, x.Width, r)
	m.s.C.F = f
}

func (m *Machine) neg(x api.Insn) {
	r, f := alu.Neg(x.Width, m.value(x.A, x.Width))
	m.set(x.A, x.Width, r)
	m.s.C.F = f
}

func (m *Machine) not(x api.Insn) { m.set(x.A, x.Width, bits.Cut(^m.value(x.A, x.Width), x.Width)) }

func (m *Machine) shift(x api.Insn) {
	a := m.value(x.A, x.Width)
	r, f := alu.Shift(x.Do, x.Width, a, byte(m.value(x.B, 1)), m.s.C.F)
	m.set(x.A, x.Width, r)
	m.s.C.F = f
}

func (m *Machine) imul(x api.Insn) {
	a, b := m.both(x)
	r, f := alu.Imul(x.Width, a, b)
	m.set(x.A, x.Width, r)
	m.s.C.F = f
}

func (m *Machine) mul(x api.Insn) {
	a := m.value(x.A, x.Width)
	low, high, f := alu.Mul(x.Width, m.get(api.RAX, x.Width), a)
	m.setReg(api.RAX, x.Width, low)
	m.setReg(api.RDX, x.Width, high)
	m.s.C.F = f
}

func (m *Machine) div(x api.Insn) {
	d := m.value(x.A, x.Width)
	low, high := m.get(api.RAX, x.Width), m.get(api.RDX, x.Width)
	m.show(api.Event{Kind: api.EvDiv, A: low, B: high, C: d})
	q, rest, ok := alu.Div(x.Width, high, low, d)
	if !ok {
		panic(fault{api.FaultDiv, m.s.C.IP})
	}
	m.setReg(api.RAX, x.Width, q)
	m.setReg(api.RDX, x.Width, rest)
}

// pushed stores a word at the stack's end.
func (m *Machine) pushed(x uint64) {
	at := m.s.C.R[api.RSP] - word
	m.store(at, bits.Bytes(x, word))
	m.s.C.R[api.RSP] = at
}

// popped takes a word from the stack's end.
func (m *Machine) popped() uint64 {
	x := bits.Number(m.load(m.s.C.R[api.RSP], word))
	m.s.C.R[api.RSP] += word
	return x
}

func (m *Machine) push(x api.Insn) { m.pushed(m.value(x.A, word)) }

func (m *Machine) pop(x api.Insn) { m.set(x.A, word, m.popped()) }

func (m *Machine) call(x api.Insn) {
	m.pushed(m.next)
	m.next += uint64(x.B.Imm)
}

func (m *Machine) ret(api.Insn) { m.next = m.popped() }

func (m *Machine) jmp(x api.Insn) {
	if x.A.Kind == api.OpNone {
		m.next += uint64(x.B.Imm)
		return
	}
	m.next = m.value(x.A, word)
}

// holds tells whether an instruction's condition does.
func (m *Machine) holds(x api.Insn) bool { return cpu.Cond(m.s.C.F, x.Cond) }

func (m *Machine) jcc(x api.Insn) {
	if m.holds(x) {
		m.next += uint64(x.B.Imm)
	}
}

func (m *Machine) cmov(x api.Insn) {
	a, b := m.both(x)
	if m.holds(x) {
		a = b
	}
	m.set(x.A, x.Width, a)
}

func (m *Machine) setTo(x api.Insn) {
	r := uint64(0)
	if m.holds(x) {
		r = 1
	}
	m.set(x.A, x.Width, r)
}

func (m *Machine) movzx(x api.Insn) { m.set(x.A, x.Width, m.value(x.B, 1)) }

func (m *Machine) movsx(x api.Insn) { m.set(x.A, x.Width, bits.Ext(m.value(x.B, 1), 1)) }

// block answers an operand's sixteen bytes.
func (m *Machine) block(o api.Operand) [16]byte {
	if o.Kind == api.OpMem {
		return vector.Of(m.load(m.address(o), 16))
	}
	return cpu.Vector(m.s.C, o.R)
}

func (m *Machine) movdqu(x api.Insn) {
	if x.A.Kind == api.OpMem {
		b := m.block(x.B)
		m.store(m.address(x.A), b[:])
		return
	}
	m.mixed(x)
}

func (m *Machine) mixed(x api.Insn) {
	b := m.block(x.B)
	to := &m.s.C.X[x.A.R%api.XMM]
	*to = vector.Do(x.Do, *to, b, x.Imm)
}
