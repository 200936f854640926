package step

import (
	"iter"
	"slices"

	"sundial/api"
	"sundial/bits"
	"sundial/cpu"
	"sundial/memory"
)

// Machine is one that is stepped in place, so that a run does not copy its pages at each step.
type Machine struct {
	s     api.State
	trace []api.Event
	deeds map[uint8]func(*Machine, api.Insn)
	known map[uint64]api.Insn // what was decoded; nil, if what is executed may change
	next  uint64
}

// fault is what leaves an instruction ahead of its end: a kind, and an address.
type fault struct {
	kind int
	at   uint64
}

// New answers a machine like s, whose memory is its own.
func New(s api.State) *Machine {
	m := &Machine{s: Own(s), deeds: deeds()}
	if memory.Right(s.Pages) {
		m.known = map[uint64]api.Insn{}
	}
	return m
}

// State answers what the machine is now; it is to be stepped no more.
func (m *Machine) State() api.State { return m.s }

// IP answers where the next instruction stands.
func (m *Machine) IP() uint64 { return m.s.C.IP }

// Over tells whether the machine has come to its end.
func (m *Machine) Over() bool { return m.s.Over }

// Events yields what was shown, in order.
func (m *Machine) Events() iter.Seq[api.Event] { return slices.Values(m.trace) }

// Trace answers what was shown, in order; the machine is to be stepped no more.
func (m *Machine) Trace() []api.Event { return m.trace }

// show puts an event behind the others.
func (m *Machine) show(e api.Event) { m.trace = append(m.trace, e) }

// fault shows one, and ends the machine.
func (m *Machine) fault(f fault) {
	m.show(api.Event{Kind: api.EvFault, N: f.kind, A: f.at})
	m.s.Over = true
}

// at answers the instruction at IP, or which fault there is.
func (m *Machine) at() (api.Insn, int) {
	if x, ok := m.known[m.s.C.IP]; ok {
		return x, api.FaultNone
	}
	x, kind := At(m.s)
	if kind == api.FaultNone && m.known != nil {
		m.known[m.s.C.IP] = x
	}
	return x, kind
}

// Step does one step.
func (m *Machine) Step() {
	if m.s.Over {
		return
	}
	if m.s.C.IP == 0 {
		m.show(api.Event{Kind: api.EvEnd})
		m.s.Over = true
		return
	}
	x, kind := m.at()
	if kind != api.FaultNone {
		m.fault(fault{kind, m.s.C.IP})
		return
	}
	m.show(api.Event{Kind: api.EvFetch, A: m.s.C.IP})
	m.do(x)
}

// do does an instruction; with a fault registers are as they were, and nothing was stored.
func (m *Machine) do(x api.Insn) {
	was := m.s.C
	defer func() {
		switch f := recover().(type) {
		case nil:
		case fault:
			m.s.C = was
			m.fault(f)
		default:
			panic(f)
		}
	}()
	m.next = was.IP + uint64(x.Len)
	if deed, ok := m.deeds[x.Do]; ok {
		deed(m, x)
	}
	m.s.C.IP = m.next
}

// load answers so many bytes from an address on.
func (m *Machine) load(at uint64, n int) []byte {
	m.show(api.Event{Kind: api.EvLoad, A: at, N: n})
	b, e := memory.Read(m.s.Pages, at, n)
	if e != api.OK {
		panic(fault{api.FaultRead, at})
	}
	return b
}

// store puts bytes from an address on.
func (m *Machine) store(at uint64, b []byte) {
	m.show(api.Event{Kind: api.EvStore, A: at, N: len(b)})
	if memory.Put(m.s.Pages, at, b) != api.OK {
		panic(fault{api.FaultWrite, at})
	}
}

// address answers that of an operand in memory.
func (m *Machine) address(o api.Operand) uint64 {
	at, _ := cpu.Address(m.s.C, o, m.next)
	return at
}

// value answers an operand's, of a width.
func (m *Machine) value(o api.Operand, width int) uint64 {
	switch o.Kind {
	case api.OpReg:
		return m.get(o.R, width)
	case api.OpMem:
		return bits.Number(m.load(m.address(o), width))
	}
	return bits.Cut(uint64(o.Imm), width)
}

// set sets an operand of a width.
func (m *Machine) set(o api.Operand, width int, x uint64) {
	if o.Kind == api.OpMem {
		m.store(m.address(o), bits.Bytes(x, width))
		return
	}
	m.setReg(o.R, width, x)
}

// get answers a register of a width.
func (m *Machine) get(r, width int) uint64 { return cpu.Get(m.s.C, r, width) }

// setReg sets a register of a width.
func (m *Machine) setReg(r, width int, x uint64) { m.s.C = cpu.Set(m.s.C, r, width, x) }
