package transfer

import (
	"slices"

	"sundial/api"
	"sundial/bits"
	"sundial/dirt"
	"sundial/interp"
	"sundial/memory"
	"sundial/strided"
)

// known is what is known of one word: its set, and whether it may differ.
type known struct {
	set     api.Set
	differs bool
}

// knowing is what is known amid deeds: cells, and the rest; pages, and where it went.
type knowing struct {
	cells [api.Cells]known
	a     api.Abs
	pages []api.Page
	went  api.Went
}

// maxWords is of how many values an address's set may be for what is loaded to be known.
const maxWords = 64

// vecWidth is how many bytes a vector has.
const vecWidth = 16

// begun answers what is known ahead of deeds.
func begun(a api.Abs, p []api.Page) *knowing {
	a.Dirt, a.Slots = slices.Clone(a.Dirt), slices.Clone(a.Slots)
	k := &knowing{a: a, pages: p}
	for i := range k.cells {
		k.cells[i].set = strided.One(0)
	}
	for i := range a.V {
		k.cells[i] = known{a.V[i], a.D[i]}
	}
	return k
}

// ended answers what is known behind deeds.
func (k *knowing) ended() api.Abs {
	for i := range k.a.V {
		k.a.V[i], k.a.D[i] = k.cells[i].set, k.cells[i].differs
	}
	for c := range flags() {
		switch v := k.a.V[c]; {
		case only(v, 0):
			k.a.V[c] = strided.One(0)
		case !strided.Has(v, 0):
			k.a.V[c] = strided.One(1)
		default:
			k.a.V[c] = yesNo()
		}
	}
	return k.a
}

// one answers a set's value, and whether it has just one.
func one(s api.Set) (uint64, bool) { return s.Low, strided.Many(s) == 1 }

// only tells whether a set has x alone.
func only(s api.Set, x uint64) bool {
	n, ok := one(s)
	return ok && n == x
}

// taken answers what is known of what a deed takes.
func (k *knowing) taken(v api.Val) known {
	if v.Is {
		return known{set: strided.One(v.N)}
	}
	return k.cells[v.Cell]
}

// Run answers what is known behind these deeds, and where they went.
func Run(a api.Abs, p []api.Page, l ...api.Deed) (api.Abs, api.Went) {
	k := begun(a, p)
doing:
	for _, d := range l {
		if !interp.Right(d) {
			continue
		}
		if leak := k.do(d); leak != api.LeakNone {
			k.went = api.Went{Leak: leak}
			break doing
		}
	}
	return k.ended(), k.went
}

// do makes what is known of a deed, or answers its leak.
func (k *knowing) do(d api.Deed) uint8 {
	a, b, x := k.taken(d.A), k.taken(d.B), k.taken(d.C)
	switch d.Op {
	case api.IrLoad:
		word, leak := k.load(a, d.W)
		if leak == api.LeakNone {
			k.cells[d.D] = word
		}
		return leak
	case api.IrStore:
		return k.store(a, d.W, b.differs)
	case api.IrDiv:
		if a.differs || b.differs || x.differs {
			return api.LeakDiv
		}
		return api.LeakNone
	case api.IrGo:
		return k.goOn(d, a, b, x)
	case api.IrVec:
		return k.vec(d.V, a)
	}
	k.cells[d.D] = known{made(d, a.set, b.set, x.set), differs(d.Op, a, b, x)}
	return api.LeakNone
}

// span answers the addresses of so many bytes from a set's values on, and whether they do not run over.
func span(s api.Set, n int) (api.Range, bool) {
	high := s.High + uint64(n-1)
	if strided.Many(s) == 0 || high < s.High {
		return api.Range{Low: 0, High: ^uint64(0)}, false
	}
	return api.Range{Low: s.Low, High: high}, true
}

// load answers what is known of a word that is loaded, or its leak.
func (k *knowing) load(at known, w int) (known, uint8) {
	if at.differs {
		return known{}, api.LeakLoad
	}
	where, _ := span(at.set, w)
	return known{k.words(at.set, w), dirt.Meets(k.a.Dirt, where)}, api.LeakNone
}

// words answers which words stand at a set's addresses.
func (k *knowing) words(at api.Set, w int) api.Set {
	all := strided.None()
	if many := strided.Many(at); many < 1 || many > maxWords || w > 8 {
		return strided.All(w)
	}
	for _, x := range strided.List(at, maxWords) {
		if !k.constant(x, w) {
			return strided.All(w)
		}
		b, _ := memory.Read(k.pages, x, w)
		all = strided.Join(all, strided.One(bits.Number(b)))
	}
	return all
}

// constant tells whether so many bytes stand on pages that can be read and not written, none of them in dirt.
func (k *knowing) constant(at uint64, w int) bool {
	for i := range uint64(w) {
		j := memory.Find(k.pages, at+i)
		if j < 0 || k.pages[j].Perm&(api.PermR|api.PermW) != api.PermR || dirt.Has(k.a.Dirt, at+i) {
			return false
		}
	}
	return true
}

// store makes what is known of bytes that are stored, or answers its leak.
func (k *knowing) store(at known, w int, differs bool) uint8 {
	if at.differs {
		return api.LeakStore
	}
	where, whole := span(at.set, w)
	for i, s := range k.a.Slots {
		for n := range uint64(slotSize) {
			if dirt.Has([]api.Range{where}, s.At+n) {
				k.a.Slots[i].Ok = false
			}
		}
	}
	switch _, single := one(at.set); {
	case differs:
		k.a.Dirt = dirt.Add(k.a.Dirt, where)
	case single && whole:
		k.a.Dirt = dirt.Sub(k.a.Dirt, where)
	}
	return api.LeakNone
}

// vec makes what is known of a vector's deed, or answers its leak.
func (k *knowing) vec(x api.Insn, at known) uint8 {
	if x.A.Kind == api.OpMem {
		return k.store(at, vecWidth, k.a.X[x.B.R%api.XMM])
	}
	to := &k.a.X[x.A.R%api.XMM]
	from := false
	if x.B.Kind == api.OpMem {
		word, leak := k.load(at, vecWidth)
		if leak != api.LeakNone {
			return leak
		}
		from = word.differs
	} else {
		from = k.a.X[x.B.R%api.XMM]
	}
	switch {
	case x.Do == api.DoMovdqu:
		*to = from
	case x.Do == api.DoPxor && x.A == x.B:
		*to = false
	default:
		*to = *to || from
	}
	return api.LeakNone
}

// goOn makes where it may go on, or answers its leak.
func (k *knowing) goOn(d api.Deed, a, b, x known) uint8 {
	sameNumber := d.A.Is && d.B.Is && d.A.N == d.B.N
	n, single := one(x.set)
	never := single && n == 0
	always := single && n != 0
	switch {
	case x.differs && !sameNumber:
		return api.LeakBranch
	case a.differs && !never || b.differs && !always:
		return api.LeakGo
	}
	k.went.To = nil
	if !never {
		k.went.To = append(k.went.To, a.set)
	}
	if strided.Has(x.set, 0) && !slices.Contains(k.went.To, b.set) {
		k.went.To = append(k.went.To, b.set)
	}
	return api.LeakNone
}
