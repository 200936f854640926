package report

import (
	"iter"
	"slices"
	"strconv"
	"strings"

	"sundial/api"
	"sundial/vector"
)

// parsing is a verdict that is being parsed: of what a line says no more is asked than is needed to take it, for the text that is told anew says whether it was right.
type parsing struct {
	v   api.Verdict
	now *api.State // the machine whose lines are taken
}

// lines yields the words of each line.
func lines(text string) iter.Seq[[]string] {
	return func(yield func([]string) bool) {
		for line := range strings.Lines(text) {
			if !yield(strings.Split(strings.TrimSuffix(line, "\n"), " ")) {
				return
			}
		}
	}
}

// number answers a number in hex.
func number(s string) (uint64, bool) {
	digits, ok := strings.CutPrefix(s, "0x")
	n, e := strconv.ParseUint(digits, 16, 64)
	return n, ok && e == nil
}

// decimal answers a number in digits.
func decimal(s string) (int, bool) {
	n, e := strconv.ParseInt(s, 10, 64)
	return int(n), e == nil
}

// numbers answers numbers in hex, as many as words.
func numbers(words []string) ([]uint64, bool) {
	var l []uint64
	for _, s := range words {
		n, ok := number(s)
		if !ok {
			return nil, false
		}
		l = append(l, n)
	}
	return l, true
}

// word answers the place of a word among those of a kind.
func word(s string, of func(uint8) string) (uint8, bool) {
	for i := range uint8(16) {
		if s != "" && of(i) == s {
			return i, true
		}
	}
	return 0, false
}

// says answers what lines of so many words behind the first one say, by it: each takes them, and tells whether they can be taken.
func (p *parsing) says() map[string]func(words []string) bool {
	return map[string]func(words []string) bool{
		wordError: func(words []string) (ok bool) {
			n, ok := decimal(words[0])
			p.v.E = api.Errno(n)
			return ok
		},
		wordAt: func(words []string) (ok bool) {
			p.v.At, ok = decimal(words[0])
			return ok
		},
		wordWhy: func(words []string) (ok bool) {
			p.v.Why, ok = word(words[0], Why)
			return ok
		},
		wordLeak: func(words []string) bool {
			at, ok := number(words[0])
			kind, also := word(words[1], Leak)
			p.v.Leaks = append(p.v.Leaks, api.Leak{At: at, Kind: kind})
			return ok && also
		},
		wordFirst: func([]string) bool {
			p.now = &p.v.S
			return true
		},
		wordSecond: func([]string) bool {
			p.now = &p.v.T
			return true
		},
	}
}

// machineSays answers the same of a machine's lines.
func (p *parsing) machineSays() map[string]func(words []string) bool {
	s := p.now
	return map[string]func(words []string) bool{
		wordIP: func(words []string) (ok bool) {
			s.C.IP, ok = number(words[0])
			return ok
		},
		wordFlags: func(words []string) bool {
			s.C.F = lettered(words)
			return true
		},
		wordOver: func([]string) bool {
			s.Over = true
			return true
		},
		wordPage: func(words []string) bool {
			at, ok := number(words[0])
			if !ok || len(s.Pages) == api.MaxPages {
				return false
			}
			s.Pages = append(s.Pages, api.Page{At: at, Perm: permitted(words[1]), Data: make([]byte, api.PageSize)})
			return true
		},
		wordBytes: func(words []string) bool {
			at, ok := number(words[0])
			return ok && len(s.Pages) > 0 && filled(s.Pages[len(s.Pages)-1], at, words[1])
		},
	}
}

// lettered answers the flags of letters.
func lettered(words []string) api.Flags {
	has := func(s string) bool { return slices.Contains(words, s) }
	return api.Flags{C: has("c"), Z: has("z"), S: has("s"), O: has("o"), P: has("p")}
}

// permitted answers what may be done with a page by letters.
func permitted(s string) uint8 {
	perm := uint8(0)
	for i, bit := range [3]uint8{api.PermR, api.PermW, api.PermX} {
		if strings.Contains(s, "rwx"[i:i+1]) {
			perm |= bit
		}
	}
	return perm
}

// filled puts a row of digits into a page, and tells whether it can.
func filled(p api.Page, at uint64, s string) bool {
	from := at - p.At
	if from > api.PageSize-rowSize || len(s) != 2*rowSize {
		return false
	}
	for i := range rowSize {
		n, e := strconv.ParseUint(s[2*i:2*i+2], 16, 8)
		if e != nil {
			return false
		}
		p.Data[from+uint64(i)] = byte(n)
	}
	return true
}

// many answers how many words stand behind a first one, -1 if as many as there may be.
func many(first string) int {
	switch first {
	case wordFirst, wordSecond, wordOver:
		return 0
	case wordLeak, wordPage, wordBytes:
		return 2
	case wordFlags:
		return -1
	}
	return 1
}

// register takes a line of a register or a vector, and tells whether it is one.
func (p *parsing) register(first string, words []string) bool {
	n, ok := numbers(words)
	for i, name := range registers {
		if name == first && ok && len(n) == 1 {
			p.now.C.R[i] = n[0]
			return true
		}
	}
	name, isVector := strings.CutPrefix(first, wordVector)
	i, also := decimal(name)
	if !isVector || !also || i < 0 || i >= len(p.now.C.X) || !ok || len(n) != 2 {
		return false
	}
	p.now.C.X[i] = vector.Block(n[1], n[0])
	return true
}

// line takes a line behind the first one, and tells whether it can be taken.
func (p *parsing) line(first string, words []string) bool {
	say, ok := p.says()[first]
	if !ok && p.now != nil {
		if say, ok = p.machineSays()[first]; !ok {
			return p.register(first, words)
		}
	}
	if n := many(first); !ok || n >= 0 && n != len(words) {
		return false
	}
	return say(words)
}

// Parse answers the verdict of which it is the text.
func Parse(text string) (api.Verdict, api.Errno) {
	p := &parsing{}
	whole := true
parsing:
	for words := range lines(text) {
		if p.v.Kind == 0 {
			p.v.Kind, whole = word(words[0], Kind)
		} else {
			whole = p.line(words[0], words[1:])
		}
		if !whole {
			break parsing
		}
	}
	if again, e := Text(p.v); !whole || e != api.OK || again != text {
		return api.Verdict{}, api.ErrArg
	}
	return p.v, api.OK
}
