package contract

import (
	"iter"
	"strconv"
	"strings"

	"sundial/api"
	"sundial/dirt"
)

// maxText is how many bytes a text may have.
const maxText = 20000

// The words of a text.
const (
	wordOpen   = "open"
	wordSecret = "secret"
	nameFlags  = "flags"
)

// flagsNumber is the number of the flags among what has a name, behind registers and vectors.
const flagsNumber = 2 * api.XMM

// names answers the numbers of what has a name: registers, vectors from XMM on, flags.
func names() map[string]int {
	l := map[string]int{
		"rax": api.RAX, "rcx": api.RCX, "rdx": api.RDX, "rbx": api.RBX,
		"rsp": api.RSP, "rbp": api.RBP, "rsi": api.RSI, "rdi": api.RDI, nameFlags: flagsNumber,
	}
	for i := range api.XMM {
		if i > api.RDI {
			l["r"+strconv.Itoa(i)] = i
		}
		l["xmm"+strconv.Itoa(i)] = api.XMM + i
	}
	return l
}

// named answers the names by their numbers.
func named() [flagsNumber + 1]string {
	var l [flagsNumber + 1]string
	for name, i := range names() {
		l[i] = name
	}
	return l
}

// lines yields the words of each line that says something.
func lines(text string) iter.Seq[[]string] {
	return func(yield func([]string) bool) {
		for line := range strings.SplitSeq(text, "\n") {
			if line == "" || line[0] == '#' {
				continue
			}
			if !yield(strings.Split(line, " ")) {
				return
			}
		}
	}
}

// made tells whether a text is of at least one byte, all of these.
func made(s, of string) bool { return s != "" && strings.Trim(s, of) == "" }

// number answers the number that a word is, and whether it is one.
func number(s string) (uint64, bool) {
	if digits, ok := strings.CutPrefix(s, "0x"); ok {
		if !made(digits, "0123456789abcdef") || len(digits) > 16 {
			return 0, false
		}
		n, e := strconv.ParseUint(digits, 16, 64)
		return n, e == nil
	}
	if !made(s, "0123456789") || s[0] == '0' && len(s) > 1 {
		return 0, false
	}
	n, e := strconv.ParseUint(s, 10, 64)
	return n, e == nil
}

// part answers what a word says of a register, and whether it says something.
func part(s string) (api.Part, bool) {
	switch s {
	case wordOpen:
		return api.Part{Kind: api.PartOpen}, true
	case wordSecret:
		return api.Part{Kind: api.PartSecret}, true
	}
	n, ok := number(s)
	return api.Part{Kind: api.PartFixed, N: n}, ok
}

// parsing is a contract that is being parsed, by names' numbers, and which of them were named.
type parsing struct {
	c     api.Contract
	names map[string]int
	seen  [flagsNumber + 1]bool
}

// ranged takes a line of a range, and tells whether it is one.
func (p *parsing) ranged(words []string) bool {
	at, ok := number(words[1])
	many, also := number(words[2])
	if !ok || !also || many < 1 {
		return false
	}
	r := api.Range{Low: at, High: at + (many - 1)}
	if r.High < r.Low {
		return false
	}
	switch words[0] {
	case wordOpen:
		p.c.Open = dirt.Add(p.c.Open, r)
	case wordSecret:
		p.c.Secret = dirt.Add(p.c.Secret, r)
	default:
		return false
	}
	return true
}

// line takes a line's words, and tells whether they are one.
func (p *parsing) line(words []string) bool {
	if len(words) == 3 {
		return p.ranged(words)
	}
	if len(words) != 2 {
		return false
	}
	i, ok := p.names[words[0]]
	x, also := part(words[1])
	if !ok || !also || p.seen[i] || i == flagsNumber && x.Kind == api.PartFixed {
		return false
	}
	p.seen[i] = true
	switch {
	case i == flagsNumber:
		p.c.Flags = x.Kind
	case i >= api.XMM:
		p.c.X[i-api.XMM] = x
	default:
		p.c.R[i] = x
	}
	return true
}

// Parse answers a text's contract.
func Parse(text string) (api.Contract, api.Errno) {
	if len(text) > maxText {
		return api.Contract{}, api.ErrArg
	}
	p := &parsing{names: names()}
	whole := true
parsing:
	for words := range lines(text) {
		if !p.line(words) {
			whole = false
			break parsing
		}
	}
	if !whole || !Right(p.c) {
		return api.Contract{}, api.ErrArg
	}
	return p.c, api.OK
}

// hex answers a number as 0x and as few digits as it needs.
func hex(n uint64) string { return "0x" + strconv.FormatUint(n, 16) }

// partLine answers the line of what is known of something that has a name; nothing of what is open.
func partLine(name string, p api.Part) string {
	switch p.Kind {
	case api.PartSecret:
		return name + " " + wordSecret + "\n"
	case api.PartFixed:
		return name + " " + hex(p.N) + "\n"
	}
	return ""
}

// rangeLine answers the line of a range; that of all there is needs two.
func rangeLine(word string, r api.Range) string {
	if r.Low == 0 && r.High == ^uint64(0) {
		half := r.High/2 + 1
		return rangeLine(word, api.Range{Low: 0, High: half - 1}) + rangeLine(word, api.Range{Low: half, High: r.High})
	}
	return word + " " + hex(r.Low) + " " + hex(r.High-r.Low+1) + "\n"
}

// Text answers a contract's text.
func Text(c api.Contract) (string, api.Errno) {
	if !Right(c) {
		return "", api.ErrArg
	}
	var b strings.Builder
	names := named()
	for i, p := range c.R {
		b.WriteString(partLine(names[i], p))
	}
	for i, p := range c.X {
		b.WriteString(partLine(names[api.XMM+i], p))
	}
	b.WriteString(partLine(nameFlags, api.Part{Kind: c.Flags}))
	for _, r := range c.Open {
		b.WriteString(rangeLine(wordOpen, r))
	}
	for _, r := range c.Secret {
		b.WriteString(rangeLine(wordSecret, r))
	}
	return b.String(), api.OK
}
