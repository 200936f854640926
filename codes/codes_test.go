package codes

import (
	"bytes"
	"fmt"
	"reflect"
	"strings"
	"testing"

	"sundial/api"
)

// told writes a form as one short line.
func told(f api.Form) string {
	s := ""
	if f.Prefix != 0 {
		s += fmt.Sprintf("%02x ", f.Prefix)
	}
	s += fmt.Sprintf("%x", Bytes(f))
	if f.Plus {
		s += "+"
	}
	if f.Digit >= 0 {
		s += fmt.Sprintf("/%d", f.Digit)
	}
	s += fmt.Sprintf(" do%d c%d w%d k%d i%d", f.Do, f.Cond, f.Wide, f.Kind, f.Imm)
	for i, b := range []bool{f.Must, f.Vector, f.Byte, f.Memory} {
		if b {
			s += string("mvby"[i])
		}
	}
	return s
}

// listing is the chapter's table, written out anew, row by row.
func listing() []string {
	var l []string
	add := func(code string, do, cond uint8, wide int, kind uint8, imm int, more string) {
		l = append(l, fmt.Sprintf("%s do%d c%d w%d k%d i%d%s", code, do, cond, wide, kind, imm, more))
	}
	add("89", api.DoMov, 0, 0, api.FmMR, 0, "")
	add("8b", api.DoMov, 0, 0, api.FmRM, 0, "")
	add("c7/0", api.DoMov, 0, 0, api.FmMI, 4, "")
	add("b8+", api.DoMov, 0, 8, api.FmOI, 8, "m")
	add("88", api.DoMov, 0, 1, api.FmMR, 0, "b")
	add("8a", api.DoMov, 0, 1, api.FmRM, 0, "b")
	add("c6/0", api.DoMov, 0, 1, api.FmMI, 1, "b")
	add("8d", api.DoLea, 0, 0, api.FmRM, 0, "y")
	k := []uint8{api.DoAdd, api.DoOr, api.DoAdc, api.DoSbb, api.DoAnd, api.DoSub, api.DoXor, api.DoCmp}
	for i, do := range k {
		add(fmt.Sprintf("%02x", 8*i+1), do, 0, 0, api.FmMR, 0, "")
		add(fmt.Sprintf("%02x", 8*i+3), do, 0, 0, api.FmRM, 0, "")
	}
	for i, do := range k {
		add(fmt.Sprintf("83/%d", i), do, 0, 0, api.FmMI, 1, "")
		add(fmt.Sprintf("81/%d", i), do, 0, 0, api.FmMI, 4, "")
	}
	add("85", api.DoTest, 0, 0, api.FmMR, 0, "")
	add("f7/0", api.DoTest, 0, 0, api.FmMI, 4, "")
	for i, code := range []string{"ff/0", "ff/1", "f7/2", "f7/3", "f7/4", "f7/6"} {
		add(code, []uint8{api.DoInc, api.DoDec, api.DoNot, api.DoNeg, api.DoMul, api.DoDiv}[i], 0, 0, api.FmM, 0, "")
	}
	for i, d := range []int{0, 1, 4, 5, 7} {
		do := []uint8{api.DoRol, api.DoRor, api.DoShl, api.DoShr, api.DoSar}[i]
		add(fmt.Sprintf("c1/%d", d), do, 0, 0, api.FmMI, 1, "")
		add(fmt.Sprintf("d3/%d", d), do, 0, 0, api.FmMC, 0, "")
	}
	add("0faf", api.DoImul, 0, 0, api.FmRM, 0, "")
	add("50+", api.DoPush, 0, 8, api.FmO, 0, "")
	add("58+", api.DoPop, 0, 8, api.FmO, 0, "")
	add("e8", api.DoCall, 0, 8, api.FmJ, 4, "")
	add("c3", api.DoRet, 0, 8, api.FmNone, 0, "")
	add("e9", api.DoJmp, 0, 8, api.FmJ, 4, "")
	add("eb", api.DoJmp, 0, 8, api.FmJ, 1, "")
	add("ff/4", api.DoJmp, 0, 8, api.FmM, 0, "")
	for c := range uint8(16) {
		add(fmt.Sprintf("0f%02x", 0x80+c), api.DoJcc, c, 8, api.FmJ, 4, "")
		add(fmt.Sprintf("%02x", 0x70+c), api.DoJcc, c, 8, api.FmJ, 1, "")
	}
	for c := range uint8(16) {
		add(fmt.Sprintf("0f%02x", 0x40+c), api.DoCmov, c, 0, api.FmRM, 0, "")
	}
	for c := range uint8(16) {
		add(fmt.Sprintf("0f%02x/0", 0x90+c), api.DoSet, c, 1, api.FmM, 0, "b")
	}
	add("0fb6", api.DoMovzx, 0, 0, api.FmRM, 0, "b")
	add("0fbe", api.DoMovsx, 0, 0, api.FmRM, 0, "b")
	add("90", api.DoNop, 0, 8, api.FmNone, 0, "")
	add("f3 0f6f", api.DoMovdqu, 0, 16, api.FmRM, 0, "v")
	add("f3 0f7f", api.DoMovdqu, 0, 16, api.FmMR, 0, "v")
	add("66 0fef", api.DoPxor, 0, 16, api.FmRM, 0, "v")
	add("66 0f38dc", api.DoAesenc, 0, 16, api.FmRM, 0, "v")
	add("66 0f38dd", api.DoAeslast, 0, 16, api.FmRM, 0, "v")
	add("66 0f3a44", api.DoClmul, 0, 16, api.FmRM, 1, "v")
	return l
}

func TestP7_1Forms(t *testing.T) {
	l, want := Forms(), listing()
	if len(l) != len(want) {
		t.Fatal(len(l), len(want))
	}
	for i, f := range l {
		if told(f) != want[i] {
			t.Error(i, told(f), want[i])
		}
		if f.Digit < -1 || f.Plus != strings.Contains(want[i], "+") {
			t.Error(i, f)
		}
	}
	l[0].Op = 9
	if Forms()[0].Op != 0x89 {
		t.Error("the forms are kept by whoever asked")
	}
}

func fits(f api.Form, prefix byte, table uint8, op byte, digit int) bool {
	if f.Prefix != prefix || f.Map != table || f.Digit != -1 && f.Digit != digit {
		return false
	}
	return f.Op == op || f.Plus && f.Op>>3 == op>>3
}

func TestP7_1FindAndP7_3(t *testing.T) {
	l := Forms()
	deeds := map[uint8]bool{}
	for _, f := range l {
		deeds[f.Do] = true
	}
	if len(deeds) != int(api.Deeds)-1 || deeds[api.DoNone] {
		t.Error("deeds", len(deeds))
	}
	for _, prefix := range []byte{0, 0x66, 0xf3, 0xf2} {
		for table := range uint8(5) {
			for op := range 256 {
				digits := false
				for _, f := range l {
					g := f
					g.Digit = -1
					digits = digits || f.Digit != -1 && fits(g, prefix, table, byte(op), 0)
				}
				if Digits(prefix, table, byte(op)) != digits {
					t.Error("Digits", prefix, table, op)
				}
				for digit := -2; digit < 9; digit++ {
					want, many := api.Form{}, 0
					for _, f := range l {
						ok := fits(f, prefix, table, byte(op), digit)
						if Fits(f, prefix, table, byte(op), digit) != ok {
							t.Fatal("Fits", f, prefix, table, op, digit)
						}
						if ok {
							want = f
							many++
						}
					}
					got, ok := Find(prefix, table, byte(op), digit)
					if many > 1 || ok != (many == 1) || !reflect.DeepEqual(got, want) {
						t.Fatal("Find", prefix, table, op, digit, got, ok, many)
					}
				}
			}
		}
	}
}

func TestFitsOfAnyForm(t *testing.T) {
	f := api.Form{Prefix: 1, Map: 9, Op: 0x5f, Plus: true, Digit: 3}
	if !Fits(f, 1, 9, 0x58, 3) || Fits(f, 1, 9, 0x60, 3) || Fits(f, 1, 9, 0x58, -1) || Fits(f, 1, 8, 0x58, 3) || Fits(f, 0, 9, 0x58, 3) {
		t.Error("Fits")
	}
	if f.Plus = false; Fits(f, 1, 9, 0x58, 3) || !Fits(f, 1, 9, 0x5f, 3) {
		t.Error("Fits without Plus")
	}
	if f, ok := Find(0, 0, 0xc3, 5); !ok || f.Do != api.DoRet {
		t.Error("ret", f, ok)
	}
}

func TestP7_2(t *testing.T) {
	for table, want := range [][]byte{{7}, {0x0f, 7}, {0x0f, 0x38, 7}, {0x0f, 0x3a, 7}, {7}, {7}} {
		if b := Bytes(api.Form{Map: uint8(table), Op: 7, Prefix: 0x66}); !bytes.Equal(b, want) {
			t.Error(table, b)
		}
	}
	if b := Bytes(api.Form{Map: 255, Op: 7}); !bytes.Equal(b, []byte{7}) {
		t.Error(b)
	}
}
