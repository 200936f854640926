// Package whole tests what the document promises of the whole: its rules, at all arguments, and its theorems.
package whole

import (
	"math/rand"
	"reflect"
	"testing"

	"sundial/alu"
	"sundial/api"
	"sundial/bits"
	"sundial/codes"
	"sundial/contract"
	"sundial/cpu"
	"sundial/decode"
	"sundial/dirt"
	"sundial/dom"
	"sundial/encode"
	"sundial/facts"
	"sundial/field"
	"sundial/fix"
	"sundial/flow"
	"sundial/header"
	"sundial/image"
	"sundial/interp"
	"sundial/lift"
	"sundial/memory"
	"sundial/model"
	"sundial/names"
	"sundial/operand"
	"sundial/report"
	"sundial/run"
	"sundial/search"
	"sundial/step"
	"sundial/strided"
	"sundial/transfer"
	"sundial/vector"
	"sundial/verdict"
	"sundial/writer"
)

// calls are all that the chapters list.
var calls = map[string]any{
	"bits.Mask": bits.Mask, "bits.Cut": bits.Cut, "bits.Sign": bits.Sign, "bits.Ext": bits.Ext, "bits.Parity": bits.Parity, "bits.Bytes": bits.Bytes, "bits.Number": bits.Number, "bits.Add": bits.Add, "bits.Sub": bits.Sub, "bits.Turn": bits.Turn,
	"field.Mul": field.Mul, "field.Inv": field.Inv, "field.Box": field.Box, "field.Back": field.Back, "field.Mix": field.Mix, "field.Round": field.Round, "field.Last": field.Last, "field.Clmul": field.Clmul,
	"header.Read": header.Read, "header.Head": header.Head, "header.Segment": header.Segment, "header.Section": header.Section, "header.TakeSegment": header.TakeSegment, "header.TakeSection": header.TakeSection,
	"names.Read": names.Read, "names.Find": names.Find, "names.Functions": names.Functions, "names.Same": names.Same,
	"image.Load": image.Load, "image.Pages": image.Pages, "image.Own": image.Own, "image.Same": image.Same,
	"writer.Write": writer.Write, "writer.Right": writer.Right, "writer.Size": writer.Size,
	"codes.Forms": codes.Forms, "codes.Find": codes.Find, "codes.Fits": codes.Fits, "codes.Digits": codes.Digits, "codes.Bytes": codes.Bytes,
	"operand.Right": operand.Right, "operand.Take": operand.Take, "operand.Put": operand.Put, "operand.Uses": operand.Uses, "operand.Reg": operand.Reg, "operand.Mem": operand.Mem,
	"decode.One": decode.One, "decode.All": decode.All, "decode.Len": decode.Len,
	"encode.Right": encode.Right, "encode.Encode": encode.Encode, "encode.Code": encode.Code, "encode.Imm": encode.Imm, "encode.Vec": encode.Vec,
	"facts.Of": facts.Of, "facts.Nought": facts.Nought, "facts.Cond": facts.Cond, "facts.Targets": facts.Targets, "facts.Mem": facts.Mem,
	"memory.Right": memory.Right, "memory.Find": memory.Find, "memory.Read": memory.Read, "memory.Write": memory.Write, "memory.Fetch": memory.Fetch, "memory.Own": memory.Own, "memory.Same": memory.Same,
	"alu.Logic": alu.Logic, "alu.Add": alu.Add, "alu.Sub": alu.Sub, "alu.Inc": alu.Inc, "alu.Dec": alu.Dec, "alu.Neg": alu.Neg, "alu.Shift": alu.Shift, "alu.Mul": alu.Mul, "alu.Imul": alu.Imul, "alu.Div": alu.Div,
	"cpu.Get": cpu.Get, "cpu.Set": cpu.Set, "cpu.Cond": cpu.Cond, "cpu.Address": cpu.Address, "cpu.Vector": cpu.Vector, "cpu.Packed": cpu.Packed, "cpu.Unpacked": cpu.Unpacked,
	"vector.Do": vector.Do, "vector.Words": vector.Words, "vector.Block": vector.Block, "vector.Of": vector.Of,
	"step.Step": step.Step, "step.At": step.At, "step.Do": step.Do, "step.Own": step.Own, "step.Same": step.Same,
	"run.Run": run.Run, "run.Until": run.Until, "run.Differ": run.Differ, "run.Fetches": run.Fetches, "run.End": run.End,
	"flow.Find": flow.Find, "flow.At": flow.At, "flow.Block": flow.Block, "flow.Text": flow.Text,
	"dom.Reached": dom.Reached, "dom.Dominates": dom.Dominates, "dom.Nearest": dom.Nearest, "dom.Order": dom.Order, "dom.Loops": dom.Loops, "dom.Depth": dom.Depth,
	"interp.Run": interp.Run, "interp.Right": interp.Right, "interp.Sets": interp.Sets, "interp.Start": interp.Start, "interp.Back": interp.Back, "interp.Value": interp.Value,
	"lift.Lift": lift.Lift, "lift.Word": lift.Word, "lift.Cell": lift.Cell, "lift.Order": lift.Order, "lift.Same": lift.Same,
	"strided.Right": strided.Right, "strided.None": strided.None, "strided.One": strided.One, "strided.All": strided.All, "strided.Of": strided.Of, "strided.Has": strided.Has, "strided.Many": strided.Many, "strided.In": strided.In, "strided.Join": strided.Join, "strided.Widen": strided.Widen, "strided.Add": strided.Add, "strided.Sub": strided.Sub, "strided.Mul": strided.Mul, "strided.And": strided.And, "strided.Cut": strided.Cut,
	"dirt.Right": dirt.Right, "dirt.Norm": dirt.Norm, "dirt.Add": dirt.Add, "dirt.Sub": dirt.Sub, "dirt.Join": dirt.Join, "dirt.Meets": dirt.Meets, "dirt.In": dirt.In, "dirt.Has": dirt.Has, "dirt.Same": dirt.Same,
	"transfer.Run": transfer.Run, "transfer.Together": transfer.Together, "transfer.Top": transfer.Top, "transfer.Join": transfer.Join, "transfer.Widen": transfer.Widen, "transfer.In": transfer.In, "transfer.Same": transfer.Same,
	"fix.Run": fix.Run, "fix.Step": fix.Step, "fix.Find": fix.Find, "fix.Known": fix.Known, "fix.Same": fix.Same,
	"contract.Parse": contract.Parse, "contract.Text": contract.Text, "contract.Right": contract.Right, "contract.Fits": contract.Fits, "contract.Low": contract.Low, "contract.Make": contract.Make, "contract.Know": contract.Know, "contract.Word": contract.Word, "contract.Same": contract.Same,
	"search.Pair": search.Pair, "search.Try": search.Try, "search.Find": search.Find, "search.Bare": search.Bare, "search.Near": search.Near,
	"verdict.Read": verdict.Read, "verdict.Analyse": verdict.Analyse, "verdict.Of": verdict.Of, "verdict.Same": verdict.Same,
	"report.Text": report.Text, "report.Parse": report.Parse, "report.Right": report.Right, "report.Kind": report.Kind, "report.Why": report.Why, "report.Leak": report.Leak, "report.Machine": report.Machine,
	"model.Judge": model.Judge, "model.Straight": model.Straight, "model.Loop": model.Loop, "model.Plain": model.Plain, "model.Object": model.Object,
}

// slow are those that are called fewer times.
var slow = map[string]int{"search.Find": 20, "verdict.Analyse": 60, "verdict.Of": 20, "model.Judge": 60, "search.Try": 60, "fix.Run": 100, "fix.Known": 100, "run.Run": 150, "run.Until": 150}

// filled makes any value of a type: small and great numbers, below 0 too, few items or none, spare room behind lists.
func filled(rng *rand.Rand, v reflect.Value, depth int) {
	switch v.Kind() {
	case reflect.Bool:
		v.SetBool(rng.Intn(2) == 0)
	case reflect.Int:
		v.SetInt([]int64{0, 1, -1, 2, 8, 16, -1 << 63, 1<<63 - 1, int64(rng.Intn(70)), int64(rng.Intn(5000))}[rng.Intn(10)])
	case reflect.Int64:
		v.SetInt([]int64{0, 1, -1, 127, 1 << 31, -1 << 63, 1<<63 - 1, int64(rng.Intn(300) - 150)}[rng.Intn(8)])
	case reflect.Uint8:
		v.SetUint([]uint64{0, 1, 2, 3, 4, 5, 7, 255, uint64(rng.Intn(256)), uint64(rng.Intn(48))}[rng.Intn(10)])
	case reflect.Uint16, reflect.Uint32, reflect.Uint64:
		x := []uint64{0, 1, 2, 4096, 8192, 1 << 31, 1 << 63, ^uint64(0), uint64(rng.Intn(70)), rng.Uint64(), uint64(4096 + rng.Intn(99))}[rng.Intn(11)]
		v.SetUint(x & (^uint64(0) >> (64 - v.Type().Bits())))
	case reflect.String:
		v.SetString([]string{"", "f", "rax secret\n", "safe\n", "secret 8192 9\nrsp 8200", "unsafe\nat 0\nfirst\nip 0x0\nsecond\nip 0x0\n", "\xff\x00 \n", "reject\nerror 5\n", "0x"}[rng.Intn(9)])
	case reflect.Array:
		for i := range v.Len() {
			filled(rng, v.Index(i), depth)
		}
	case reflect.Struct:
		for i := range v.NumField() {
			filled(rng, v.Field(i), depth)
		}
	case reflect.Slice:
		n := rng.Intn(4)
		if v.Type().Elem().Kind() == reflect.Uint8 {
			n = []int{0, 1, 16, 33, 64, 100, 4096}[rng.Intn(7)]
		}
		if depth > 3 || n == 0 && rng.Intn(2) == 0 {
			return
		}
		l := reflect.MakeSlice(v.Type(), n+2, n+3)
		for i := range n + 2 {
			filled(rng, l.Index(i), depth+1)
		}
		v.Set(l.Slice(0, n))
	}
}

// copied answers the same value in memory of its own, with what stands in spare room.
func copied(v reflect.Value) reflect.Value {
	r := reflect.New(v.Type()).Elem()
	switch v.Kind() {
	case reflect.Array:
		for i := range v.Len() {
			r.Index(i).Set(copied(v.Index(i)))
		}
	case reflect.Struct:
		for i := range v.NumField() {
			r.Field(i).Set(copied(v.Field(i)))
		}
	case reflect.Slice:
		if v.IsNil() {
			return r
		}
		all := v.Slice(0, v.Cap())
		l := reflect.MakeSlice(v.Type(), v.Cap(), v.Cap())
		for i := range v.Cap() {
			l.Index(i).Set(copied(all.Index(i)))
		}
		r.Set(l.Slice(0, v.Len()))
	default:
		r.Set(v)
	}
	return r
}

// spread turns all that can be changed in a value's lists about.
func spread(v reflect.Value) {
	switch v.Kind() {
	case reflect.Array:
		for i := range v.Len() {
			spread(v.Index(i))
		}
	case reflect.Struct:
		for i := range v.NumField() {
			spread(v.Field(i))
		}
	case reflect.Slice:
		for i := range v.Len() {
			x := v.Index(i)
			spread(x)
			switch x.Kind() {
			case reflect.Uint8, reflect.Uint64:
				x.SetUint(x.Uint() ^ 1)
			case reflect.Int:
				x.SetInt(x.Int() ^ 1)
			case reflect.Bool:
				x.SetBool(!x.Bool())
			}
		}
	}
}

// whole answers a value with what stands in its spare room, too.
func whole(v reflect.Value) any { return copied(v).Interface() }

// TestRules calls everything with anything: nothing panics (R1), the same is answered twice (R3), what is handed in stays, and is not shared (R4).
func TestRules(t *testing.T) {
	for name, call := range calls {
		rng := rand.New(rand.NewSource(int64(len(name))))
		f := reflect.ValueOf(call)
		many := 300
		if n, ok := slow[name]; ok {
			many = n
		}
		for range many {
			var in, kept []reflect.Value
			for i := range f.Type().NumIn() {
				v := reflect.New(f.Type().In(i)).Elem()
				filled(rng, v, 0)
				in, kept = append(in, v), append(kept, copied(v))
			}
			do := f.Call
			if f.Type().IsVariadic() {
				do = f.CallSlice
			}
			first := do(in)
			var told []any
			for _, v := range first {
				told = append(told, copied(v).Interface())
			}
			for i, v := range do(in) {
				if !reflect.DeepEqual(v.Interface(), told[i]) {
					t.Fatal(name, "R3: another answer", i)
				}
			}
			for _, v := range first {
				own := reflect.New(v.Type()).Elem()
				own.Set(v)
				spread(own)
			}
			for i, v := range in {
				if !reflect.DeepEqual(whole(v), whole(kept[i])) {
					t.Fatal(name, "R4: an argument is changed, or shared", i)
				}
			}
		}
	}
}

// TestTheorem3 asks about objects of which some bytes are changed: one of four answers, always the same, whose text is parsed as it.
func TestTheorem3(t *testing.T) {
	rng := rand.New(rand.NewSource(52))
	code := []api.Insn{
		{Do: api.DoTest, Width: 8, A: operand.Reg(3), B: operand.Reg(3)},
		{Do: api.DoJcc, Cond: api.CondZ, Width: 8, B: encode.Imm(7)},
		{Do: api.DoMov, Width: 8, A: operand.Reg(0), B: operand.Mem(3, 0)},
		{Do: api.DoPush, Width: 8, A: operand.Reg(0)},
		{Do: api.DoPop, Width: 8, A: operand.Reg(1)},
		{Do: api.DoRet, Width: 8},
	}
	object, e := model.Object(code, []byte{1, 2, 3})
	if e != api.OK {
		t.Fatal(e)
	}
	texts := []string{"rsp 16000\nrbx secret\n", "rsp 16000\n", "", "rbx secret", "rsp 16000\nsecret 8192 8\nflags secret", "x"}
	kinds := map[uint8]int{}
	for range 600 {
		b := append([]byte(nil), object...)
		for range rng.Intn(3) {
			b[rng.Intn(400)] = byte(rng.Int())
		}
		for range rng.Intn(3) {
			b[4096+rng.Intn(24)] = byte(rng.Int())
		}
		text := texts[rng.Intn(len(texts))]
		l := api.Limits{Steps: rng.Intn(300), Tries: rng.Intn(9), Fuel: rng.Intn(200)}
		v := verdict.Analyse(b, "f", text, l)
		kinds[v.Kind]++
		if !verdict.Same(v, verdict.Analyse(b, "f", text, l)) {
			t.Fatal("another answer")
		}
		s, e := report.Text(v)
		w, e2 := report.Parse(s)
		if e != api.OK || e2 != api.OK || !verdict.Same(v, w) {
			t.Fatal("its text", s, e, e2)
		}
		if !model.Judge(b, "f", text, v, l, rng.Uint64(), rng.Uint64(), rng.Uint64(), 200) {
			t.Fatal("what may not be", s)
		}
	}
	for k := api.VdReject; k <= api.VdUnknown; k++ {
		if kinds[k] == 0 {
			t.Error("none of kind", k)
		}
	}
}
