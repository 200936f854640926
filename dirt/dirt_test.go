package dirt

import (
	"math/rand"
	"slices"
	"testing"

	"sundial/api"
)

const top = ^uint64(0)

func r(low, high uint64) api.Range { return api.Range{Low: low, High: high} }

func row(n ...uint64) []api.Range {
	var l []api.Range
	for i := 0; i < len(n); i += 2 {
		l = append(l, r(n[i], n[i+1]))
	}
	return l
}

func TestKnown(t *testing.T) {
	for i, c := range []struct {
		l    []api.Range
		want bool
		norm []api.Range
	}{
		{nil, true, nil}, {row(1, 3), true, row(1, 3)}, {row(3, 1), false, nil}, {row(1, 3, 4, 6), false, row(1, 6)}, {row(1, 3, 5, 6), true, row(1, 3, 5, 6)}, {row(5, 6, 1, 3), false, row(1, 3, 5, 6)}, {row(1, 9, 3, 4), false, row(1, 9)},
		{row(0, top), true, row(0, top)}, {row(0, 0, top, top), true, row(0, 0, top, top)}, {row(1, top, 0, 0), false, row(0, top)}, {row(5, 5, 9, 2, 6, 6), false, row(5, 6)}, {row(0, top, 0, top), false, row(0, top)},
	} {
		was := slices.Clone(c.l)
		if Right(c.l) != c.want || !Same(Norm(c.l), c.norm) || !Same(c.l, was) {
			t.Error(i, Right(c.l), Norm(c.l))
		}
	}
	if got := Add(row(1, 3), r(4, 6)); !Same(got, row(1, 6)) {
		t.Error("Add", got)
	}
	if got := Add(nil, r(9, 3), r(top, top), r(0, top-1)); !Same(got, row(0, top)) {
		t.Error("Add", got)
	}
	if got := Sub(row(1, 9), r(3, 4)); !Same(got, row(1, 2, 5, 9)) {
		t.Error("Sub", got)
	}
	if got := Sub(row(0, top), r(0, top)); len(got) != 0 {
		t.Error("Sub of all", got)
	}
	if got := Sub(row(1, 3, 4, 6), r(9, 2)); !Same(got, row(1, 6)) {
		t.Error("Sub of a range that may not be", got)
	}
	if got := Sub(row(0, top), r(top, top)); !Same(got, row(0, top-1)) {
		t.Error("Sub of the end", got)
	}
	if Meets(row(1, 3), r(4, 6)) || !Meets(row(1, 3), r(3, 6)) || Meets(row(1, 3), r(3, 2)) || Meets(row(3, 1), r(0, 9)) || Meets(nil, r(0, top)) || !Meets(row(5, 5), r(0, top)) {
		t.Error("Meets")
	}
	if !In(nil, nil) || !In(row(3, 1), nil) || In(row(1, 1), row(1, 0)) || !In(row(1, 6), row(1, 3, 4, 6)) || In(row(1, 6), row(1, 3, 5, 6)) || !In(row(0, top), row(1, top, 0, 0)) {
		t.Error("In")
	}
	if Has(row(3, 1), 2) || !Has(row(1, 3, 9, 9), 9) || Has(row(1, 3), 4) || Has(nil, 0) {
		t.Error("Has")
	}
	if !Same(nil, row()) || Same(row(1, 3, 4, 6), row(1, 6)) || Same(row(1, 3), row(1, 4)) {
		t.Error("Same")
	}
}

// some makes a row of addresses below 30, or near the end of all.
func some(rng *rand.Rand) []api.Range {
	var l []api.Range
	for range rng.Intn(6) {
		low := uint64(rng.Intn(30))
		l = append(l, r(low-uint64(rng.Intn(2))*15, low+uint64(rng.Intn(6))-1))
	}
	if rng.Intn(2) == 0 {
		l = Norm(l)
	}
	return l
}

// points are the addresses that are looked at: each that some range begins or ends at, and its neighbours.
func points() []uint64 {
	var l []uint64
	for i := range 90 {
		l = append(l, uint64(i-40))
	}
	return l
}

func TestP23(t *testing.T) {
	rng := rand.New(rand.NewSource(40))
	for range 20000 {
		l, m, x := some(rng), some(rng), r(uint64(rng.Intn(40)-10), uint64(rng.Intn(40)-10))
		wasL, wasM := slices.Clone(l), slices.Clone(m)
		has := func(l []api.Range, at uint64) bool {
			return slices.ContainsFunc(l, func(r api.Range) bool { return r.Low <= at && at <= r.High })
		}
		norm, add, sub, join := Norm(l), Add(l, x), Sub(l, x), Join(l, m)
		many := Add(l, append(slices.Clone(m), x)...)
		for _, z := range [][]api.Range{norm, add, sub, join, many} {
			if !Right(z) {
				t.Fatal("may not be", l, m, x, z)
			}
		}
		meets, in := false, true
		for _, at := range points() {
			hl, hm, hx := has(l, at), has(m, at), has([]api.Range{x}, at)
			meets, in = meets || hl && hx, in && (!hl || hm)
			if Has(l, at) != hl || has(norm, at) != hl || has(add, at) != (hl || hx) || has(sub, at) != (hl && !hx) || has(join, at) != (hl || hm) || has(many, at) != (hl || hm || hx) {
				t.Fatal(l, m, x, at)
			}
		}
		if Meets(l, x) != meets || In(l, m) != in {
			t.Fatal("Meets, In", l, m, x, Meets(l, x), In(l, m))
		}
		if same := in && In(m, l); Same(Norm(l), Norm(m)) != same {
			t.Fatal("P23.3", l, m)
		}
		if !Same(l, wasL) || !Same(m, wasM) {
			t.Fatal("changed")
		}
	}
	room := append(make([]api.Range, 0, 4), r(1, 2))
	Add(room, r(9, 9))
	if room[:2][1] != (api.Range{}) {
		t.Error("spare room is changed")
	}
	l := row(1, 2)
	if Norm(l)[0].Low = 9; l[0].Low != 1 {
		t.Error("shared")
	}
}
