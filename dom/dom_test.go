package dom

import (
	"math/rand"
	"reflect"
	"slices"
	"testing"

	"sundial/api"
)

func flow(entry int, next ...[]int) api.Flow {
	f := api.Flow{Entry: entry}
	for _, l := range next {
		f.Blocks = append(f.Blocks, api.Block{Next: l})
	}
	return f
}

func TestKnown(t *testing.T) {
	// 0 -> 1 -> 2 -> 1, 2 -> 3, 0 -> 3; 4 -> 2 is not reached
	f := flow(0, []int{1, 3}, []int{2}, []int{1, 3}, nil, []int{2})
	if r := Reached(f); !slices.Equal(r, []bool{true, true, true, true, false}) {
		t.Error(r)
	}
	if r := Nearest(f); !slices.Equal(r, []int{-1, 0, 1, 0, -1}) {
		t.Error(r)
	}
	if r := Order(f); !slices.Equal(r, []int{0, 1, 2, 3}) {
		t.Error(r)
	}
	if r := Loops(f); !reflect.DeepEqual(r, []api.Loop{{Head: 1, Body: []int{1, 2, 4}}}) {
		t.Error(r)
	}
	for b, want := range []int{0, 1, 1, 0, 1} {
		if Depth(f, b) != want {
			t.Error("Depth", b)
		}
	}
	if r := Order(flow(0, []int{2, 1}, []int{3}, []int{3}, nil)); !slices.Equal(r, []int{0, 1, 2, 3}) {
		t.Error("next ones in order", r)
	}
	if r := Order(flow(0, []int{1, 2}, []int{3}, []int{3}, nil)); !slices.Equal(r, []int{0, 2, 1, 3}) {
		t.Error("next ones in order", r)
	}
	if r := Loops(flow(0, []int{0})); !reflect.DeepEqual(r, []api.Loop{{Head: 0, Body: []int{0}}}) {
		t.Error("a block that goes on at itself", r)
	}
	// Two ways into a circle: no loop.
	if r := Loops(flow(0, []int{1, 2}, []int{2}, []int{1})); len(r) != 0 {
		t.Error("no head", r)
	}
}

func TestNothing(t *testing.T) {
	for _, f := range []api.Flow{{}, {Entry: -1}, flow(-1, []int{0}), flow(1, []int{0}), flow(1<<62, []int{0}), flow(-1<<63, []int{0})} {
		many := len(f.Blocks)
		if r := Reached(f); len(r) != many || slices.Contains(r, true) {
			t.Error("Reached", f, r)
		}
		if r := Nearest(f); len(r) != many || many > 0 && r[0] != -1 {
			t.Error("Nearest", f, r)
		}
		if len(Order(f)) != 0 || len(Loops(f)) != 0 || Depth(f, 0) != 0 || Dominates(f, 0, 0) {
			t.Error(f)
		}
	}
	f := flow(0, []int{-1, 5, 1, 1 << 62}, []int{-1 << 63, 0})
	if !slices.Equal(Order(f), []int{0, 1}) || !slices.Equal(Nearest(f), []int{-1, 0}) || len(Loops(f)) != 1 || f.Blocks[0].Next[0] != -1 {
		t.Error("numbers of no block", Order(f), Nearest(f), Loops(f))
	}
	for _, b := range []int{-1, 2, 1 << 62, -1 << 63} {
		if Dominates(f, b, 0) || Dominates(f, 0, b) || Dominates(f, b, b) || Depth(f, b) != 0 {
			t.Error("no block", b)
		}
	}
}

// ways tells whether a way leads from a to b, of none of the blocks in no.
func ways(f api.Flow, a, b int, no map[int]bool) bool {
	seen := map[int]bool{}
	var go1 func(int) bool
	go1 = func(x int) bool {
		if no[x] || seen[x] || x < 0 || x >= len(f.Blocks) {
			return false
		}
		seen[x] = true
		return x == b || slices.ContainsFunc(f.Blocks[x].Next, go1)
	}
	return go1(a)
}

func some(rng *rand.Rand) api.Flow {
	n := rng.Intn(9) + 1
	f := api.Flow{Entry: rng.Intn(n)}
	for range n {
		var l []int
		for range rng.Intn(4) {
			l = append(l, rng.Intn(n+2)-1)
		}
		f.Blocks = append(f.Blocks, api.Block{Next: l})
	}
	return f
}

func TestP19_1(t *testing.T) {
	rng := rand.New(rand.NewSource(28))
	for range 2000 {
		f := some(rng)
		n := len(f.Blocks)
		r, near := Reached(f), Nearest(f)
		order := Order(f)
		for b := range n {
			if r[b] != ways(f, f.Entry, b, nil) {
				t.Fatal("Reached", f, b)
			}
			var all []int
			for a := range n {
				want := r[b] && (a == b || !ways(f, f.Entry, b, map[int]bool{a: true}))
				if Dominates(f, a, b) != want {
					t.Fatal("Dominates", f, a, b)
				}
				if want && a != b {
					all = append(all, a)
				}
			}
			want := -1
			for _, a := range all {
				if !slices.ContainsFunc(all, func(c int) bool { return !Dominates(f, c, a) }) {
					want = a
				}
			}
			if near[b] != want {
				t.Fatal("Nearest", f, b, near[b], want)
			}
			if want >= 0 && slices.Index(order, want) >= slices.Index(order, b) {
				t.Fatal("P19.4: the nearest one stands ahead", f, b)
			}
		}
	}
}

func TestP19_2(t *testing.T) {
	rng := rand.New(rand.NewSource(29))
	for range 2000 {
		f := some(rng)
		var row []int
		seen := map[int]bool{}
		var go1 func(int)
		go1 = func(b int) {
			if b < 0 || b >= len(f.Blocks) || seen[b] {
				return
			}
			seen[b] = true
			for _, to := range f.Blocks[b].Next {
				go1(to)
			}
			row = append(row, b)
		}
		go1(f.Entry)
		slices.Reverse(row)
		if r := Order(f); !slices.Equal(r, row) {
			t.Fatal(f, r, row)
		}
	}
}

func TestP19_3AndP19_4(t *testing.T) {
	rng := rand.New(rand.NewSource(30))
	for range 2000 {
		f := some(rng)
		n := len(f.Blocks)
		var want []api.Loop
		for head := range n {
			var ends []int
			for b := range n {
				if Dominates(f, head, b) && slices.Contains(f.Blocks[b].Next, head) {
					ends = append(ends, b)
				}
			}
			if len(ends) == 0 {
				continue
			}
			l := api.Loop{Head: head}
			for b := range n {
				if b == head || slices.ContainsFunc(ends, func(e int) bool { return ways(f, b, e, map[int]bool{head: true}) }) {
					l.Body = append(l.Body, b)
				}
			}
			want = append(want, l)
		}
		got := Loops(f)
		if len(got) != len(want) || len(got) > 0 && !reflect.DeepEqual(got, want) {
			t.Fatal(f, got, want)
		}
		r := Reached(f)
		for b := range n {
			many := 0
			for _, l := range want {
				if slices.Contains(l.Body, b) {
					many++
				}
			}
			if Depth(f, b) != many {
				t.Fatal("Depth", f, b)
			}
		}
		for i, l := range got {
			for _, m := range got[i+1:] {
				shared := slices.ContainsFunc(l.Body, func(b int) bool { return r[b] && slices.Contains(m.Body, b) })
				if shared && !slices.Contains(l.Body, m.Head) && !slices.Contains(m.Body, l.Head) {
					t.Fatal("P19.4", f, l, m)
				}
			}
		}
	}
}

func TestLong(t *testing.T) {
	var f api.Flow
	const n = 20000
	for i := range n {
		f.Blocks = append(f.Blocks, api.Block{Next: []int{i + 1}})
	}
	if len(Order(f)) != n || Nearest(f)[n-1] != n-2 || len(Loops(f)) != 0 || !Dominates(f, 0, n-1) {
		t.Error("a long row")
	}
}
