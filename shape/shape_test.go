package shape_test

import (
	"math"
	"slices"
	"testing"

	"gradus/api"
	"gradus/shape"
)

// lists tells all lists of up to most numbers, each from low to high.
func lists(most, low, high int) [][]int {
	all := [][]int{nil}
	from := 0
	for range most {
		to := len(all)
		for _, l := range all[from:to] {
			for n := low; n <= high; n++ {
				all = append(all, append(slices.Clone(l), n))
			}
		}
		from = to
	}
	return all
}

// mayBe is the document's sentence about dims, word by word.
func mayBe(d []int) bool {
	product := 1
	for _, n := range d {
		if n < 1 || n > 8 {
			return false
		}
		product *= n
	}
	return len(d) >= 1 && len(d) <= 3 && product <= 64
}

// good tells all dims that may be.
func good() [][]int {
	var l [][]int
	for _, d := range lists(3, 1, 8) {
		if mayBe(d) {
			l = append(l, d)
		}
	}
	return l
}

// wrong tells dims that may not be, those among them whose product wraps around.
func wrong() [][]int {
	return [][]int{
		nil, {}, {0}, {-1}, {9}, {2, 0}, {0, 2}, {2, 9}, {9, 2}, {-1, -1}, {2, -2, -2}, {1, 1, 9},
		{8, 8, 2}, {8, 3, 3}, {5, 4, 4}, {8, 8, 8}, {1, 1, 1, 1}, {2, 2, 2, 2}, {8, 8, 1, 1},
		{math.MaxInt}, {math.MinInt}, {1 << 32, 1 << 32}, {1 << 62, 4}, {math.MinInt, math.MinInt},
		{1 << 8, 1 << 56, 1}, {257}, {1<<32 + 1}, make([]int, 1000),
	}
}

// places goes through a tensor's places row by row, without the arithmetic that is tested.
func places(d []int) [][]int {
	l := [][]int{nil}
	for _, n := range d {
		var next [][]int
		for _, p := range l {
			for k := range n {
				next = append(next, append(slices.Clone(p), k))
			}
		}
		l = next
	}
	return l
}

// P1.1: Check lets just the dims that may be; the calls beside it err where it errs.
func TestCheckLetsDimsThatMayBe(t *testing.T) {
	for _, d := range lists(4, -1, 9) {
		want := api.ErrForm
		if mayBe(d) {
			want = api.OK
		}
		if e := shape.Check(d); e != want {
			t.Fatalf("Check(%v): %v", d, e)
		}
		if _, e := shape.Cells(d); e != want {
			t.Fatalf("Cells(%v): %v", d, e)
		}
	}
}

// P1.1, P1.2: ErrForm of dims stands ahead of all, with zero values beside it.
func TestWrongDimsAreErrForm(t *testing.T) {
	for _, d := range wrong() {
		if e := shape.Check(d); e != api.ErrForm {
			t.Errorf("Check(%v): %v", d, e)
		}
		if n, e := shape.Cells(d); n != 0 || e != api.ErrForm {
			t.Errorf("Cells(%v): %d, %v", d, n, e)
		}
		if l, e := shape.Steps(d); l != nil || e != api.ErrForm {
			t.Errorf("Steps(%v): %v, %v", d, l, e)
		}
		if n, e := shape.At(d, make([]int, len(d))); n != 0 || e != api.ErrForm {
			t.Errorf("At(%v): %d, %v", d, n, e)
		}
		if l, e := shape.Where(d, 0); l != nil || e != api.ErrForm {
			t.Errorf("Where(%v): %v, %v", d, l, e)
		}
		if x, e := shape.Fill(d, 3); x.Dims != nil || x.Data != nil || e != api.ErrForm {
			t.Errorf("Fill(%v): %v, %v", d, x, e)
		}
		if e := shape.Tensor(api.Tensor{Dims: d, Data: []int{1}}); e != api.ErrForm {
			t.Errorf("Tensor(%v): %v", d, e)
		}
	}
}

// P1.1, P1.2: of two dims either one may be the wrong one, also where it is the same as the other.
func TestWrongDimsInPairsAreErrForm(t *testing.T) {
	for _, d := range wrong() {
		for _, pair := range [][2][]int{{d, {1}}, {{1}, d}, {d, {2, 3}}, {{1, 1, 1}, d}, {d, d}} {
			if is, e := shape.Same(pair[0], pair[1]); is || e != api.ErrForm {
				t.Errorf("Same(%v): %v, %v", pair, is, e)
			}
			if e := shape.Wider(pair[0], pair[1]); e != api.ErrForm {
				t.Errorf("Wider(%v): %v", pair, e)
			}
		}
	}
}

// P1.1: Cells, and Steps as the distance of neighbours.
func TestCellsAndSteps(t *testing.T) {
	for _, d := range good() {
		all := places(d)
		if n, e := shape.Cells(d); n != len(all) || e != api.OK {
			t.Fatalf("Cells(%v): %d, %v", d, n, e)
		}
		steps, e := shape.Steps(d)
		if e != api.OK || len(steps) != len(d) || steps[len(d)-1] != 1 {
			t.Fatalf("Steps(%v): %v, %v", d, steps, e)
		}
		for n, p := range all {
			at := 0
			for i, k := range p {
				at += k * steps[i]
			}
			if at != n {
				t.Fatalf("Steps(%v): %v, so %v lies at %d, not %d", d, steps, p, at, n)
			}
		}
	}
}

// P1.1: a dim of 1 has its step, too, though no place is reached by it.
func TestStepsByHand(t *testing.T) {
	for _, c := range [][2][]int{
		{{1}, {1}}, {{8}, {1}}, {{2, 3}, {3, 1}}, {{3, 1}, {1, 1}}, {{1, 8, 8}, {64, 8, 1}},
		{{2, 1, 3}, {3, 3, 1}}, {{4, 4, 4}, {16, 4, 1}}, {{1, 1, 1}, {1, 1, 1}},
	} {
		if l, e := shape.Steps(c[0]); !slices.Equal(l, c[1]) || e != api.OK {
			t.Errorf("Steps(%v): %v, %v", c[0], l, e)
		}
	}
}

// P1.1, P1.3: At and Where tell the places row by row, and undo each other.
func TestAtAndWhereUndoEachOther(t *testing.T) {
	for _, d := range good() {
		for n, p := range places(d) {
			if at, e := shape.At(d, p); at != n || e != api.OK {
				t.Fatalf("At(%v, %v): %d, %v", d, p, at, e)
			}
			where, e := shape.Where(d, n)
			if !slices.Equal(where, p) || e != api.OK {
				t.Fatalf("Where(%v, %d): %v, %v", d, n, where, e)
			}
			if at, e := shape.At(d, where); at != n || e != api.OK {
				t.Fatalf("At(Where(%v, %d)): %d, %v", d, n, at, e)
			}
		}
	}
}

// P1.1: numbers beyond their dim, although the place they come to is there.
func TestAtOfWrongNumbers(t *testing.T) {
	for _, d := range good() {
		for i := range d {
			for _, k := range []int{-1, d[i], math.MaxInt, math.MinInt, 1 << 32} {
				all := places(d)
				p := all[len(all)-1]
				p[i] = k
				if n, e := shape.At(d, p); n != 0 || e != api.ErrForm {
					t.Fatalf("At(%v, %v): %d, %v", d, p, n, e)
				}
			}
		}
		for _, p := range [][]int{nil, make([]int, len(d)-1), make([]int, len(d)+1)} {
			if n, e := shape.At(d, p); n != 0 || e != api.ErrForm {
				t.Fatalf("At(%v, %v): %d, %v", d, p, n, e)
			}
		}
	}
}

// P1.1: places ahead of the first and behind the last one.
func TestWhereOfWrongPlaces(t *testing.T) {
	for _, d := range good() {
		cells := len(places(d))
		for _, n := range []int{-1, cells, cells + 1, 1 << 32, math.MaxInt, math.MinInt} {
			if l, e := shape.Where(d, n); l != nil || e != api.ErrForm {
				t.Fatalf("Where(%v, %d): %v, %v", d, n, l, e)
			}
		}
	}
}

// wider is the document's sentence, word by word.
func wider(a, b []int) api.Errno {
	if len(a) != len(b) {
		return api.ErrDims
	}
	for i := range a {
		if a[i] != b[i] && a[i] != 1 {
			return api.ErrDims
		}
	}
	return api.OK
}

// P1.1, P1.2: Same and Wider of all pairs.
func TestSameAndWider(t *testing.T) {
	all := good()
	for _, a := range all {
		for _, b := range all {
			if is, e := shape.Same(a, b); is != slices.Equal(a, b) || e != api.OK {
				t.Fatalf("Same(%v, %v): %v, %v", a, b, is, e)
			}
			if e := shape.Wider(a, b); e != wider(a, b) {
				t.Fatalf("Wider(%v, %v): %v", a, b, e)
			}
		}
	}
}

// P1.2: a tensor has just as many Data as its dims tell, of any numbers.
func TestTensor(t *testing.T) {
	for _, d := range good() {
		cells := len(places(d))
		for n := range cells + 3 {
			want := api.ErrForm
			if n == cells {
				want = api.OK
			}
			if e := shape.Tensor(api.Tensor{Dims: d, Data: make([]int, n)}); e != want {
				t.Fatalf("Tensor(%v, %d numbers): %v", d, n, e)
			}
		}
	}
	if e := shape.Tensor(api.Tensor{Dims: []int{2}, Data: []int{math.MinInt, math.MaxInt}}); e != api.OK {
		t.Errorf("Tensor of the outermost numbers: %v", e)
	}
	if e := shape.Tensor(api.Tensor{}); e != api.ErrForm {
		t.Errorf("Tensor of nothing: %v", e)
	}
}

// P1.2: Fill's tensor may be, has the dims, and n everywhere.
func TestFill(t *testing.T) {
	for _, d := range good() {
		for _, n := range []int{0, 1, -7, math.MinInt, math.MaxInt} {
			x, e := shape.Fill(d, n)
			other := func(k int) bool { return k != n }
			if e != api.OK || !slices.Equal(x.Dims, d) || len(x.Data) != len(places(d)) || slices.ContainsFunc(x.Data, other) {
				t.Fatalf("Fill(%v, %d): %v, %v", d, n, x, e)
			}
			if e := shape.Tensor(x); e != api.OK {
				t.Fatalf("Tensor(Fill(%v, %d)): %v", d, n, e)
			}
		}
	}
}

// R2: whoever writes into an answer, or appends to it, changes neither what was handed in nor another answer.
func TestAnswersAreCopies(t *testing.T) {
	room := []int{2, 3, 50, 60}
	d := room[:2]
	spoil := func(l []int) {
		for i := range l[:cap(l)] {
			l[:cap(l)][i] = 99
		}
	}
	for range 2 {
		x, _ := shape.Fill(d, 5)
		if !slices.Equal(x.Dims, []int{2, 3}) || !slices.Equal(x.Data, []int{5, 5, 5, 5, 5, 5}) {
			t.Fatalf("Fill: %v", x)
		}
		spoil(x.Dims)
		if slices.Contains(x.Data, 99) {
			t.Fatalf("Fill's dims lie over its data")
		}
		spoil(x.Data)
		steps, _ := shape.Steps(d)
		where, _ := shape.Where(d, 5)
		if !slices.Equal(steps, []int{3, 1}) || !slices.Equal(where, []int{1, 2}) {
			t.Fatalf("Steps: %v, Where: %v", steps, where)
		}
		spoil(steps)
		spoil(where)
		if !slices.Equal(room, []int{2, 3, 50, 60}) {
			t.Fatalf("what was handed in is changed: %v", room)
		}
	}
}

// R2: no call changes what it is given.
func TestArgumentsStayAsTheyAre(t *testing.T) {
	a, b, p, data := []int{1, 3}, []int{2, 3}, []int{1, 2}, []int{1, 2, 3, 4, 5, 6}
	shape.Check(a)
	shape.Cells(a)
	shape.Steps(b)
	shape.At(b, p)
	shape.Where(b, 4)
	shape.Same(a, b)
	shape.Tensor(api.Tensor{Dims: b, Data: data})
	shape.Fill(b, 8)
	shape.Wider(a, b)
	if !slices.Equal(a, []int{1, 3}) || !slices.Equal(b, []int{2, 3}) || !slices.Equal(p, []int{1, 2}) || !slices.Equal(data, []int{1, 2, 3, 4, 5, 6}) {
		t.Errorf("%v, %v, %v, %v", a, b, p, data)
	}
}
