package turn_test

import (
	"math"
	"math/big"
	"slices"
	"testing"

	"gradus/api"
	"gradus/ring"
	"gradus/turn"
)

// ten makes a tensor: dims, and numbers.
func ten(d []int, l ...int) api.Tensor { return api.Tensor{Dims: d, Data: l} }

// d makes dims.
func d(l ...int) []int { return l }

// copied tells a tensor that shares nothing with t.
func copied(t api.Tensor) api.Tensor {
	return ten(slices.Clone(t.Dims), slices.Clone(t.Data)...)
}

func same(a, b api.Tensor) bool {
	return slices.Equal(a.Dims, b.Dims) && slices.Equal(a.Data, b.Data)
}

// none tells whether an answer is the zero value that stands beside an error.
func none(x api.Tensor) bool { return x.Dims == nil && x.Data == nil }

// around brings a whole number of any size to 64 bits with a sign.
func around(n *big.Int) int {
	full := new(big.Int).Lsh(big.NewInt(1), 64)
	rest := new(big.Int).Mod(n, full)
	if rest.Bit(63) == 1 {
		rest.Sub(rest, full)
	}
	return int(rest.Int64())
}

// dims tells all dims that may be.
func dims() [][]int {
	var l [][]int
	for a := 1; a <= 8; a++ {
		l = append(l, d(a))
		for b := 1; b <= 8; b++ {
			l = append(l, d(a, b))
			for c := 1; c <= 8 && a*b*c <= 64; c++ {
				l = append(l, d(a, b, c))
			}
		}
	}
	return l
}

func product(d []int) int {
	cells := 1
	for _, n := range d {
		cells *= n
	}
	return cells
}

// filled lays numbers over dims, no two of them the same, and so great that sums of them wrap around.
func filled(d []int, salt int) api.Tensor {
	x := ten(slices.Clone(d))
	for i := range product(d) {
		x.Data = append(x.Data, (i+1)*0x1234567890abcdf+salt*0x3141592653589793)
	}
	return x
}

// wrong tells tensors that may not be.
func wrong() []api.Tensor {
	return []api.Tensor{
		{}, ten(d(1)), ten(nil, 1), ten(d(), 1), ten(d(2), 1), ten(d(2), 1, 2, 3), ten(d(0)), ten(d(2, 0)), ten(d(1, 1)),
		ten(d(-1, -1), 1), ten(d(9), make([]int, 9)...), ten(d(1, 1, 1, 1), 1), ten(d(2, 3), make([]int, 5)...),
		ten(d(2, 3), make([]int, 7)...), ten(d(9, 1), make([]int, 9)...), ten(d(8, 8, 2), make([]int, 128)...),
		ten(d(5, 4, 4), make([]int, 80)...), ten(d(1<<32, 1<<32)), ten(d(math.MinInt, math.MinInt)), ten(d(math.MaxInt), 1),
		ten(d(1<<32+1), 1),
	}
}

// wrongDims tells dims that may not be.
func wrongDims() [][]int {
	return [][]int{
		nil, {}, {0}, {-1}, {9}, {1, 0}, {0, 6}, {-2, -3}, {1, 9}, {9, 1}, {1, 1, 1, 1}, {2, 3, 1, 1}, {8, 8, 2}, {5, 4, 4},
		{1 << 32, 1 << 32}, {math.MinInt, math.MinInt}, {math.MaxInt}, {1<<32 + 1}, {1, 1<<32 + 1}, {2, 3, math.MinInt},
	}
}

type asked = func(a api.Tensor, d []int) (api.Tensor, api.Errno)

type named struct {
	name string
	call asked
}

// askers are the calls that are asked for dims.
func askers() []named {
	return []named{{"Shape", turn.Shape}, {"Wide", turn.Wide}, {"Sum", turn.Sum}}
}

// lies tells whether narrow dims lie under wide ones.
func lies(narrow, wide []int) bool {
	if len(narrow) != len(wide) {
		return false
	}
	for i := range narrow {
		if narrow[i] != 1 && narrow[i] != wide[i] {
			return false
		}
	}
	return true
}

// padded tells dims with dims of 1 ahead of them: so three loops go through any of them.
func padded(d []int) [3]int {
	all := [3]int{1, 1, 1}
	copy(all[3-len(d):], d)
	return all
}

// partners tells for each place of wide dims its one of narrow dims: three loops, each with its own rule.
func partners(narrow, wide []int) []int {
	n, w := padded(narrow), padded(wide)
	kept := func(i, k int) int {
		if n[k] == 1 {
			return 0
		}
		return i
	}
	var l []int
	for i := range w[0] {
		for j := range w[1] {
			for k := range w[2] {
				l = append(l, kept(i, 0)*n[1]*n[2]+kept(j, 1)*n[2]+kept(k, 2))
			}
		}
	}
	return l
}

// P3.1: by hand.
func TestByHand(t *testing.T) {
	a, cube := ten(d(2, 3), 1, 2, 3, 4, 5, 6), ten(d(2, 2, 2), 1, 2, 3, 4, 5, 6, 7, 8)
	turned := func(a api.Tensor, _ []int) (api.Tensor, api.Errno) { return turn.Turn(a) }
	for i, c := range []struct {
		call asked
		a    api.Tensor
		d    []int
		want api.Tensor
	}{
		{turned, a, nil, ten(d(3, 2), 1, 4, 2, 5, 3, 6)},
		{turned, ten(d(1, 3), 7, 8, 9), nil, ten(d(3, 1), 7, 8, 9)},
		{turned, ten(d(2, 2), 1, 2, 3, 4), nil, ten(d(2, 2), 1, 3, 2, 4)},
		{turned, ten(d(1, 1), -5), nil, ten(d(1, 1), -5)},
		{turn.Shape, a, d(3, 2), ten(d(3, 2), 1, 2, 3, 4, 5, 6)},
		{turn.Shape, a, d(6), ten(d(6), 1, 2, 3, 4, 5, 6)},
		{turn.Shape, ten(d(1), 4), d(1, 1, 1), ten(d(1, 1, 1), 4)},
		{turn.Wide, ten(d(1), 4), d(3), ten(d(3), 4, 4, 4)},
		{turn.Wide, ten(d(1, 1), 4), d(2, 2), ten(d(2, 2), 4, 4, 4, 4)},
		{turn.Wide, ten(d(2, 1), 4, 5), d(2, 3), ten(d(2, 3), 4, 4, 4, 5, 5, 5)},
		{turn.Wide, ten(d(1, 2), 4, 5), d(3, 2), ten(d(3, 2), 4, 5, 4, 5, 4, 5)},
		{turn.Wide, ten(d(2, 1, 2), 1, 2, 3, 4), d(2, 2, 2), ten(d(2, 2, 2), 1, 2, 1, 2, 3, 4, 3, 4)},
		{turn.Sum, a, d(1, 1), ten(d(1, 1), 21)},
		{turn.Sum, a, d(2, 1), ten(d(2, 1), 6, 15)},
		{turn.Sum, a, d(1, 3), ten(d(1, 3), 5, 7, 9)},
		{turn.Sum, cube, d(2, 1, 2), ten(d(2, 1, 2), 4, 6, 12, 14)},
		{turn.Sum, cube, d(1, 1, 2), ten(d(1, 1, 2), 16, 20)},
		{turn.Sum, ten(d(2), math.MaxInt, 1), d(1), ten(d(1), math.MinInt)},
		{turn.Sum, ten(d(2), math.MinInt, math.MinInt), d(1), ten(d(1), 0)},
	} {
		if x, e := c.call(c.a, c.d); e != api.OK || !same(x, c.want) {
			t.Errorf("%d: %v, %v, not %v", i, x, e, c.want)
		}
	}
}

// P3.1, P3.2: Turn of all dims: ErrDims, unless there are two; rows become columns; twice is it.
func TestTurnOfAllDims(t *testing.T) {
	for _, dim := range dims() {
		a := filled(dim, 1)
		x, e := turn.Turn(a)
		if len(dim) != 2 {
			if e != api.ErrDims || !none(x) {
				t.Fatalf("Turn of %v: %v, %v", dim, x, e)
			}
			continue
		}
		rows, columns := dim[0], dim[1]
		if e != api.OK || !slices.Equal(x.Dims, d(columns, rows)) || len(x.Data) != len(a.Data) {
			t.Fatalf("Turn of %v: %v, %v", dim, x, e)
		}
		for r := range rows {
			for c := range columns {
				if x.Data[c*rows+r] != a.Data[r*columns+c] {
					t.Fatalf("Turn of %v, row %d, column %d: %v", dim, r, c, x)
				}
			}
		}
		if y, e := turn.Turn(x); e != api.OK || !same(y, a) {
			t.Fatalf("Turn twice of %v: %v, %v", dim, y, e)
		}
	}
}

// P3.1: Shape of all dims to all dims: ErrDims, unless there are as many cells; the same Data.
func TestShapeOfAllDims(t *testing.T) {
	for _, from := range dims() {
		a := filled(from, 2)
		for _, to := range dims() {
			x, e := turn.Shape(a, to)
			if product(from) != product(to) {
				if e != api.ErrDims || !none(x) {
					t.Fatalf("Shape of %v to %v: %v, %v", from, to, x, e)
				}
				continue
			}
			if e != api.OK || !same(x, ten(to, a.Data...)) {
				t.Fatalf("Shape of %v to %v: %v, %v", from, to, x, e)
			}
		}
	}
}

// P3.1: Wide of all dims to all dims: ErrDims, unless they lie under those; each number at all its places.
func TestWideOfAllDims(t *testing.T) {
	for _, from := range dims() {
		a := filled(from, 3)
		for _, to := range dims() {
			x, e := turn.Wide(a, to)
			if !lies(from, to) {
				if e != api.ErrDims || !none(x) {
					t.Fatalf("Wide of %v to %v: %v, %v", from, to, x, e)
				}
				continue
			}
			want := ten(to)
			for _, place := range partners(from, to) {
				want.Data = append(want.Data, a.Data[place])
			}
			if e != api.OK || !same(x, want) {
				t.Fatalf("Wide of %v to %v: %v, %v", from, to, x, e)
			}
		}
	}
}

// P3.1: Sum of all dims to all dims: ErrDims, unless those lie under them; summed up without wrapping around but at the end.
func TestSumOfAllDims(t *testing.T) {
	for _, from := range dims() {
		a := filled(from, 4)
		for _, to := range dims() {
			x, e := turn.Sum(a, to)
			if !lies(to, from) {
				if e != api.ErrDims || !none(x) {
					t.Fatalf("Sum of %v to %v: %v, %v", from, to, x, e)
				}
				continue
			}
			sums := make([]big.Int, product(to))
			for i, place := range partners(to, from) {
				sums[place].Add(&sums[place], big.NewInt(int64(a.Data[i])))
			}
			want := ten(to)
			for i := range sums {
				want.Data = append(want.Data, around(&sums[i]))
			}
			if e != api.OK || !same(x, want) {
				t.Fatalf("Sum of %v to %v: %v, %v", from, to, x, e)
			}
		}
	}
}

// P3.2: the Dot of Wide(a, d) and b is that of a and Sum(b, a's), of all dims that lie under one another.
func TestWideAgainstSum(t *testing.T) {
	pairs := 0
	for _, narrow := range dims() {
		for _, wide := range dims() {
			if !lies(narrow, wide) {
				continue
			}
			pairs++
			for salt := range 3 {
				a, b := filled(narrow, salt), filled(wide, 7-salt)
				laid, e1 := turn.Wide(a, wide)
				summed, e2 := turn.Sum(b, narrow)
				left, e3 := ring.Dot(laid, b)
				right, e4 := ring.Dot(a, summed)
				if e1 != api.OK || e2 != api.OK || e3 != api.OK || e4 != api.OK || left != right {
					t.Fatalf("%v under %v: %d, %d, errors %v, %v, %v, %v", narrow, wide, left, right, e1, e2, e3, e4)
				}
			}
		}
	}
	if pairs < 400 {
		t.Errorf("only %d pairs of dims were tried", pairs)
	}
}

// P3.1: dims that are the tensor's own leave it as it is, and what lies under all is the total.
func TestSameDimsAndTheTotal(t *testing.T) {
	for _, dim := range dims() {
		a := filled(dim, 5)
		for _, c := range askers() {
			if x, e := c.call(a, dim); e != api.OK || !same(x, a) {
				t.Fatalf("%s of %v to itself: %v, %v", c.name, dim, x, e)
			}
		}
		ones := slices.Repeat(d(1), len(dim))
		total, _ := ring.Total(a)
		if x, e := turn.Sum(a, ones); e != api.OK || !same(x, ten(ones, total)) {
			t.Fatalf("Sum of %v to ones: %v, %v", dim, x, e)
		}
	}
}

// P3.1: a tensor that may not be is ErrForm, ahead of ErrDims, whatever dims are asked for; zero values beside it.
func TestWrongTensorsAreErrForm(t *testing.T) {
	for _, a := range wrong() {
		if x, e := turn.Turn(a); e != api.ErrForm || !none(x) {
			t.Errorf("Turn(%v): %v, %v", a, x, e)
		}
		for _, c := range askers() {
			for _, to := range append(append(dims(), wrongDims()...), a.Dims) {
				if x, e := c.call(a, to); e != api.ErrForm || !none(x) {
					t.Fatalf("%s(%v, %v): %v, %v", c.name, a, to, x, e)
				}
			}
		}
	}
}

// P3.1: dims that are asked for and may not be are ErrForm, ahead of ErrDims; zero values beside it.
func TestWrongDimsAreErrForm(t *testing.T) {
	for _, from := range dims() {
		a := filled(from, 6)
		for _, c := range askers() {
			for _, to := range wrongDims() {
				if x, e := c.call(a, to); e != api.ErrForm || !none(x) {
					t.Fatalf("%s of %v to %v: %v, %v", c.name, from, to, x, e)
				}
			}
		}
	}
}

// R2: whoever writes into an answer, its spare room too, changes neither what was handed in nor another answer.
func TestAnswersAreCopies(t *testing.T) {
	room, numbers, to := d(2, 2, 50), d(1, 2, 3, 4, 60), d(2, 2, 70)
	a := ten(room[:2], numbers[:4]...)
	calls := []func() (api.Tensor, api.Errno){func() (api.Tensor, api.Errno) { return turn.Turn(a) }}
	for _, c := range askers() {
		calls = append(calls, func() (api.Tensor, api.Errno) { return c.call(a, to[:2]) })
	}
	for i, call := range calls {
		first, _ := call()
		kept := copied(first)
		second, _ := call()
		for _, l := range [][]int{second.Dims, second.Data} {
			for i := range l[:cap(l)] {
				l[:cap(l)][i] = 99
			}
		}
		third, e := call()
		if !same(first, kept) || !same(third, kept) || e != api.OK {
			t.Errorf("%d: %v, %v, not %v", i, first, third, kept)
		}
		if !slices.Equal(room, d(2, 2, 50)) || !slices.Equal(numbers, d(1, 2, 3, 4, 60)) || !slices.Equal(to, d(2, 2, 70)) {
			t.Fatalf("%d: what was handed in is changed: %v, %v, %v", i, room, numbers, to)
		}
	}
}

// R2: dims and data of one answer share nothing, and an answer keeps none of what it was made of.
func TestAnswersStandAlone(t *testing.T) {
	a, to := ten(d(1), 5), d(1)
	for _, c := range askers() {
		x, _ := c.call(a, to)
		x.Dims = append(x.Dims, 7)
		x.Dims[0] = 8
		if !slices.Equal(x.Data, d(5)) {
			t.Errorf("%s: %v", c.name, x)
		}
		y, _ := c.call(a, to)
		a.Data[0], a.Dims[0], to[0] = 6, 2, 3
		if !same(y, ten(d(1), 5)) {
			t.Errorf("%s: %v", c.name, y)
		}
		a.Data[0], a.Dims[0], to[0] = 5, 1, 1
	}
	m := ten(d(2, 1), 5, 6)
	x, _ := turn.Turn(m)
	m.Data[0], m.Dims[0] = 9, 9
	if !same(x, ten(d(1, 2), 5, 6)) {
		t.Errorf("Turn: %v", x)
	}
}

// R2: no call changes what it is given, also where it errs.
func TestArgumentsStayAsTheyAre(t *testing.T) {
	a, b := ten(d(2, 3), 1, 2, 3, 4, 5, 6), ten(d(3), 7, 8)
	lists := [][]int{{3, 2}, {2, 3}, {1, 3}, {4}, {9}}
	for _, to := range lists {
		for _, c := range askers() {
			c.call(a, to)
			c.call(b, to)
		}
	}
	turn.Turn(a)
	turn.Turn(b)
	if !same(a, ten(d(2, 3), 1, 2, 3, 4, 5, 6)) || !same(b, ten(d(3), 7, 8)) {
		t.Errorf("%v, %v", a, b)
	}
	if !slices.EqualFunc(lists, [][]int{{3, 2}, {2, 3}, {1, 3}, {4}, {9}}, slices.Equal[[]int]) {
		t.Errorf("%v", lists)
	}
}
