package gate_test

import (
	"math"
	"slices"
	"testing"

	"gradus/api"
	"gradus/gate"
	"gradus/ring"
	"gradus/shape"
)

const (
	least    = math.MinInt
	greatest = math.MaxInt
)

// ten makes a tensor: dims, and numbers.
func ten(d []int, l ...int) api.Tensor { return api.Tensor{Dims: d, Data: l} }

// d makes dims.
func d(l ...int) []int { return l }

// copied tells a tensor that shares nothing with t.
func copied(t api.Tensor) api.Tensor {
	return ten(slices.Clone(t.Dims), slices.Clone(t.Data)...)
}

func same(a, b api.Tensor) bool {
	return slices.Equal(a.Dims, b.Dims) && slices.Equal(a.Data, b.Data)
}

// none tells whether an answer is the zero value that stands beside an error.
func none(x api.Tensor) bool { return x.Dims == nil && x.Data == nil }

// dims tells all dims that may be.
func dims() [][]int {
	var l [][]int
	for a := 1; a <= 8; a++ {
		l = append(l, d(a))
		for b := 1; b <= 8; b++ {
			l = append(l, d(a, b))
			for c := 1; c <= 8 && a*b*c <= 64; c++ {
				l = append(l, d(a, b, c))
			}
		}
	}
	return l
}

func product(d []int) int {
	cells := 1
	for _, n := range d {
		cells *= n
	}
	return cells
}

// filled lays numbers over dims: of both signs, no two of them the same.
func filled(d []int, salt int) api.Tensor {
	x := ten(slices.Clone(d))
	for i := range product(d) {
		x.Data = append(x.Data, (i+1)*0x1e3779b97f4a7c15+salt*0x3141592653589793)
	}
	return x
}

// alike lays few numbers over dims, the least and the greatest among them: so that many are alike.
func alike(d []int, salt int) api.Tensor {
	few := []int{0, least, 1, -1, greatest, 0, greatest, least}
	x := ten(slices.Clone(d))
	for i := range product(d) {
		x.Data = append(x.Data, few[((i+salt)*(i+salt+3)/2+i/5)%len(few)])
	}
	return x
}

// flat lays one number over dims.
func flat(d []int, n int) api.Tensor {
	return ten(slices.Clone(d), slices.Repeat([]int{n}, product(d))...)
}

// tensors are some of each kind, of these dims.
func tensors(d []int) []api.Tensor {
	return []api.Tensor{
		filled(d, 0), filled(d, 1), alike(d, 0), alike(d, 1), alike(d, 2), alike(d, 3),
		flat(d, 0), flat(d, 1), flat(d, -1), flat(d, least), flat(d, greatest),
	}
}

// wrong tells tensors that may not be.
func wrong() []api.Tensor {
	return []api.Tensor{
		{}, ten(d(1)), ten(nil, 1), ten(d(), 1), ten(d(2), 1), ten(d(2), 1, 2, 3), ten(d(0)), ten(d(2, 0)), ten(d(1, 1)),
		ten(d(-1, -1), 1), ten(d(9), make([]int, 9)...), ten(d(1, 1, 1, 1), 1), ten(d(2, 3), make([]int, 5)...),
		ten(d(2, 3), make([]int, 7)...), ten(d(1, 9), make([]int, 9)...), ten(d(8, 8, 2), make([]int, 128)...),
		ten(d(5, 4, 4), make([]int, 80)...), ten(d(1<<32, 1<<32)), ten(d(least, least)), ten(d(greatest), 1),
		ten(d(1<<32+1), 1),
	}
}

// wrongNumbers are those of which no n is.
func wrongNumbers() []int {
	return []int{0, -1, -2, -8, 9, 10, 16, 64, 1 << 32, 1<<32 + 1, 1<<32 + 2, least, least + 1, least + 2, greatest}
}

// less tells the dims that Max leaves, or nil where n does not go into the last one.
func less(d []int, n int) []int {
	last := len(d) - 1
	for k := 1; k <= 8; k++ {
		if k*n == d[last] {
			return append(slices.Clone(d[:last]), k)
		}
	}
	return nil
}

// won tells whether the number at place i is the first greatest of its n:
// it is above all ahead of it there, and no one behind it is above it.
func won(data []int, n, i int) bool {
	start := i - i%n
	for k := start; k < start+n; k++ {
		if k < i && data[k] >= data[i] || k > i && data[k] > data[i] {
			return false
		}
	}
	return true
}

// maxed is what Max has to tell.
func maxed(a api.Tensor, n int) api.Tensor {
	x := ten(less(a.Dims, n))
	for i, number := range a.Data {
		if won(a.Data, n, i) {
			x.Data = append(x.Data, number)
		}
	}
	return x
}

// picked is what Pick has to tell.
func picked(a, b api.Tensor, n int) api.Tensor {
	x := flat(a.Dims, 0)
	for i := range a.Data {
		if won(a.Data, n, i) {
			x.Data[i] = b.Data[i/n]
		}
	}
	return x
}

// P5.1: by hand.
func TestReluAndStepByHand(t *testing.T) {
	for i, c := range []struct{ a, b, relu, step api.Tensor }{
		{ten(d(3), 1, 0, -1), ten(d(3), 7, 8, 9), ten(d(3), 1, 0, 0), ten(d(3), 7, 0, 0)},
		{ten(d(1), 0), ten(d(1), 5), ten(d(1), 0), ten(d(1), 0)},
		{ten(d(1, 1, 1), 1), ten(d(1, 1, 1), -5), ten(d(1, 1, 1), 1), ten(d(1, 1, 1), -5)},
		{ten(d(2, 2), least, greatest, least+1, 2), ten(d(2, 2), 1, least, 3, 0), ten(d(2, 2), 0, greatest, 0, 2), ten(d(2, 2), 0, least, 0, 0)},
		{ten(d(2), 1, -1), ten(d(2), greatest, greatest), ten(d(2), 1, 0), ten(d(2), greatest, 0)},
		{ten(d(2), 1<<32, -1<<32), ten(d(2), -1, -2), ten(d(2), 1<<32, 0), ten(d(2), -1, 0)},
	} {
		if x, e := gate.Relu(c.a); e != api.OK || !same(x, c.relu) {
			t.Errorf("%d: Relu: %v, %v", i, x, e)
		}
		if x, e := gate.Step(c.a, c.b); e != api.OK || !same(x, c.step) {
			t.Errorf("%d: Step: %v, %v", i, x, e)
		}
	}
}

// P5.1: Relu and Step of all dims, number by number.
func TestReluAndStepOfAllDims(t *testing.T) {
	for _, dim := range dims() {
		for i, a := range tensors(dim) {
			b := filled(dim, 7)
			relu, e1 := gate.Relu(a)
			step, e2 := gate.Step(a, b)
			if e1 != api.OK || e2 != api.OK || !slices.Equal(relu.Dims, dim) || !slices.Equal(step.Dims, dim) ||
				len(relu.Data) != len(a.Data) || len(step.Data) != len(a.Data) {
				t.Fatalf("%v, %d: %v, %v; %v, %v", dim, i, relu, e1, step, e2)
			}
			for k, n := range a.Data {
				through := n > 0
				if through && (relu.Data[k] != n || step.Data[k] != b.Data[k]) || !through && (relu.Data[k] != 0 || step.Data[k] != 0) {
					t.Fatalf("%v, %d, place %d of %v: %v, %v", dim, i, k, a, relu, step)
				}
			}
		}
	}
}

// P5.1: Step of any two dims: ErrDims, unless they are the same, also where there are as many cells.
func TestStepOfAllPairsOfDims(t *testing.T) {
	for _, first := range dims() {
		for _, second := range dims() {
			x, e := gate.Step(flat(first, 1), filled(second, 1))
			if slices.Equal(first, second) {
				if e != api.OK || !same(x, filled(second, 1)) {
					t.Fatalf("Step of %v and %v: %v, %v", first, second, x, e)
				}
			} else if e != api.ErrDims || !none(x) {
				t.Fatalf("Step of %v and %v: %v, %v", first, second, x, e)
			}
		}
	}
}

// P5.2: by hand: the first of those that are alike, n of 1 and of the whole last dim, the least and the greatest numbers.
func TestMaxAndPickByHand(t *testing.T) {
	for i, c := range []struct {
		a         api.Tensor
		n         int
		max       api.Tensor
		b, picked api.Tensor
	}{
		{ten(d(3), 1, 3, 3), 3, ten(d(1), 3), ten(d(1), 7), ten(d(3), 0, 7, 0)},
		{ten(d(3), 1, 3, 3), 1, ten(d(3), 1, 3, 3), ten(d(3), 7, 8, 9), ten(d(3), 7, 8, 9)},
		{ten(d(1), 0), 1, ten(d(1), 0), ten(d(1), 7), ten(d(1), 7)},
		{ten(d(4), 0, 0, 0, 0), 2, ten(d(2), 0, 0), ten(d(2), 7, 8), ten(d(4), 7, 0, 8, 0)},
		{ten(d(4), 0, 0, 0, 0), 4, ten(d(1), 0), ten(d(1), 7), ten(d(4), 7, 0, 0, 0)},
		{ten(d(2, 2), -3, -2, -1, -4), 2, ten(d(2, 1), -2, -1), ten(d(2, 1), 7, 8), ten(d(2, 2), 0, 7, 8, 0)},
		{ten(d(2, 3), 3, 2, 1, 1, 2, 3), 3, ten(d(2, 1), 3, 3), ten(d(2, 1), 7, 8), ten(d(2, 3), 7, 0, 0, 0, 0, 8)},
		{ten(d(4), least, least, least, greatest), 2, ten(d(2), least, greatest), ten(d(2), 7, 8), ten(d(4), 7, 0, 0, 8)},
		{ten(d(4), greatest, greatest, -1, least), 4, ten(d(1), greatest), ten(d(1), least), ten(d(4), least, 0, 0, 0)},
		{ten(d(4), least, 1, greatest, -1), 2, ten(d(2), 1, greatest), ten(d(2), greatest, 0), ten(d(4), 0, greatest, 0, 0)},
		{ten(d(1, 2, 4), 1, 2, 4, 3, 5, 5, 6, 6), 2, ten(d(1, 2, 2), 2, 4, 5, 6), ten(d(1, 2, 2), 6, 7, 8, 9), ten(d(1, 2, 4), 0, 6, 7, 0, 8, 0, 9, 0)},
		{ten(d(8), 1, 2, 3, 4, 5, 6, 7, 8), 8, ten(d(1), 8), ten(d(1), -1), ten(d(8), 0, 0, 0, 0, 0, 0, 0, -1)},
	} {
		if x, e := gate.Max(c.a, c.n); e != api.OK || !same(x, c.max) {
			t.Errorf("%d: Max: %v, %v", i, x, e)
		}
		if x, e := gate.Pick(c.a, c.b, c.n); e != api.OK || !same(x, c.picked) {
			t.Errorf("%d: Pick: %v, %v", i, x, e)
		}
	}
}

// P5.2: Max and Pick of all dims and all n: ErrDims, unless n goes into the last dim; else as the document tells it.
func TestMaxAndPickOfAllDims(t *testing.T) {
	for _, dim := range dims() {
		for n := 1; n <= api.MaxDim; n++ {
			left := less(dim, n)
			for i, a := range tensors(dim) {
				x, e := gate.Max(a, n)
				if left == nil {
					y, e2 := gate.Pick(a, a, n)
					if e != api.ErrDims || !none(x) || e2 != api.ErrDims || !none(y) {
						t.Fatalf("%v, n %d: %v, %v; %v, %v", dim, n, x, e, y, e2)
					}
					continue
				}
				if e != api.OK || !same(x, maxed(a, n)) {
					t.Fatalf("Max of %v, n %d, %d: %v, %v", dim, n, i, x, e)
				}
				b := filled(left, 3)
				if x, e := gate.Pick(a, b, n); e != api.OK || !same(x, picked(a, b, n)) {
					t.Fatalf("Pick of %v, n %d, %d: %v, %v", dim, n, i, x, e)
				}
			}
		}
	}
}

// P5.2: of all rows of five numbers out of three, the first greatest is picked.
func TestPickOfAllRows(t *testing.T) {
	for row := range 3 * 3 * 3 * 3 * 3 {
		a := ten(d(1, 5))
		for k, rest := 0, row; k < 5; k++ {
			a.Data = append(a.Data, []int{least, 0, greatest}[rest%3])
			rest /= 3
		}
		best, at := a.Data[0], 0
		for k, number := range a.Data {
			if number > best {
				best, at = number, k
			}
		}
		want := ten(d(1, 5), 0, 0, 0, 0, 0)
		want.Data[at] = 7
		if x, e := gate.Max(a, 5); e != api.OK || !same(x, ten(d(1, 1), best)) {
			t.Fatalf("Max of %v: %v, %v", a, x, e)
		}
		if x, e := gate.Pick(a, ten(d(1, 1), 7), 5); e != api.OK || !same(x, want) {
			t.Fatalf("Pick of %v: %v, %v", a, x, e)
		}
	}
}

// P5.2: Pick of any two dims: ErrDims, unless b's are those of Max, also where there are as many cells.
func TestPickOfAllPairsOfDims(t *testing.T) {
	for _, first := range dims() {
		a := alike(first, 1)
		for _, second := range dims() {
			b := filled(second, 2)
			for n := 1; n <= api.MaxDim; n++ {
				x, e := gate.Pick(a, b, n)
				if slices.Equal(less(first, n), second) {
					if e != api.OK || !same(x, picked(a, b, n)) {
						t.Fatalf("Pick of %v and %v, n %d: %v, %v", first, second, n, x, e)
					}
				} else if e != api.ErrDims || !none(x) {
					t.Fatalf("Pick of %v and %v, n %d: %v, %v", first, second, n, x, e)
				}
			}
		}
	}
}

// P5.3: Step of a and ones tells where Relu lets go through: their product with a is Relu.
func TestStepOfOnes(t *testing.T) {
	for _, dim := range dims() {
		ones, _ := shape.Fill(dim, 1)
		for i, a := range tensors(dim) {
			where, e1 := gate.Step(a, ones)
			through, e2 := ring.Mul(where, a)
			relu, e3 := gate.Relu(a)
			if e1 != api.OK || e2 != api.OK || e3 != api.OK || !same(through, relu) {
				t.Fatalf("%v, %d: %v, not %v, errors %v, %v, %v", dim, i, through, relu, e1, e2, e3)
			}
			for k, n := range where.Data {
				if (n == 1) != (relu.Data[k] != 0) || n != 0 && n != 1 {
					t.Fatalf("%v, %d, place %d: %v, %v", dim, i, k, where, relu)
				}
			}
		}
	}
}

// P5.3: the Dot of Pick(a, b, n) and a is that of b and Max(a, n), of all dims and all n that go into them.
func TestPickAgainstMax(t *testing.T) {
	tried := 0
	for _, dim := range dims() {
		for n := 1; n <= api.MaxDim; n++ {
			left := less(dim, n)
			if left == nil {
				continue
			}
			tried++
			for i, a := range tensors(dim) {
				for k, b := range tensors(left) {
					pick, e1 := gate.Pick(a, b, n)
					max, e2 := gate.Max(a, n)
					one, e3 := ring.Dot(pick, a)
					other, e4 := ring.Dot(b, max)
					if e1 != api.OK || e2 != api.OK || e3 != api.OK || e4 != api.OK || one != other {
						t.Fatalf("%v, n %d, %d, %d: %d, %d, errors %v, %v, %v, %v", dim, n, i, k, one, other, e1, e2, e3, e4)
					}
				}
			}
		}
	}
	if tried < 500 {
		t.Errorf("only %d of dims and n were tried", tried)
	}
}

// P5.1, P5.2: a tensor that may not be is ErrForm, ahead of ErrDims, whatever else is asked; zero values beside it.
func TestWrongTensorsAreErrForm(t *testing.T) {
	told := func(name string, a, b api.Tensor, n int, x api.Tensor, e api.Errno) {
		if e != api.ErrForm || !none(x) {
			t.Fatalf("%s(%v, %v, %d): %v, %v", name, a, b, n, x, e)
		}
	}
	for _, a := range wrong() {
		x, e := gate.Relu(a)
		told("Relu", a, a, 0, x, e)
		for n := -1; n <= 10; n++ {
			x, e = gate.Max(a, n)
			told("Max", a, a, n, x, e)
		}
		partners := append(wrong(), a)
		for _, dim := range [][]int{{1}, {2}, {7}, {8}, {2, 3}, {8, 8}, {1, 1, 1}, {2, 3, 4}} {
			partners = append(partners, filled(dim, 1))
		}
		for _, b := range partners {
			x, e = gate.Step(a, b)
			told("Step", a, b, 0, x, e)
			x, e = gate.Step(b, a)
			told("Step", b, a, 0, x, e)
			for n := -1; n <= 10; n++ {
				x, e = gate.Pick(a, b, n)
				told("Pick", a, b, n, x, e)
				x, e = gate.Pick(b, a, n)
				told("Pick", b, a, n, x, e)
			}
		}
	}
}

// P5.2: an n that may not be is ErrForm, ahead of ErrDims, whatever the dims are; zero values beside it.
func TestWrongNumbersAreErrForm(t *testing.T) {
	for _, dim := range dims() {
		a := filled(dim, 1)
		for _, n := range wrongNumbers() {
			if x, e := gate.Max(a, n); e != api.ErrForm || !none(x) {
				t.Fatalf("Max of %v, n %d: %v, %v", dim, n, x, e)
			}
			for _, b := range []api.Tensor{a, ten(d(1), 1), filled(d(2, 3, 4), 1)} {
				if x, e := gate.Pick(a, b, n); e != api.ErrForm || !none(x) {
					t.Fatalf("Pick of %v and %v, n %d: %v, %v", dim, b.Dims, n, x, e)
				}
			}
		}
	}
}

type asked struct {
	name string
	call func() (api.Tensor, api.Errno)
}

// calls are all calls, of these tensors, where n is 1 and 2.
func calls(a, b, half api.Tensor) []asked {
	return []asked{
		{"Relu", func() (api.Tensor, api.Errno) { return gate.Relu(a) }},
		{"Step", func() (api.Tensor, api.Errno) { return gate.Step(a, b) }},
		{"Max of 1", func() (api.Tensor, api.Errno) { return gate.Max(a, 1) }},
		{"Max of 2", func() (api.Tensor, api.Errno) { return gate.Max(a, 2) }},
		{"Pick of 1", func() (api.Tensor, api.Errno) { return gate.Pick(a, b, 1) }},
		{"Pick of 2", func() (api.Tensor, api.Errno) { return gate.Pick(a, half, 2) }},
	}
}

// R2: whoever writes into an answer, its spare room too, changes neither what was handed in nor another answer.
func TestAnswersAreCopies(t *testing.T) {
	lists := func() [][]int {
		return [][]int{{2, 2, 50}, {1, 2, 3, 4, 60}, {2, 2, 51}, {5, 6, 7, 8, 61}, {2, 1, 52}, {9, 10, 62}}
	}
	l := lists()
	a, b, half := ten(l[0][:2], l[1][:4]...), ten(l[2][:2], l[3][:4]...), ten(l[4][:2], l[5][:2]...)
	for _, c := range calls(a, b, half) {
		first, _ := c.call()
		kept := copied(first)
		second, _ := c.call()
		for _, l := range [][]int{second.Dims, second.Data} {
			for i := range l[:cap(l)] {
				l[:cap(l)][i] = 99
			}
		}
		third, e := c.call()
		if !same(first, kept) || !same(third, kept) || e != api.OK {
			t.Errorf("%s: %v, %v, not %v", c.name, first, third, kept)
		}
		if !slices.EqualFunc(l, lists(), slices.Equal[[]int]) {
			t.Fatalf("%s: what was handed in is changed: %v", c.name, l)
		}
	}
}

// R2: dims and data of one answer share nothing, and an answer keeps none of what it was made of.
func TestAnswersStandAlone(t *testing.T) {
	for i := range calls(api.Tensor{}, api.Tensor{}, api.Tensor{}) {
		a, b, half := ten(d(1, 2), 5, 6), ten(d(1, 2), 7, 8), ten(d(1, 1), 9)
		c := calls(a, b, half)[i]
		x, _ := c.call()
		kept := copied(x)
		for _, t := range []api.Tensor{a, b, half} {
			for k := range t.Dims {
				t.Dims[k] = 90
			}
			for k := range t.Data {
				t.Data[k] = 91
			}
		}
		if !same(x, kept) {
			t.Errorf("%s: %v, not %v", c.name, x, kept)
		}
		grown := append(x.Dims, 92, 93)
		grown[0] = 94
		if !slices.Equal(x.Data, kept.Data) {
			t.Errorf("%s: %v, not %v", c.name, x.Data, kept.Data)
		}
	}
}

// R2: no call changes what it is given, also where it errs.
func TestArgumentsStayAsTheyAre(t *testing.T) {
	list := func() []api.Tensor {
		return []api.Tensor{
			ten(d(2, 2), -1, 2, 3, 3), ten(d(2, 2), 5, 6, 7, 8), ten(d(2, 1), 9, 10), ten(d(4), 1, 2, 3, 4), ten(d(3), 1, 2), ten(d(9), 1),
		}
	}
	given := list()
	for _, a := range given {
		gate.Relu(a)
		for _, b := range given {
			gate.Step(a, b)
			for n := -1; n <= 9; n++ {
				gate.Max(a, n)
				gate.Pick(a, b, n)
			}
		}
	}
	if !slices.EqualFunc(given, list(), same) {
		t.Errorf("%v", given)
	}
}
