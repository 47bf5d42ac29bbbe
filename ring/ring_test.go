package ring_test

import (
	"math"
	"math/big"
	"slices"
	"testing"

	"gradus/api"
	"gradus/ring"
)

// ten makes a tensor: dims, and numbers.
func ten(d []int, l ...int) api.Tensor { return api.Tensor{Dims: d, Data: l} }

// copied tells a tensor that shares nothing with t.
func copied(t api.Tensor) api.Tensor {
	return ten(slices.Clone(t.Dims), slices.Clone(t.Data)...)
}

func same(a, b api.Tensor) bool {
	return slices.Equal(a.Dims, b.Dims) && slices.Equal(a.Data, b.Data)
}

// around brings a whole number of any size to 64 bits with a sign: the arithmetic that is asked for, without Go's own.
func around(n *big.Int) int {
	full := new(big.Int).Lsh(big.NewInt(1), 64)
	rest := new(big.Int).Mod(n, full)
	if rest.Bit(63) == 1 {
		rest.Sub(rest, full)
	}
	return int(rest.Int64())
}

func large(n int) *big.Int { return big.NewInt(int64(n)) }

func plus(a, b int) int  { return around(new(big.Int).Add(large(a), large(b))) }
func minus(a, b int) int { return around(new(big.Int).Sub(large(a), large(b))) }
func times(a, b int) int { return around(new(big.Int).Mul(large(a), large(b))) }

// numbers are ordinary ones, and those by which arithmetic wraps around.
func numbers() []int {
	return []int{
		0, 1, -1, 2, -2, 3, 7, -12, 1000003, math.MaxInt32, math.MinInt32, 1 << 32, 1<<32 + 1, -1 << 33,
		1 << 62, -1 << 62, 1<<62 + 5, math.MaxInt, math.MaxInt - 1, math.MinInt, math.MinInt + 1, 0x0123456789abcdef,
	}
}

// dims tells all dims that may be.
func dims() [][]int {
	var l [][]int
	for a := 1; a <= 8; a++ {
		l = append(l, []int{a})
		for b := 1; b <= 8; b++ {
			l = append(l, []int{a, b})
			for c := 1; c <= 8 && a*b*c <= 64; c++ {
				l = append(l, []int{a, b, c})
			}
		}
	}
	return l
}

// filled lays numbers over dims, from a place of the list of numbers on.
func filled(d []int, from int) api.Tensor {
	cells, all := 1, numbers()
	for _, n := range d {
		cells *= n
	}
	x := ten(slices.Clone(d))
	for i := range cells {
		x.Data = append(x.Data, all[(from+i)%len(all)])
	}
	return x
}

// wrong tells tensors that may not be.
func wrong() []api.Tensor {
	return []api.Tensor{
		{}, ten([]int{1}), ten(nil, 1), ten([]int{}, 1), ten([]int{2}, 1), ten([]int{2}, 1, 2, 3), ten([]int{0}), ten([]int{2, 0}),
		ten([]int{-1, -1}, 1), ten([]int{9}, make([]int, 9)...), ten([]int{1, 1, 1, 1}, 1), ten([]int{2, 3}, make([]int, 5)...),
		ten([]int{8, 8, 2}, make([]int, 128)...), ten([]int{5, 4, 4}, make([]int, 80)...), ten([]int{1 << 32, 1 << 32}),
		ten([]int{math.MinInt, math.MinInt}), ten([]int{math.MaxInt}, 1), ten([]int{1<<32 + 1}, 1),
	}
}

type pair = func(a, b api.Tensor) (api.Tensor, api.Errno)

// pairs are the calls of two tensors beside what they do to two numbers.
func pairs() []struct {
	name string
	call pair
	of   func(a, b int) int
} {
	return []struct {
		name string
		call pair
		of   func(a, b int) int
	}{{"Add", ring.Add, plus}, {"Sub", ring.Sub, minus}, {"Mul", ring.Mul, times}}
}

// P2.1: Add, Sub, Mul do number by number what they should, of all pairs of the numbers.
func TestPairsNumberByNumber(t *testing.T) {
	for _, c := range pairs() {
		for _, a := range numbers() {
			for _, b := range numbers() {
				x, e := c.call(ten([]int{1}, a), ten([]int{1}, b))
				if e != api.OK || !same(x, ten([]int{1}, c.of(a, b))) {
					t.Fatalf("%s(%d, %d): %v, %v", c.name, a, b, x, e)
				}
			}
		}
	}
}

// P2.1: of all dims, each number of the answer is of the two that stand at its place.
func TestPairsOfAllDims(t *testing.T) {
	for _, c := range pairs() {
		for _, d := range dims() {
			a, b := filled(d, 3), filled(d, 10)
			want := copied(a)
			for i := range want.Data {
				want.Data[i] = c.of(a.Data[i], b.Data[i])
			}
			if x, e := c.call(a, b); e != api.OK || !same(x, want) {
				t.Fatalf("%s of %v: %v, %v", c.name, d, x, e)
			}
		}
	}
}

// P2.1: Neg and Scale of all dims, by any n.
func TestNegAndScale(t *testing.T) {
	for _, d := range dims() {
		a := filled(d, 5)
		for _, n := range numbers() {
			want := copied(a)
			for i := range want.Data {
				want.Data[i] = times(a.Data[i], n)
			}
			if x, e := ring.Scale(a, n); e != api.OK || !same(x, want) {
				t.Fatalf("Scale(%v, %d): %v, %v", a, n, x, e)
			}
			if n != -1 {
				continue
			}
			if x, e := ring.Neg(a); e != api.OK || !same(x, want) {
				t.Fatalf("Neg(%v): %v, %v", a, x, e)
			}
		}
	}
}

// P2.1, P2.2: by hand, at the ends of the numbers.
func TestByHand(t *testing.T) {
	const top, low = math.MaxInt, math.MinInt
	d := []int{2, 2}
	a, b := ten(d, top, low, 3, low), ten(d, 1, 1, -5, low)
	for _, c := range []struct {
		call pair
		want api.Tensor
	}{
		{ring.Add, ten(d, low, low+1, -2, 0)},
		{ring.Sub, ten(d, top-1, top, 8, 0)},
		{ring.Mul, ten(d, top, low, -15, 0)},
		{func(a, _ api.Tensor) (api.Tensor, api.Errno) { return ring.Neg(a) }, ten(d, low+1, low, -3, low)},
		{func(a, _ api.Tensor) (api.Tensor, api.Errno) { return ring.Scale(a, 2) }, ten(d, -2, 0, 6, 0)},
		{func(a, _ api.Tensor) (api.Tensor, api.Errno) { return ring.Scale(a, low) }, ten(d, low, 0, low, 0)},
	} {
		if x, e := c.call(a, b); e != api.OK || !same(x, c.want) {
			t.Errorf("%v, %v, not %v", x, e, c.want)
		}
	}
	if n, e := ring.Dot(a, b); n != -16 || e != api.OK {
		t.Errorf("Dot: %d, %v", n, e)
	}
	if n, e := ring.Total(a); n != low+2 || e != api.OK {
		t.Errorf("Total: %d, %v", n, e)
	}
}

// P2.2: Dot and Total of all dims, summed up without wrapping around but at the end.
func TestDotAndTotal(t *testing.T) {
	for _, d := range dims() {
		for from := range numbers() {
			a, b := filled(d, from), filled(d, 2*from+1)
			dot, total := new(big.Int), new(big.Int)
			for i := range a.Data {
				dot.Add(dot, new(big.Int).Mul(large(a.Data[i]), large(b.Data[i])))
				total.Add(total, large(a.Data[i]))
			}
			if n, e := ring.Dot(a, b); n != around(dot) || e != api.OK {
				t.Fatalf("Dot(%v, %v): %d, %v", a, b, n, e)
			}
			if n, e := ring.Total(a); n != around(total) || e != api.OK {
				t.Fatalf("Total(%v): %d, %v", a, n, e)
			}
		}
	}
}

// P2.1, P2.2: a tensor that may not be is ErrForm, on either side, and ahead of ErrDims; zero values beside it.
func TestWrongTensorsAreErrForm(t *testing.T) {
	for _, x := range wrong() {
		for _, two := range [][2]api.Tensor{
			{x, x}, {x, ten([]int{1}, 4)}, {ten([]int{1}, 4), x}, {x, ten([]int{2}, 4, 5)}, {ten([]int{2}, 4, 5), x},
			{x, ten([]int{2, 3}, 1, 2, 3, 4, 5, 6)}, {ten([]int{2, 3}, 1, 2, 3, 4, 5, 6), x},
		} {
			for _, c := range pairs() {
				if y, e := c.call(two[0], two[1]); e != api.ErrForm || y.Dims != nil || y.Data != nil {
					t.Errorf("%s(%v): %v, %v", c.name, two, y, e)
				}
			}
			if n, e := ring.Dot(two[0], two[1]); n != 0 || e != api.ErrForm {
				t.Errorf("Dot(%v): %d, %v", two, n, e)
			}
		}
		if y, e := ring.Neg(x); e != api.ErrForm || y.Dims != nil || y.Data != nil {
			t.Errorf("Neg(%v): %v, %v", x, y, e)
		}
		if y, e := ring.Scale(x, 3); e != api.ErrForm || y.Dims != nil || y.Data != nil {
			t.Errorf("Scale(%v): %v, %v", x, y, e)
		}
		if n, e := ring.Total(x); n != 0 || e != api.ErrForm {
			t.Errorf("Total(%v): %d, %v", x, n, e)
		}
	}
}

// P2.1, P2.2: other dims are ErrDims, also with as many numbers, or with dims of 1; zero values beside it.
func TestOtherDimsAreErrDims(t *testing.T) {
	all := dims()
	for i, a := range all {
		for k, b := range all {
			want := api.ErrDims
			if i == k {
				want = api.OK
			}
			first, second := filled(a, 0), filled(b, 1)
			for _, c := range pairs() {
				y, e := c.call(first, second)
				if e != want || e != api.OK && (y.Dims != nil || y.Data != nil) {
					t.Fatalf("%s of %v, %v: %v, %v", c.name, a, b, y, e)
				}
			}
			if n, e := ring.Dot(first, second); e != want || e != api.OK && n != 0 {
				t.Fatalf("Dot of %v, %v: %d, %v", a, b, n, e)
			}
		}
	}
}

// sure tells a call's tensor, and ends the test where there is none.
func sure(t *testing.T) func(x api.Tensor, e api.Errno) api.Tensor {
	return func(x api.Tensor, e api.Errno) api.Tensor {
		t.Helper()
		if e != api.OK {
			t.Fatalf("an error: %v", e)
		}
		return x
	}
}

// P2.3: the laws of a ring.
func TestLawsOfARing(t *testing.T) {
	is := sure(t)
	d := []int{2, 8, 3}
	for from := range numbers() {
		a, b, c := filled(d, from), filled(d, 5*from+2), filled(d, 9*from+4)
		zero, one := is(ring.Scale(a, 0)), is(ring.Scale(a, 0))
		for i := range one.Data {
			one.Data[i] = 1
		}
		for name, two := range map[string][2]api.Tensor{
			"a+b = b+a":         {is(ring.Add(a, b)), is(ring.Add(b, a))},
			"(a+b)+c = a+(b+c)": {is(ring.Add(is(ring.Add(a, b)), c)), is(ring.Add(a, is(ring.Add(b, c))))},
			"a+0 = a":           {is(ring.Add(a, zero)), a},
			"a+(-a) = 0":        {is(ring.Add(a, is(ring.Neg(a)))), zero},
			"a-a = 0":           {is(ring.Sub(a, a)), zero},
			"a-b = a+(-b)":      {is(ring.Sub(a, b)), is(ring.Add(a, is(ring.Neg(b))))},
			"-(-a) = a":         {is(ring.Neg(is(ring.Neg(a)))), a},
			"ab = ba":           {is(ring.Mul(a, b)), is(ring.Mul(b, a))},
			"(ab)c = a(bc)":     {is(ring.Mul(is(ring.Mul(a, b)), c)), is(ring.Mul(a, is(ring.Mul(b, c))))},
			"1a = a":            {is(ring.Mul(one, a)), a},
			"0a = 0":            {is(ring.Mul(zero, a)), zero},
			"a(b+c) = ab+ac":    {is(ring.Mul(a, is(ring.Add(b, c)))), is(ring.Add(is(ring.Mul(a, b)), is(ring.Mul(a, c))))},
			"2a = a+a":          {is(ring.Scale(a, 2)), is(ring.Add(a, a))},
			"(-1)a = -a":        {is(ring.Scale(a, -1)), is(ring.Neg(a))},
		} {
			if !same(two[0], two[1]) {
				t.Fatalf("%s, from %d on: %v, %v", name, from, two[0], two[1])
			}
		}
	}
}

// P2.3: sums keep to the laws, too.
func TestLawsOfSums(t *testing.T) {
	is := sure(t)
	d := []int{3, 7}
	for from := range numbers() {
		a, b, c := filled(d, from), filled(d, 5*from+2), filled(d, 9*from+4)
		ones := is(ring.Scale(a, 0))
		for i := range ones.Data {
			ones.Data[i] = 1
		}
		dot := func(x, y api.Tensor) int {
			n, e := ring.Dot(x, y)
			if e != api.OK {
				t.Fatalf("an error: %v", e)
			}
			return n
		}
		total, _ := ring.Total(a)
		if dot(a, b) != dot(b, a) || dot(a, is(ring.Add(b, c))) != plus(dot(a, b), dot(a, c)) || dot(a, ones) != total {
			t.Fatalf("from %d on", from)
		}
	}
}

// R2: whoever writes into an answer changes neither what was handed in nor another answer.
func TestAnswersAreCopies(t *testing.T) {
	room, numbers := []int{2, 2, 50}, []int{1, 2, 3, 4, 60}
	a := ten(room[:2], numbers[:4]...)
	for _, call := range []func() (api.Tensor, api.Errno){
		func() (api.Tensor, api.Errno) { return ring.Add(a, a) },
		func() (api.Tensor, api.Errno) { return ring.Sub(a, a) },
		func() (api.Tensor, api.Errno) { return ring.Mul(a, a) },
		func() (api.Tensor, api.Errno) { return ring.Neg(a) },
		func() (api.Tensor, api.Errno) { return ring.Scale(a, 1) },
	} {
		first, _ := call()
		kept := copied(first)
		second, _ := call()
		for _, l := range [][]int{second.Dims, second.Data} {
			for i := range l[:cap(l)] {
				l[:cap(l)][i] = 99
			}
		}
		third, e := call()
		if !same(first, kept) || !same(third, kept) || e != api.OK {
			t.Errorf("%v, %v, not %v", first, third, kept)
		}
		if !slices.Equal(room, []int{2, 2, 50}) || !slices.Equal(numbers, []int{1, 2, 3, 4, 60}) {
			t.Fatalf("what was handed in is changed: %v, %v", room, numbers)
		}
	}
}

// R2: dims and data of one answer share nothing.
func TestDimsAndDataLieApart(t *testing.T) {
	x, _ := ring.Neg(ten([]int{1}, 5))
	x.Dims = append(x.Dims, 7)
	x.Dims[0] = 8
	if !slices.Equal(x.Data, []int{-5}) {
		t.Errorf("%v", x)
	}
}

// R2: no call changes what it is given, also where it errs.
func TestArgumentsStayAsTheyAre(t *testing.T) {
	a, b, c := ten([]int{3}, 1, -2, 3), ten([]int{3}, 4, 5, 6), ten([]int{3}, 7, 8)
	for _, two := range [][2]api.Tensor{{a, b}, {a, c}, {c, b}} {
		for _, call := range pairs() {
			call.call(two[0], two[1])
		}
		ring.Dot(two[0], two[1])
		ring.Neg(two[1])
		ring.Scale(two[0], -3)
		ring.Total(two[1])
	}
	if !same(a, ten([]int{3}, 1, -2, 3)) || !same(b, ten([]int{3}, 4, 5, 6)) || !same(c, ten([]int{3}, 7, 8)) {
		t.Errorf("%v, %v, %v", a, b, c)
	}
}
