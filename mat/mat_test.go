package mat_test

import (
	"math"
	"math/big"
	"slices"
	"testing"
	"time"

	"gradus/api"
	"gradus/mat"
	"gradus/turn"
)

// ten makes a tensor: dims, and numbers.
func ten(d []int, l ...int) api.Tensor { return api.Tensor{Dims: d, Data: l} }

// d makes dims.
func d(l ...int) []int { return l }

// copied tells a tensor that shares nothing with t.
func copied(t api.Tensor) api.Tensor {
	return ten(slices.Clone(t.Dims), slices.Clone(t.Data)...)
}

func same(a, b api.Tensor) bool {
	return slices.Equal(a.Dims, b.Dims) && slices.Equal(a.Data, b.Data)
}

// none tells whether an answer is the zero value that stands beside an error.
func none(x api.Tensor) bool { return x.Dims == nil && x.Data == nil }

// around brings a whole number of any size to 64 bits with a sign.
func around(n *big.Int) int {
	full := new(big.Int).Lsh(big.NewInt(1), 64)
	rest := new(big.Int).Mod(n, full)
	if rest.Bit(63) == 1 {
		rest.Sub(rest, full)
	}
	return int(rest.Int64())
}

// dims tells all dims that may be.
func dims() [][]int {
	var l [][]int
	for a := 1; a <= 8; a++ {
		l = append(l, d(a))
		for b := 1; b <= 8; b++ {
			l = append(l, d(a, b))
			for c := 1; c <= 8 && a*b*c <= 64; c++ {
				l = append(l, d(a, b, c))
			}
		}
	}
	return l
}

func product(d []int) int {
	cells := 1
	for _, n := range d {
		cells *= n
	}
	return cells
}

// filled lays numbers over dims, no two of them the same, and so great that products of them wrap around.
func filled(d []int, salt int) api.Tensor {
	x := ten(slices.Clone(d))
	for i := range product(d) {
		x.Data = append(x.Data, (i+1)*0x1234567890abcdf+salt*0x3141592653589793)
	}
	return x
}

// wrong tells tensors that may not be.
func wrong() []api.Tensor {
	return []api.Tensor{
		{}, ten(d(1)), ten(nil, 1), ten(d(), 1), ten(d(2), 1), ten(d(2), 1, 2, 3), ten(d(0)), ten(d(2, 0)), ten(d(0, 0)),
		ten(d(1, 1)), ten(d(-1, -1), 1), ten(d(9), make([]int, 9)...), ten(d(1, 1, 1, 1), 1), ten(d(2, 2), 1, 2, 3),
		ten(d(2, 2), 1, 2, 3, 4, 5), ten(d(9, 1), make([]int, 9)...), ten(d(1, 9), make([]int, 9)...),
		ten(d(9, 9), make([]int, 81)...), ten(d(8, 8, 2), make([]int, 128)...), ten(d(1<<32, 1<<32)),
		ten(d(math.MinInt, math.MinInt)), ten(d(math.MaxInt), 1), ten(d(1<<32+1, 1<<32+1), 1),
	}
}

// wrongTimes are numbers of times that no power has.
func wrongTimes() []int {
	return []int{-1, -2, math.MinInt, math.MinInt + 1, api.MaxNum + 1, api.MaxNum + 2, 1 << 32, 1<<32 + 1, math.MaxInt}
}

// goes tells whether matrices of these dims have a product.
func goes(a, b []int) bool { return len(a) == 2 && len(b) == 2 && a[1] == b[0] }

// square tells whether these are as many by as many.
func square(a []int) bool { return len(a) == 2 && a[0] == a[1] }

// times tells the product of two matrices in whole numbers of any size, brought to 64 bits at the end alone.
func times(a, b api.Tensor) api.Tensor {
	rows, inner, columns := a.Dims[0], a.Dims[1], b.Dims[1]
	x := ten(d(rows, columns))
	for r := range rows {
		for c := range columns {
			sum := new(big.Int)
			for k := range inner {
				left, right := big.NewInt(int64(a.Data[r*inner+k])), big.NewInt(int64(b.Data[k*columns+c]))
				sum.Add(sum, left.Mul(left, right))
			}
			x.Data = append(x.Data, around(sum))
		}
	}
	return x
}

// ones tells the matrix of n by n with 1 where row and column are the same.
func ones(n int) api.Tensor {
	x := ten(d(n, n))
	for r := range n {
		for c := range n {
			if r == c {
				x.Data = append(x.Data, 1)
			} else {
				x.Data = append(x.Data, 0)
			}
		}
	}
	return x
}

// mul is Mul of what goes together.
func mul(t *testing.T, a, b api.Tensor) api.Tensor {
	t.Helper()
	x, e := mat.Mul(a, b)
	if e != api.OK {
		t.Fatalf("Mul(%v, %v): %v", a, b, e)
	}
	return x
}

// power is Power of what has one; it fails, if that does not end soon.
func power(t *testing.T, a api.Tensor, n int) api.Tensor {
	t.Helper()
	type answer struct {
		x api.Tensor
		e api.Errno
	}
	done := make(chan answer, 1)
	go func() {
		x, e := mat.Power(a, n)
		done <- answer{x, e}
	}()
	select {
	case got := <-done:
		if got.e != api.OK {
			t.Fatalf("Power(%v, %d): %v", a, n, got.e)
		}
		return got.x
	case <-time.After(20 * time.Second):
		t.Fatalf("Power(%v, %d) does not end soon", a, n)
	}
	return api.Tensor{}
}

// P4.1: Mul by hand.
func TestMulByHand(t *testing.T) {
	a, b := ten(d(2, 3), 1, 2, 3, 4, 5, 6), ten(d(3, 2), 7, 8, 9, 10, 11, 12)
	for i, c := range [][3]api.Tensor{
		{a, b, ten(d(2, 2), 58, 64, 139, 154)},
		{b, a, ten(d(3, 3), 39, 54, 69, 49, 68, 87, 59, 82, 105)},
		{ten(d(1, 3), 1, 2, 3), ten(d(3, 1), 4, 5, 6), ten(d(1, 1), 32)},
		{ten(d(3, 1), 1, 2, 3), ten(d(1, 2), 4, 5), ten(d(3, 2), 4, 5, 8, 10, 12, 15)},
		{ten(d(1, 1), -5), ten(d(1, 1), 7), ten(d(1, 1), -35)},
		{ten(d(2, 2), 0, 1, 0, 0), ten(d(2, 2), 0, 0, 1, 0), ten(d(2, 2), 1, 0, 0, 0)},
		{ten(d(1, 1), math.MinInt), ten(d(1, 1), -1), ten(d(1, 1), math.MinInt)},
		{ten(d(1, 1), math.MaxInt), ten(d(1, 1), 2), ten(d(1, 1), -2)},
		{ten(d(1, 2), math.MaxInt, 1), ten(d(2, 1), 1, 1), ten(d(1, 1), math.MinInt)},
		{ten(d(1, 2), 1<<62, 3), ten(d(2, 1), 4, 5), ten(d(1, 1), 15)},
	} {
		if x, e := mat.Mul(c[0], c[1]); e != api.OK || !same(x, c[2]) {
			t.Errorf("%d: %v, %v, not %v", i, x, e, c[2])
		}
	}
}

// P4.1: Mul of all dims with all dims: ErrDims, unless both have two and those within are the same; else the product.
func TestMulOfAllDims(t *testing.T) {
	for _, left := range dims() {
		a := filled(left, 1)
		for _, right := range dims() {
			b := filled(right, 2)
			x, e := mat.Mul(a, b)
			if !goes(left, right) {
				if e != api.ErrDims || !none(x) {
					t.Fatalf("Mul of %v and %v: %v, %v", left, right, x, e)
				}
				continue
			}
			if e != api.OK || !same(x, times(a, b)) {
				t.Fatalf("Mul of %v and %v: %v, %v", left, right, x, e)
			}
		}
	}
}

// P4.1: One of 1 to MaxDim; ErrForm of all else, with zero values beside it.
func TestOne(t *testing.T) {
	for n := 1; n <= api.MaxDim; n++ {
		if x, e := mat.One(n); e != api.OK || !same(x, ones(n)) {
			t.Errorf("One(%d): %v, %v", n, x, e)
		}
	}
	for _, n := range []int{0, -1, -8, api.MaxDim + 1, 64, 1 << 32, 1<<32 + 1, 1<<61 + 1, math.MaxInt, math.MinInt, math.MinInt + 1} {
		if x, e := mat.One(n); e != api.ErrForm || !none(x) {
			t.Errorf("One(%d): %v, %v", n, x, e)
		}
	}
}

// P4.1: One leaves each matrix as it is, on either side.
func TestOneLeavesOthersAsTheyAre(t *testing.T) {
	for rows := 1; rows <= 8; rows++ {
		for columns := 1; columns <= 8; columns++ {
			a := filled(d(rows, columns), 3)
			left, _ := mat.One(rows)
			right, _ := mat.One(columns)
			if x, y := mul(t, left, a), mul(t, a, right); !same(x, a) || !same(y, a) {
				t.Fatalf("%d by %d: %v, %v", rows, columns, x, y)
			}
		}
	}
}

// P4.1: Power of all that are as many by as many, against products one by one; 0: One.
func TestPowerOfSmallNumbers(t *testing.T) {
	for n := 1; n <= 8; n++ {
		a := filled(d(n, n), n)
		want := ones(n)
		for k := range 70 {
			if x := power(t, a, k); !same(x, want) {
				t.Fatalf("%d by %d, power %d: %v, not %v", n, n, k, x, want)
			}
			want = times(want, a)
		}
	}
	if x := power(t, ten(d(2, 2), 0, 0, 0, 0), 0); !same(x, ones(2)) {
		t.Errorf("power 0 of zeros: %v", x)
	}
}

// P4.1: Power up to MaxNum ends soon, and is what a matrix whose powers are known by its form has.
func TestPowerOfGreatNumbers(t *testing.T) {
	full := new(big.Int).Lsh(big.NewInt(1), 64)
	for _, n := range []int{1 << 10, 1<<20 - 1, 123456789, 1<<29 + 1, api.MaxNum - 1, api.MaxNum} {
		for _, base := range []int{3, -7, 2, 1, 0, -1, math.MaxInt, math.MinInt, 0x1234567890abcdf} {
			want := around(new(big.Int).Exp(new(big.Int).Mod(big.NewInt(int64(base)), full), big.NewInt(int64(n)), full))
			if x := power(t, ten(d(1, 1), base), n); !same(x, ten(d(1, 1), want)) {
				t.Errorf("%d, power %d: %v, not %d", base, n, x, want)
			}
		}
		if x := power(t, ten(d(2, 2), 1, 5, 0, 1), n); !same(x, ten(d(2, 2), 1, 5*n, 0, 1)) {
			t.Errorf("a slant, power %d: %v", n, x)
		}
		if x := power(t, ten(d(3, 3), 0, 1, 0, 0, 0, 1, 0, 0, 0), n); !same(x, ten(d(3, 3), make([]int, 9)...)) {
			t.Errorf("what comes to nothing, power %d: %v", n, x)
		}
		ring := ten(d(8, 8), make([]int, 64)...)
		want := copied(ring)
		for r := range 8 {
			ring.Data[r*8+(r+1)%8] = 1
			want.Data[r*8+(r+n)%8] = 1
		}
		if x := power(t, ring, n); !same(x, want) {
			t.Errorf("a ring of 8, power %d: %v", n, x)
		}
	}
}

// P4.1, P4.2: the power of a sum is the product of the powers, since brackets may stand anywhere.
func TestPowersGoTogether(t *testing.T) {
	for n := 1; n <= 8; n++ {
		a := filled(d(n, n), 9-n)
		for _, two := range [][2]int{{0, 5}, {1, 1}, {13, 200}, {1 << 20, 77}, {1 << 29, 1 << 29}, {api.MaxNum - 3, 3}, {api.MaxNum, 0}} {
			left := mul(t, power(t, a, two[0]), power(t, a, two[1]))
			right := power(t, a, two[0]+two[1])
			if !same(left, right) {
				t.Errorf("%d by %d, powers %v: %v, %v", n, n, two, left, right)
			}
		}
	}
}

// P4.1: Power of all dims: ErrDims, unless as many by as many, whatever n may be; ErrForm ahead of it where n may not be.
func TestPowerOfAllDims(t *testing.T) {
	for _, dim := range dims() {
		a := filled(dim, 4)
		for _, n := range []int{0, 1, 2, 3, api.MaxNum} {
			x, e := mat.Power(a, n)
			if square(dim) != (e == api.OK) || !square(dim) && (e != api.ErrDims || !none(x)) {
				t.Fatalf("Power of %v, %d: %v, %v", dim, n, x, e)
			}
		}
		for _, n := range wrongTimes() {
			if x, e := mat.Power(a, n); e != api.ErrForm || !none(x) {
				t.Fatalf("Power of %v, %d: %v, %v", dim, n, x, e)
			}
		}
	}
}

// P4.1: a tensor that may not be is ErrForm, ahead of ErrDims, whatever stands beside it; zero values beside it.
func TestWrongTensorsAreErrForm(t *testing.T) {
	beside := wrong()
	for _, dim := range dims() {
		beside = append(beside, filled(dim, 5))
	}
	for _, a := range wrong() {
		for _, b := range beside {
			if x, e := mat.Mul(a, b); e != api.ErrForm || !none(x) {
				t.Fatalf("Mul(%v, %v): %v, %v", a, b, x, e)
			}
			if x, e := mat.Mul(b, a); e != api.ErrForm || !none(x) {
				t.Fatalf("Mul(%v, %v): %v, %v", b, a, x, e)
			}
		}
		for _, n := range append(wrongTimes(), 0, 1, 2, api.MaxNum) {
			if x, e := mat.Power(a, n); e != api.ErrForm || !none(x) {
				t.Fatalf("Power(%v, %d): %v, %v", a, n, x, e)
			}
		}
	}
}

// P4.2: products go together in any brackets, of all dims that go together.
func TestAnyBrackets(t *testing.T) {
	for i := range 8 * 8 * 8 * 8 {
		p, q, r, s := i/512+1, i/64%8+1, i/8%8+1, i%8+1
		a, b, c := filled(d(p, q), 1), filled(d(q, r), i), filled(d(r, s), -i)
		left, right := mul(t, mul(t, a, b), c), mul(t, a, mul(t, b, c))
		if !same(left, right) {
			t.Fatalf("%d by %d by %d by %d: %v, %v", p, q, r, s, left, right)
		}
	}
}

// P4.2: Turn of a product is the product of the turned ones, the other way round.
func TestTurnOfAProduct(t *testing.T) {
	turned := func(a api.Tensor) api.Tensor {
		x, e := turn.Turn(a)
		if e != api.OK {
			t.Fatalf("Turn(%v): %v", a, e)
		}
		return x
	}
	for i := range 8 * 8 * 8 {
		p, q, r := i/64+1, i/8%8+1, i%8+1
		a, b := filled(d(p, q), 6), filled(d(q, r), i)
		left, right := turned(mul(t, a, b)), mul(t, turned(b), turned(a))
		if !same(left, right) {
			t.Fatalf("%d by %d by %d: %v, %v", p, q, r, left, right)
		}
	}
}

// R2: whoever writes into an answer, its spare room too, changes neither what was handed in nor another answer.
func TestAnswersAreCopies(t *testing.T) {
	room, numbers := d(2, 2, 50), d(1, 2, 3, 4, 60)
	a := ten(room[:2], numbers[:4]...)
	calls := []func() (api.Tensor, api.Errno){
		func() (api.Tensor, api.Errno) { return mat.Mul(a, a) },
		func() (api.Tensor, api.Errno) { return mat.Mul(a, ones(2)) },
		func() (api.Tensor, api.Errno) { return mat.One(2) },
	}
	for n := range 4 {
		calls = append(calls, func() (api.Tensor, api.Errno) { return mat.Power(a, n) })
	}
	for i, call := range calls {
		first, _ := call()
		kept := copied(first)
		second, _ := call()
		for _, l := range [][]int{second.Dims, second.Data} {
			for i := range l[:cap(l)] {
				l[:cap(l)][i] = 99
			}
		}
		third, e := call()
		if !same(first, kept) || !same(third, kept) || e != api.OK {
			t.Errorf("%d: %v, %v, not %v", i, first, third, kept)
		}
		if !slices.Equal(room, d(2, 2, 50)) || !slices.Equal(numbers, d(1, 2, 3, 4, 60)) {
			t.Fatalf("%d: what was handed in is changed: %v, %v", i, room, numbers)
		}
	}
}

// R2: dims and data of one answer share nothing, and an answer keeps none of what it was made of.
func TestAnswersStandAlone(t *testing.T) {
	a, b := ten(d(1, 1), 5), ten(d(1, 1), 1)
	x, _ := mat.Mul(a, b)
	y, _ := mat.Power(a, 1)
	z, _ := mat.One(1)
	a.Data[0], a.Dims[0], b.Data[0], b.Dims[1] = 6, 2, 7, 3
	if !same(x, ten(d(1, 1), 5)) || !same(y, ten(d(1, 1), 5)) || !same(z, ten(d(1, 1), 1)) {
		t.Errorf("%v, %v, %v", x, y, z)
	}
	for _, l := range []api.Tensor{x, y, z} {
		kept := slices.Clone(l.Data)
		long := append(l.Dims, 7)
		long[0], l.Dims[0], l.Dims[1] = 8, 8, 8
		if !slices.Equal(l.Data, kept) {
			t.Errorf("%v, not %v", l.Data, kept)
		}
	}
}

// R2: no call changes what it is given, also where it errs.
func TestArgumentsStayAsTheyAre(t *testing.T) {
	a, b, c := ten(d(2, 3), 1, 2, 3, 4, 5, 6), ten(d(3, 3), 1, 2, 3, 4, 5, 6, 7, 8, 9), ten(d(3), 7, 8)
	for _, x := range []api.Tensor{a, b, c} {
		for _, y := range []api.Tensor{a, b, c} {
			mat.Mul(x, y)
		}
		for _, n := range []int{-1, 0, 1, 2, 7, api.MaxNum, api.MaxNum + 1} {
			mat.Power(x, n)
		}
	}
	if !same(a, ten(d(2, 3), 1, 2, 3, 4, 5, 6)) || !same(b, ten(d(3, 3), 1, 2, 3, 4, 5, 6, 7, 8, 9)) || !same(c, ten(d(3), 7, 8)) {
		t.Errorf("%v, %v, %v", a, b, c)
	}
}
