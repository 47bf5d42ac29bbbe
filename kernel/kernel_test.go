package kernel_test

import (
	"math"
	"slices"
	"testing"

	"gradus/api"
	"gradus/gate"
	"gradus/kernel"
	"gradus/mat"
	"gradus/ring"
	"gradus/shape"
	"gradus/turn"
)

const (
	least    = math.MinInt
	greatest = math.MaxInt
)

// ten makes a tensor: dims, and numbers.
func ten(d []int, l ...int) api.Tensor { return api.Tensor{Dims: d, Data: l} }

// d makes dims.
func d(l ...int) []int { return l }

// copied tells a tensor that shares nothing with t.
func copied(t api.Tensor) api.Tensor {
	return ten(slices.Clone(t.Dims), slices.Clone(t.Data)...)
}

func same(a, b api.Tensor) bool {
	return slices.Equal(a.Dims, b.Dims) && slices.Equal(a.Data, b.Data)
}

// none tells whether an answer is the zero value that stands beside an error.
func none(x api.Tensor) bool { return x.Dims == nil && x.Data == nil }

// dims tells all dims that may be.
func dims() [][]int {
	var l [][]int
	for a := 1; a <= 8; a++ {
		l = append(l, d(a))
		for b := 1; b <= 8; b++ {
			l = append(l, d(a, b))
			for c := 1; c <= 8 && a*b*c <= 64; c++ {
				l = append(l, d(a, b, c))
			}
		}
	}
	return l
}

// wrongDims are some that may not be.
func wrongDims() [][]int {
	return [][]int{
		d(0), d(9), d(-1), d(2, 0), d(1, 9), d(-1, -1), d(1, 1, 1, 1), d(8, 8, 2), d(5, 4, 4),
		d(1<<32, 1<<32), d(1<<32 + 1), d(least), d(greatest),
	}
}

func product(d []int) int {
	cells := 1
	for _, n := range d {
		cells *= n
	}
	return cells
}

// mayBe tells whether dims may be.
func mayBe(d []int) bool {
	if len(d) < 1 || len(d) > 3 {
		return false
	}
	for _, n := range d {
		if n < 1 || n > 8 {
			return false
		}
	}
	return product(d) <= 64
}

// filled lays numbers over dims: of both signs, no two of them the same.
func filled(d []int, salt int) api.Tensor {
	x := ten(slices.Clone(d))
	for i := range product(d) {
		x.Data = append(x.Data, (i+1)*0x1e3779b97f4a7c15+salt*0x3141592653589793)
	}
	return x
}

// values lays numbers over each of several dims.
func values(l [][]int) []api.Tensor {
	var x []api.Tensor
	for i, part := range l {
		x = append(x, filled(part, i))
	}
	return x
}

// kinds are those that there are.
func kinds() []int {
	var l []int
	for kind := api.OpIn; kind <= api.OpPick; kind++ {
		l = append(l, kind)
	}
	return l
}

// parts tells of how many a kind is made.
func parts(kind int) int {
	switch kind {
	case api.OpIn, api.OpParam, api.OpFill:
		return 0
	case api.OpAdd, api.OpSub, api.OpMul, api.OpMat, api.OpStep, api.OpPick:
		return 2
	}
	return 1
}

// named tells whether a kind names its dims.
func named(kind int) bool {
	return slices.Contains(d(api.OpIn, api.OpParam, api.OpFill, api.OpShape, api.OpWide, api.OpSum), kind)
}

// fits tells whether a kind may have the number n.
func fits(kind, n int) bool {
	switch kind {
	case api.OpFill, api.OpScale:
		return true
	case api.OpMax, api.OpPick:
		return n >= 1 && n <= 8
	}
	return n == 0
}

// formed tells whether a kind may be asked with all that.
func formed(kind, n int, d []int, l ...[]int) bool {
	for _, part := range l {
		if !mayBe(part) {
			return false
		}
	}
	return kind >= api.OpIn && kind <= api.OpPick && len(l) == parts(kind) && named(kind) == (len(d) > 0) &&
		(len(d) == 0 || mayBe(d)) && fits(kind, n)
}

// wider tells whether narrow dims can be laid out over wide ones.
func wider(narrow, wide []int) bool {
	if len(narrow) != len(wide) {
		return false
	}
	for i, n := range narrow {
		if n != 1 && n != wide[i] {
			return false
		}
	}
	return true
}

// less tells the dims that are left if of each n in the last one stays, or nil where n does not go into it.
func less(d []int, n int) []int {
	last := len(d) - 1
	for k := 1; k <= 8; k++ {
		if k*n == d[last] {
			return append(slices.Clone(d[:last]), k)
		}
	}
	return nil
}

// going tells the dims that come of a kind that is asked as it may be, or nil where they do not go together.
func going(kind, n int, d []int, l ...[]int) []int {
	ok, x := true, d
	switch kind {
	case api.OpAdd, api.OpSub, api.OpMul, api.OpStep:
		ok, x = slices.Equal(l[0], l[1]), l[0]
	case api.OpNeg, api.OpScale, api.OpRelu:
		x = l[0]
	case api.OpMat:
		ok = len(l[0]) == 2 && len(l[1]) == 2 && l[0][1] == l[1][0]
		if ok {
			x = []int{l[0][0], l[1][1]}
		}
	case api.OpTurn:
		ok = len(l[0]) == 2
		if ok {
			x = []int{l[0][1], l[0][0]}
		}
	case api.OpShape:
		ok = product(l[0]) == product(d)
	case api.OpWide:
		ok = wider(l[0], d)
	case api.OpSum:
		ok = wider(d, l[0])
	case api.OpMax:
		x = less(l[0], n)
	case api.OpPick:
		ok, x = slices.Equal(less(l[0], n), l[1]), l[0]
	}
	if !ok {
		return nil
	}
	return x
}

// wanted is what Dims has to tell.
func wanted(kind, n int, d []int, l ...[]int) ([]int, api.Errno) {
	if !formed(kind, n, d, l...) {
		return nil, api.ErrForm
	}
	x := going(kind, n, d, l...)
	if x == nil {
		return nil, api.ErrDims
	}
	return x, api.OK
}

// below is the value that the layers below tell.
func below(kind, n int, d []int, l ...api.Tensor) (api.Tensor, api.Errno) {
	two := map[int]func(a, b api.Tensor) (api.Tensor, api.Errno){
		api.OpAdd: ring.Add, api.OpSub: ring.Sub, api.OpMul: ring.Mul, api.OpMat: mat.Mul, api.OpStep: gate.Step,
	}
	single := map[int]func(a api.Tensor) (api.Tensor, api.Errno){api.OpNeg: ring.Neg, api.OpTurn: turn.Turn, api.OpRelu: gate.Relu}
	counted := map[int]func(a api.Tensor, n int) (api.Tensor, api.Errno){api.OpScale: ring.Scale, api.OpMax: gate.Max}
	sized := map[int]func(a api.Tensor, d []int) (api.Tensor, api.Errno){api.OpShape: turn.Shape, api.OpWide: turn.Wide, api.OpSum: turn.Sum}
	if f := two[kind]; f != nil {
		return f(l[0], l[1])
	}
	if f := single[kind]; f != nil {
		return f(l[0])
	}
	if f := counted[kind]; f != nil {
		return f(l[0], n)
	}
	if f := sized[kind]; f != nil {
		return f(l[0], d)
	}
	if kind == api.OpPick {
		return gate.Pick(l[0], l[1], n)
	}
	return shape.Fill(d, n)
}

// hold holds Dims and Do of one question against what they have to tell (P6.1, P6.2), and against each other (P6.3).
func hold(t *testing.T, kind, n int, d []int, l ...[]int) api.Errno {
	t.Helper()
	want, err := wanted(kind, n, d, l...)
	x, e := kernel.Dims(kind, n, d, l...)
	if e != err || !slices.Equal(x, want) || err != api.OK && x != nil {
		t.Fatalf("Dims(%d, %d, %v, %v): %v, %v, not %v, %v", kind, n, d, l, x, e, want, err)
	}
	for _, part := range l {
		if !mayBe(part) {
			return err
		}
	}
	y, f := kernel.Do(kind, n, d, values(l)...)
	if err == api.OK && (kind == api.OpIn || kind == api.OpParam) {
		err = api.ErrForm
	}
	if f != err || err != api.OK && !none(y) {
		t.Fatalf("Do(%d, %d, %v, %v): %v, %v, not %v", kind, n, d, l, y, f, err)
	}
	if err == api.OK {
		told, _ := below(kind, n, d, values(l)...)
		if !same(y, told) || !slices.Equal(y.Dims, x) {
			t.Fatalf("Do(%d, %d, %v, %v): %v, not %v; Dims %v", kind, n, d, l, y, told, x)
		}
	}
	return err
}

// question is one of a kind, with what it is made of, and what comes.
type question struct {
	kind, n int
	d       []int
	l       []api.Tensor
	want    api.Tensor
}

// questions are some of each kind that has a value, reckoned by hand.
func questions() []question {
	a, b := ten(d(2, 2), 1, -2, 3, 4), ten(d(2, 2), 5, 6, -7, 8)
	two := []api.Tensor{a, b}
	single := []api.Tensor{a}
	return []question{
		{api.OpFill, 7, d(2), nil, ten(d(2), 7, 7)},
		{api.OpFill, 0, d(1, 1, 1), nil, ten(d(1, 1, 1), 0)},
		{api.OpFill, least, d(2, 1), nil, ten(d(2, 1), least, least)},
		{api.OpFill, greatest, d(1), nil, ten(d(1), greatest)},
		{api.OpAdd, 0, nil, two, ten(d(2, 2), 6, 4, -4, 12)},
		{api.OpAdd, 0, nil, []api.Tensor{ten(d(1), greatest), ten(d(1), 1)}, ten(d(1), least)},
		{api.OpSub, 0, nil, two, ten(d(2, 2), -4, -8, 10, -4)},
		{api.OpSub, 0, nil, []api.Tensor{b, a}, ten(d(2, 2), 4, 8, -10, 4)},
		{api.OpMul, 0, nil, two, ten(d(2, 2), 5, -12, -21, 32)},
		{api.OpNeg, 0, nil, single, ten(d(2, 2), -1, 2, -3, -4)},
		{api.OpNeg, 0, nil, []api.Tensor{ten(d(1), least)}, ten(d(1), least)},
		{api.OpScale, 3, nil, single, ten(d(2, 2), 3, -6, 9, 12)},
		{api.OpScale, 0, nil, single, ten(d(2, 2), 0, 0, 0, 0)},
		{api.OpScale, -1, nil, single, ten(d(2, 2), -1, 2, -3, -4)},
		{api.OpScale, least, nil, single, ten(d(2, 2), least, 0, least, 0)},
		{api.OpMat, 0, nil, two, ten(d(2, 2), 19, -10, -13, 50)},
		{api.OpMat, 0, nil, []api.Tensor{b, a}, ten(d(2, 2), 23, 14, 17, 46)},
		{api.OpMat, 0, nil, []api.Tensor{ten(d(1, 2), 2, 3), a}, ten(d(1, 2), 11, 8)},
		{api.OpTurn, 0, nil, []api.Tensor{ten(d(2, 3), 1, 2, 3, 4, 5, 6)}, ten(d(3, 2), 1, 4, 2, 5, 3, 6)},
		{api.OpShape, 0, d(4), single, ten(d(4), 1, -2, 3, 4)},
		{api.OpShape, 0, d(1, 4, 1), single, ten(d(1, 4, 1), 1, -2, 3, 4)},
		{api.OpWide, 0, d(2, 3), []api.Tensor{ten(d(2, 1), 5, 6)}, ten(d(2, 3), 5, 5, 5, 6, 6, 6)},
		{api.OpWide, 0, d(2, 2), single, a},
		{api.OpSum, 0, d(1, 2), single, ten(d(1, 2), 4, 2)},
		{api.OpSum, 0, d(2, 1), single, ten(d(2, 1), -1, 7)},
		{api.OpSum, 0, d(1, 1), single, ten(d(1, 1), 6)},
		{api.OpRelu, 0, nil, single, ten(d(2, 2), 1, 0, 3, 4)},
		{api.OpMax, 2, nil, single, ten(d(2, 1), 1, 4)},
		{api.OpMax, 1, nil, single, a},
		{api.OpMax, 8, nil, []api.Tensor{ten(d(8), 3, 1, 4, 1, 5, 9, 2, 6)}, ten(d(1), 9)},
		{api.OpStep, 0, nil, two, ten(d(2, 2), 5, 0, -7, 8)},
		{api.OpStep, 0, nil, []api.Tensor{b, a}, ten(d(2, 2), 1, -2, 0, 4)},
		{api.OpPick, 2, nil, []api.Tensor{a, ten(d(2, 1), 9, 10)}, ten(d(2, 2), 9, 0, 0, 10)},
		{api.OpPick, 1, nil, two, b},
		{api.OpPick, 8, nil, []api.Tensor{ten(d(8), 3, 1, 4, 1, 5, 9, 2, 9), ten(d(1), 7)}, ten(d(8), 0, 0, 0, 0, 0, 7, 0, 0)},
	}
}

// dimsOf tells the dims of several tensors.
func dimsOf(l []api.Tensor) [][]int {
	var x [][]int
	for _, part := range l {
		x = append(x, part.Dims)
	}
	return x
}

// P6.1, P6.2: each kind by hand.
func TestEachKindByHand(t *testing.T) {
	seen := map[int]bool{}
	for i, c := range questions() {
		seen[c.kind] = true
		if x, e := kernel.Do(c.kind, c.n, c.d, c.l...); e != api.OK || !same(x, c.want) {
			t.Errorf("%d: Do: %v, %v, not %v", i, x, e, c.want)
		}
		if x, e := kernel.Dims(c.kind, c.n, c.d, dimsOf(c.l)...); e != api.OK || !slices.Equal(x, c.want.Dims) {
			t.Errorf("%d: Dims: %v, %v, not %v", i, x, e, c.want.Dims)
		}
	}
	if len(seen) != api.OpPick-api.OpFill+1 {
		t.Errorf("only %d kinds were tried", len(seen))
	}
}

// P6.1, P6.2: a leaf has the dims that are asked for, whatever they are, and no value.
func TestLeaves(t *testing.T) {
	for _, kind := range d(api.OpIn, api.OpParam) {
		for _, dim := range dims() {
			if x, e := kernel.Dims(kind, 0, dim); e != api.OK || !slices.Equal(x, dim) {
				t.Fatalf("Dims(%d, 0, %v): %v, %v", kind, dim, x, e)
			}
			for _, l := range [][]api.Tensor{nil, {}, {filled(dim, 1)}} {
				if x, e := kernel.Do(kind, 0, dim, l...); e != api.ErrForm || !none(x) {
					t.Fatalf("Do(%d, 0, %v, %v): %v, %v", kind, dim, l, x, e)
				}
			}
		}
	}
}

// P6.1, P6.2: all kinds, there or not, with all sorts of numbers, dims and parts: one answer for each.
func TestAllForms(t *testing.T) {
	asked := append(wrongDims(), nil, d(), d(1), d(2), d(4), d(1, 1), d(1, 2), d(2, 2), d(2, 2, 1), d(8))
	part := append(wrongDims(), d(), d(1), d(2), d(4), d(2, 1), d(2, 2), d(8))
	lists := [][][]int{nil, {}}
	for _, a := range part {
		lists = append(lists, [][]int{a})
		for _, b := range part {
			lists = append(lists, [][]int{a, b}, [][]int{a, b, d(1)}, [][]int{d(2, 2), a, b, d(2, 2)})
		}
	}
	told := map[api.Errno]int{}
	for _, kind := range append(kinds(), api.OpNone, api.OpPick+1, -1, -api.OpAdd, 1<<32+api.OpAdd, least, greatest) {
		for _, n := range d(0, 1, 2, 8, 9, -1, 1<<32, 1<<32+1, least, greatest) {
			for _, dim := range asked {
				for _, l := range lists {
					told[hold(t, kind, n, dim, l...)]++
				}
			}
		}
	}
	if told[api.OK] == 0 || told[api.ErrDims] == 0 || told[api.ErrForm] == 0 {
		t.Errorf("%v", told)
	}
}

// P6.1: kinds just outside are ErrForm, however they are asked.
func TestKindsOutside(t *testing.T) {
	for _, kind := range d(api.OpNone, api.OpPick+1, -1, 100, 1<<32+api.OpIn, least, greatest) {
		for _, c := range append(questions(), question{n: 0, d: d(2)}, question{}) {
			if x, e := kernel.Dims(kind, c.n, c.d, dimsOf(c.l)...); e != api.ErrForm || x != nil {
				t.Fatalf("Dims(%d, %d, %v, %v): %v, %v", kind, c.n, c.d, c.l, x, e)
			}
			if x, e := kernel.Do(kind, c.n, c.d, c.l...); e != api.ErrForm || !none(x) {
				t.Fatalf("Do(%d, %d, %v, %v): %v, %v", kind, c.n, c.d, c.l, x, e)
			}
		}
	}
}

// refused tells that both calls tell ErrForm and nothing else.
func refused(t *testing.T, kind, n int, d []int, l ...api.Tensor) {
	t.Helper()
	if x, e := kernel.Dims(kind, n, d, dimsOf(l)...); e != api.ErrForm || x != nil {
		t.Errorf("Dims(%d, %d, %v, %v): %v, %v", kind, n, d, l, x, e)
	}
	if x, e := kernel.Do(kind, n, d, l...); e != api.ErrForm || !none(x) {
		t.Errorf("Do(%d, %d, %v, %v): %v, %v", kind, n, d, l, x, e)
	}
}

// P6.1, P6.2: of what is right, one part too few or too many, dims there or not, and a wrong number are ErrForm.
func TestOneThingWrong(t *testing.T) {
	for _, c := range append(questions(), question{kind: api.OpIn, d: d(2)}, question{kind: api.OpParam, d: d(2)}) {
		if len(c.l) > 0 {
			refused(t, c.kind, c.n, c.d, c.l[1:]...)
			refused(t, c.kind, c.n, c.d, c.l[:len(c.l)-1]...)
			refused(t, c.kind, c.n, c.d)
		}
		refused(t, c.kind, c.n, c.d, append(slices.Clone(c.l), ten(d(2), 1, 2))...)
		refused(t, c.kind, c.n, c.d, append([]api.Tensor{ten(d(2), 1, 2)}, c.l...)...)
		if named(c.kind) {
			refused(t, c.kind, c.n, nil, c.l...)
			refused(t, c.kind, c.n, d(), c.l...)
		} else {
			refused(t, c.kind, c.n, d(1), c.l...)
			refused(t, c.kind, c.n, c.want.Dims, c.l...)
		}
		for _, dim := range wrongDims() {
			refused(t, c.kind, c.n, dim, c.l...)
		}
		for _, n := range d(-1, 0, 1, 2, 8, 9, 1<<32, 1<<32+1, least, greatest) {
			if !fits(c.kind, n) {
				refused(t, c.kind, n, c.d, c.l...)
			}
		}
	}
}

// R2: an empty list is as good as none, of dims and of parts.
func TestEmptyIsNone(t *testing.T) {
	a := ten(d(2), 1, 2)
	x, e1 := kernel.Do(api.OpNeg, 0, []int{}, a)
	y, e2 := kernel.Dims(api.OpNeg, 0, []int{}, a.Dims)
	z, e3 := kernel.Do(api.OpFill, 1, d(2), []api.Tensor{}...)
	if e1 != api.OK || e2 != api.OK || e3 != api.OK || !same(x, ten(d(2), -1, -2)) || !slices.Equal(y, d(2)) || !same(z, ten(d(2), 1, 1)) {
		t.Errorf("%v, %v; %v, %v; %v, %v", x, e1, y, e2, z, e3)
	}
}

// P6.1 to P6.3: kinds that are made of one, of all dims, with all dims that are asked for and all n.
func TestAllDimsOfOne(t *testing.T) {
	all := dims()
	for _, a := range all {
		for _, kind := range d(api.OpNeg, api.OpTurn, api.OpRelu) {
			hold(t, kind, 0, nil, a)
		}
		for _, n := range d(0, 1, -1, 7, least, greatest) {
			hold(t, api.OpScale, n, nil, a)
			hold(t, api.OpFill, n, a)
		}
		for n := 1; n <= api.MaxDim; n++ {
			hold(t, api.OpMax, n, nil, a)
		}
		for _, b := range all {
			for _, kind := range d(api.OpShape, api.OpWide, api.OpSum) {
				hold(t, kind, 0, b, a)
			}
		}
	}
}

// P6.1 to P6.3: kinds that are made of two, of all pairs of dims.
func TestAllPairsOfDims(t *testing.T) {
	told := map[api.Errno]int{}
	all := dims()
	for _, a := range all {
		for _, b := range all {
			for _, kind := range d(api.OpAdd, api.OpSub, api.OpMul, api.OpMat, api.OpStep) {
				told[hold(t, kind, 0, nil, a, b)]++
			}
			// An n that does not lead from a to b is ErrDims, whichever it is: one of these is enough.
			told[hold(t, api.OpPick, 1+(len(a)+b[0])%8, nil, a, b)]++
		}
		for n := 1; n <= api.MaxDim; n++ {
			if left := less(a, n); left != nil {
				told[hold(t, api.OpPick, n, nil, a, left)]++
			}
		}
	}
	if told[api.OK] < 1000 || told[api.ErrDims] < 1000 || told[api.ErrForm] != 0 {
		t.Errorf("%v", told)
	}
}

// wrong tells tensors that may not be.
func wrong() []api.Tensor {
	l := []api.Tensor{
		{}, ten(d(1)), ten(nil, 1), ten(d(), 1), ten(d(2), 1), ten(d(2), 1, 2, 3), ten(d(2, 2), 1, 2, 3),
		ten(d(2, 2), 1, 2, 3, 4, 5), ten(d(2, 1), 1), ten(d(8, 8), make([]int, 63)...), ten(d(8, 8), make([]int, 65)...),
	}
	for _, dim := range wrongDims() {
		l = append(l, ten(dim), ten(dim, 1))
	}
	return append(l, ten(d(9), make([]int, 9)...), ten(d(8, 8, 2), make([]int, 128)...))
}

// P6.2: a value that may not be is ErrForm, ahead of ErrDims, wherever it stands.
func TestWrongValues(t *testing.T) {
	numbers := map[int][]int{api.OpScale: {0, 3}, api.OpMax: {1, 2, 3, 8}, api.OpPick: {1, 2, 3, 8}}
	asked := []api.Tensor{ten(d(1), 1), ten(d(2), 1, 2), ten(d(2, 2), 1, 2, 3, 4), filled(d(2, 3, 4), 1), filled(d(8, 8), 1)}
	for _, bad := range wrong() {
		for _, kind := range kinds() {
			for _, n := range append(slices.Clone(numbers[kind]), 0) {
				for _, other := range append(wrong(), asked...) {
					lists := [][]api.Tensor{{bad}}
					if parts(kind) == 2 {
						lists = [][]api.Tensor{{bad, other}, {other, bad}}
					}
					for _, l := range lists {
						var dim []int
						if named(kind) {
							dim = other.Dims
						}
						if x, e := kernel.Do(kind, n, dim, l...); e != api.ErrForm || !none(x) {
							t.Fatalf("Do(%d, %d, %v, %v): %v, %v", kind, n, dim, l, x, e)
						}
					}
				}
			}
		}
	}
}

// P6.1: dims that may not be are ErrForm, ahead of ErrDims, wherever they stand.
func TestWrongDims(t *testing.T) {
	for _, bad := range append(wrongDims(), nil, d()) {
		for _, good := range [][]int{{1}, {2}, {2, 2}, {2, 3, 4}, {8, 8}} {
			for _, c := range []struct {
				kind, n int
				d       []int
				l       [][]int
			}{
				{api.OpIn, 0, bad, nil}, {api.OpParam, 0, bad, nil}, {api.OpFill, 5, bad, nil},
				{api.OpShape, 0, bad, [][]int{good}}, {api.OpShape, 0, good, [][]int{bad}}, {api.OpWide, 0, bad, [][]int{good}},
				{api.OpWide, 0, good, [][]int{bad}}, {api.OpSum, 0, bad, [][]int{good}}, {api.OpSum, 0, good, [][]int{bad}},
				{api.OpAdd, 0, nil, [][]int{bad, good}}, {api.OpSub, 0, nil, [][]int{good, bad}}, {api.OpMul, 0, nil, [][]int{bad, bad}},
				{api.OpMat, 0, nil, [][]int{good, bad}}, {api.OpMat, 0, nil, [][]int{bad, good}}, {api.OpStep, 0, nil, [][]int{good, bad}},
				{api.OpPick, 3, nil, [][]int{good, bad}}, {api.OpPick, 3, nil, [][]int{bad, good}}, {api.OpMax, 3, nil, [][]int{bad}},
				{api.OpNeg, 0, nil, [][]int{bad}}, {api.OpScale, 2, nil, [][]int{bad}}, {api.OpTurn, 0, nil, [][]int{bad}}, {api.OpRelu, 0, nil, [][]int{bad}},
			} {
				if x, e := kernel.Dims(c.kind, c.n, c.d, c.l...); e != api.ErrForm || x != nil {
					t.Errorf("Dims(%d, %d, %v, %v): %v, %v", c.kind, c.n, c.d, c.l, x, e)
				}
			}
		}
	}
}

// P6.1, P6.2: ErrForm is told ahead of ErrDims: what does not go together, and another thing is wrong, too.
func TestFormAheadOfDims(t *testing.T) {
	a, b := filled(d(2, 3), 1), filled(d(3), 2)
	for _, kind := range d(api.OpAdd, api.OpSub, api.OpMul, api.OpMat, api.OpStep) {
		refused(t, kind, 1, nil, a, b)
		refused(t, kind, 0, d(2), a, b)
		refused(t, kind, 0, nil, a, b, a)
	}
	for _, n := range d(0, 9, -1) {
		refused(t, api.OpPick, n, nil, a, b)
		refused(t, api.OpMax, n, nil, a)
	}
	refused(t, api.OpPick, 2, d(2), a, b)
	refused(t, api.OpMax, 2, d(2, 3), a)
	refused(t, api.OpTurn, 1, nil, b)
	refused(t, api.OpTurn, 0, d(3), b)
	for _, kind := range d(api.OpShape, api.OpWide, api.OpSum) {
		refused(t, kind, 1, d(2, 2), a)
		refused(t, kind, 0, d(9, 9), a)
		refused(t, kind, 0, d(2, 2), a, b)
	}
}

// P6.3: the dims do not hang on the numbers.
func TestDimsHangOnDimsAlone(t *testing.T) {
	for i, c := range questions() {
		for _, n := range d(0, 1, -1, least, greatest) {
			l := values(dimsOf(c.l))
			for _, part := range l {
				for k := range part.Data {
					part.Data[k] = n
				}
			}
			x, e1 := kernel.Do(c.kind, c.n, c.d, l...)
			y, e2 := kernel.Dims(c.kind, c.n, c.d, dimsOf(l)...)
			if e1 != api.OK || e2 != api.OK || !slices.Equal(x.Dims, y) || shape.Tensor(x) != api.OK {
				t.Errorf("%d, numbers %d: %v, %v; %v, %v", i, n, x, e1, y, e2)
			}
		}
	}
}

// spoil writes over a list, its spare room too.
func spoil(l []int) {
	for i := range l[:cap(l)] {
		l[:cap(l)][i] = 99
	}
}

// R2: whoever writes into an answer, its spare room too, changes neither what was handed in nor another answer.
func TestAnswersAreCopies(t *testing.T) {
	leaves := []question{{api.OpIn, 0, d(2, 3), nil, api.Tensor{}}, {api.OpParam, 0, d(2, 3), nil, api.Tensor{}}}
	for i, c := range append(questions(), leaves...) {
		room := append(slices.Clone(c.d), 50, 51)
		asked := room[:len(c.d)]
		var given, before []api.Tensor
		for _, part := range c.l {
			part = ten(append(slices.Clone(part.Dims), 60)[:len(part.Dims)], append(slices.Clone(part.Data), 61)[:len(part.Data)]...)
			given, before = append(given, part), append(before, copied(part))
		}
		list := dimsOf(given)
		for range 3 {
			x, _ := kernel.Do(c.kind, c.n, asked, given...)
			y, e := kernel.Dims(c.kind, c.n, asked, list...)
			z, _ := kernel.Dims(c.kind, c.n, asked, list...)
			if !same(x, c.want) || e != api.OK || !slices.Equal(y, z) || c.want.Dims != nil && !slices.Equal(y, c.want.Dims) {
				t.Fatalf("%d: %v, %v, %v", i, x, y, e)
			}
			kept := slices.Clone(z)
			spoil(x.Data)
			if !slices.Equal(x.Dims, c.want.Dims) {
				t.Fatalf("%d: dims and data of one answer share memory", i)
			}
			spoil(x.Dims)
			spoil(y)
			if !slices.Equal(z, kept) {
				t.Fatalf("%d: two answers share memory", i)
			}
		}
		if !slices.Equal(room[len(c.d):], d(50, 51)) || !slices.Equal(asked, c.d) || !slices.EqualFunc(given, before, same) ||
			!slices.EqualFunc(list, dimsOf(before), slices.Equal[[]int]) {
			t.Fatalf("%d: what was handed in is changed: %v, %v", i, room, given)
		}
	}
}

// R2: an answer keeps nothing of what it was made of.
func TestAnswersStandAlone(t *testing.T) {
	fresh := func() []question {
		return append(questions(), question{kind: api.OpIn, d: d(2, 3)}, question{kind: api.OpParam, d: d(2, 3)})
	}
	for i := range fresh() {
		// Questions have parts in common, so what is spoiled of one is not to be asked for another.
		c := fresh()[i]
		x, _ := kernel.Do(c.kind, c.n, c.d, c.l...)
		y, e := kernel.Dims(c.kind, c.n, c.d, dimsOf(c.l)...)
		value, dim := copied(x), slices.Clone(y)
		spoil(c.d)
		for _, part := range c.l {
			spoil(part.Dims)
			spoil(part.Data)
		}
		if e != api.OK || !same(x, value) || !slices.Equal(y, dim) {
			t.Errorf("%d: %v, not %v; %v, not %v, %v", i, x, value, y, dim, e)
		}
	}
}

// R2: no call changes what it is given, also where it errs.
func TestArgumentsStayAsTheyAre(t *testing.T) {
	list := func() []api.Tensor {
		return []api.Tensor{ten(d(2, 2), -1, 2, 3, 3), ten(d(2, 2), 5, 6, 7, 8), ten(d(2, 1), 9, 10), ten(d(3), 1, 2), ten(d(9), 1), {}}
	}
	given := list()
	for _, kind := range append(kinds(), 0, 18) {
		for n := -1; n <= 9; n++ {
			for i := range given {
				for k := i; k <= min(i+3, len(given)); k++ {
					for _, dim := range [][]int{nil, {2, 2}, {4}, {9}} {
						before := slices.Clone(dim)
						l := given[i:k]
						kernel.Do(kind, n, dim, l...)
						kernel.Dims(kind, n, dim, dimsOf(l)...)
						if !slices.Equal(dim, before) || !slices.EqualFunc(given, list(), same) {
							t.Fatalf("%d, %d, %v: %v", kind, n, dim, given)
						}
					}
				}
			}
		}
	}
}
