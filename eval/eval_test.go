package eval_test

import (
	"fmt"
	"math"
	"slices"
	"testing"

	"gradus/api"
	"gradus/eval"
	"gradus/graph"
	"gradus/kernel"
	"gradus/shape"
)

const (
	least    = math.MinInt
	greatest = math.MaxInt
)

// d makes dims, or numbers of nodes.
func d(l ...int) []int { return l }

// ten makes a tensor: dims, and numbers.
func ten(d []int, l ...int) api.Tensor { return api.Tensor{Dims: d, Data: l} }

// node makes a node: name, kind, number, dims, and what it is made of.
func node(name string, kind, number int, dims []int, args ...int) api.Node {
	return api.Node{Name: name, Kind: kind, N: number, Dims: dims, Args: args}
}

// many is several values.
func many(x ...api.Tensor) []api.Tensor { return x }

func same(a, b api.Tensor) bool {
	return slices.Equal(a.Dims, b.Dims) && slices.Equal(a.Data, b.Data)
}

func product(d []int) int {
	cells := 1
	for _, n := range d {
		cells *= n
	}
	return cells
}

// every is a graph with a node of each kind that a graph may have, inputs and parameters not side by side,
// one of each sort of the same dims.
func every() []api.Node {
	return []api.Node{
		node("w", api.OpParam, 0, d(2, 3)),
		node("x", api.OpIn, 0, d(2, 2)),
		node("b", api.OpParam, 0, d(1, 3)),
		node("ω", api.OpIn, 0, d(2, 3)),
		node("f", api.OpFill, -7, d(2, 3)),
		node("m", api.OpMat, 0, d(2, 3), 1, 0),
		node("c", api.OpWide, 0, d(2, 3), 2),
		node("s", api.OpAdd, 0, d(2, 3), 5, 6),
		node("u", api.OpSub, 0, d(2, 3), 7, 3),
		node("p", api.OpMul, 0, d(2, 3), 8, 7),
		node("r", api.OpRelu, 0, d(2, 3), 9),
		node("n", api.OpNeg, 0, d(2, 3), 10),
		node("t", api.OpTurn, 0, d(3, 2), 11),
		node("k", api.OpMax, 2, d(3, 1), 12),
		node("h", api.OpShape, 0, d(1, 3), 13),
		node("q", api.OpSum, 0, d(1, 1), 14),
		node("l", api.OpScale, -2, d(1, 1), 15),
	}
}

// joint is nodes that may be of all kinds, the last two of which no graph has.
func joint() []api.Node {
	return append(every(),
		node("", api.OpStep, 0, d(2, 3), 9, 7),
		node("w", api.OpPick, 2, d(3, 2), 12, 13))
}

// given are values for every and for joint: the inputs' ahead of the parameters'.
func given() []api.Tensor {
	return many(
		ten(d(2, 2), 1, 2, 3, -4),
		ten(d(2, 3), 5, 1, 0, 0, -9, -3),
		ten(d(2, 3), 1, 0, -1, 2, 1, 1),
		ten(d(1, 3), 10, -3, 0))
}

// reckonedByHand are the values of joint's nodes, of those of given.
func reckonedByHand() []api.Tensor {
	return many(
		ten(d(2, 3), 1, 0, -1, 2, 1, 1),
		ten(d(2, 2), 1, 2, 3, -4),
		ten(d(1, 3), 10, -3, 0),
		ten(d(2, 3), 5, 1, 0, 0, -9, -3),
		ten(d(2, 3), -7, -7, -7, -7, -7, -7),
		ten(d(2, 3), 5, 2, 1, -5, -4, -7),
		ten(d(2, 3), 10, -3, 0, 10, -3, 0),
		ten(d(2, 3), 15, -1, 1, 5, -7, -7),
		ten(d(2, 3), 10, -2, 1, 5, 2, -4),
		ten(d(2, 3), 150, 2, 1, 25, -14, 28),
		ten(d(2, 3), 150, 2, 1, 25, 0, 28),
		ten(d(2, 3), -150, -2, -1, -25, 0, -28),
		ten(d(3, 2), -150, -25, -2, 0, -1, -28),
		ten(d(3, 1), -25, 0, -1),
		ten(d(1, 3), -25, 0, -1),
		ten(d(1, 1), -26),
		ten(d(1, 1), 52),
		ten(d(2, 3), 15, -1, 1, 5, 0, -7),
		ten(d(3, 2), 0, -25, 0, 0, -1, 0))
}

// chain is as many nodes as asked for, of one cell each: a parameter, then twice the one ahead.
func chain(count int) []api.Node {
	l := []api.Node{node("n0", api.OpParam, 0, d(1))}
	for i := 1; i < count; i++ {
		l = append(l, node(fmt.Sprint("n", i), api.OpAdd, 0, d(1), i-1, i-1))
	}
	return l
}

// folded tells where place n of dims d lies in narrow ones: in those that are 1 there is just one place.
func folded(d, narrow []int, n int) int {
	at, step := 0, 1
	for i := len(d) - 1; i >= 0; i-- {
		if narrow[i] != 1 {
			at += n % d[i] * step
		}
		n, step = n/d[i], step*narrow[i]
	}
	return at
}

// number is the one at place i of a node's value, by the document's words about its kind.
func number(x api.Node, i int, l []api.Tensor) int {
	row, column := i/x.Dims[len(x.Dims)-1], i%x.Dims[len(x.Dims)-1]
	switch x.Kind {
	case api.OpFill:
		return x.N
	case api.OpAdd:
		return l[0].Data[i] + l[1].Data[i]
	case api.OpSub:
		return l[0].Data[i] - l[1].Data[i]
	case api.OpMul:
		return l[0].Data[i] * l[1].Data[i]
	case api.OpNeg:
		return -l[0].Data[i]
	case api.OpScale:
		return l[0].Data[i] * x.N
	case api.OpShape:
		return l[0].Data[i]
	case api.OpTurn:
		return l[0].Data[column*x.Dims[0]+row]
	case api.OpWide:
		return l[0].Data[folded(x.Dims, l[0].Dims, i)]
	case api.OpRelu:
		return max(0, l[0].Data[i])
	case api.OpMax:
		return slices.Max(l[0].Data[i*x.N : (i+1)*x.N])
	}
	sum := 0
	switch x.Kind {
	case api.OpMat:
		for k := range l[0].Dims[1] {
			sum += l[0].Data[row*l[0].Dims[1]+k] * l[1].Data[k*x.Dims[1]+column]
		}
	case api.OpSum:
		for k, n := range l[0].Data {
			if folded(l[0].Dims, x.Dims, k) == i {
				sum += n
			}
		}
	case api.OpStep:
		if l[0].Data[i] > 0 {
			sum = l[1].Data[i]
		}
	case api.OpPick:
		first := i / x.N * x.N
		if few := l[0].Data[first : first+x.N]; slices.Index(few, slices.Max(few)) == i-first {
			sum = l[1].Data[i/x.N]
		}
	}
	return sum
}

// wantedLeaves are the numbers of the nodes for which there are values, as the document orders these.
func wantedLeaves(l []api.Node) []int {
	var ins, params []int
	for i, x := range l {
		switch x.Kind {
		case api.OpIn:
			ins = append(ins, i)
		case api.OpParam:
			params = append(params, i)
		}
	}
	return append(ins, params...)
}

// wantedAll is each node's value, of values that fit.
func wantedAll(l []api.Node, x []api.Tensor) []api.Tensor {
	v := make([]api.Tensor, len(l))
	for k, i := range wantedLeaves(l) {
		v[i] = x[k]
	}
	for i, y := range l {
		if v[i].Dims != nil {
			continue
		}
		var parts []api.Tensor
		for _, arg := range y.Args {
			parts = append(parts, v[arg])
		}
		v[i].Dims = y.Dims
		for k := range product(y.Dims) {
			v[i].Data = append(v[i].Data, number(y, k, parts))
		}
	}
	return v
}

// wantedCheck is the document's sentence about what Check has to tell.
func wantedCheck(l []api.Node, x []api.Tensor) api.Errno {
	form := graph.Nodes(l) != api.OK
	for _, t := range x {
		form = form || shape.Tensor(t) != api.OK
	}
	if form {
		return api.ErrForm
	}
	fits := func(i int, t api.Tensor) bool { return slices.Equal(l[i].Dims, t.Dims) }
	if !slices.EqualFunc(wantedLeaves(l), x, fits) {
		return api.ErrDims
	}
	return api.OK
}

// copied tells nodes and values that share nothing with l and x.
func copied(l []api.Node, x []api.Tensor) ([]api.Node, []api.Tensor) {
	l, x = slices.Clone(l), slices.Clone(x)
	for i, y := range l {
		l[i].Args, l[i].Dims = slices.Clone(y.Args), slices.Clone(y.Dims)
	}
	for i, t := range x {
		x[i] = ten(slices.Clone(t.Dims), slices.Clone(t.Data)...)
	}
	return l, x
}

// alike tells whether two lists of nodes are the same.
func alike(a, b []api.Node) bool {
	return slices.EqualFunc(a, b, func(x, y api.Node) bool {
		return x.Name == y.Name && x.Kind == y.Kind && x.N == y.N && slices.Equal(x.Dims, y.Dims) && slices.Equal(x.Args, y.Args)
	})
}

// hold holds all calls of one question against what they have to tell: what Check does, and whether it is a graph.
func hold(t *testing.T, what any, l []api.Node, x []api.Tensor, want api.Errno, whole bool) {
	t.Helper()
	nodes, values := copied(l, x)
	if e := eval.Check(l, x); e != want {
		t.Fatalf("%v: Check: %v, not %v", what, e, want)
	}
	all := []api.Tensor(nil)
	if want == api.OK {
		all = wantedAll(l, x)
	}
	v, e := eval.All(l, x)
	if e != want || !slices.EqualFunc(v, all, same) || e != api.OK && v != nil {
		t.Fatalf("%v: All: %v, %v, not %v, %v", what, v, e, all, want)
	}
	for i := range v {
		if !slices.Equal(v[i].Dims, l[i].Dims) || len(v[i].Data) != product(l[i].Dims) {
			t.Fatalf("%v: All: node %d: %v, of dims %v", what, i, v[i], l[i].Dims)
		}
	}
	loss := 0
	if !whole {
		want = api.ErrForm
	} else if want == api.OK {
		loss = all[len(all)-1].Data[0]
	}
	if n, e := eval.Loss(l, x); n != loss || e != want {
		t.Fatalf("%v: Loss: %d, %v, not %d, %v", what, n, e, loss, want)
	}
	if !alike(l, nodes) || !slices.EqualFunc(x, values, same) {
		t.Fatalf("%v: what was handed in was changed", what)
	}
}

// P10.1: values of nodes of each kind, reckoned by hand; the loss of the graph among them.
func TestByHand(t *testing.T) {
	v, e := eval.All(joint(), given())
	if e != api.OK || !slices.EqualFunc(v, reckonedByHand(), same) {
		t.Errorf("joint: %v, %v", v, e)
	}
	v, e = eval.All(every(), given())
	if e != api.OK || !slices.EqualFunc(v, reckonedByHand()[:17], same) {
		t.Errorf("every: %v, %v", v, e)
	}
	if n, e := eval.Loss(every(), given()); n != 52 || e != api.OK {
		t.Errorf("every: %d, %v", n, e)
	}
	// the document's example
	if n, e := eval.Loss([]api.Node{node("a", api.OpFill, 5, d(1))}, nil); n != 5 || e != api.OK {
		t.Errorf("fill: %d, %v", n, e)
	}
}

// P10.1: nodes that may be, up to any of them, from all leaves on: just two of these are a graph.
func TestUpToEach(t *testing.T) {
	for count := 4; count <= len(joint()); count++ {
		hold(t, count, joint()[:count], given(), api.OK, count == 16 || count == 17)
	}
}

// P10.1: of each kind two nodes, right behind leaves: so of each argument it is seen which one is which.
func TestEachKindAlone(t *testing.T) {
	a, b := ten(d(2, 2), 3, -1, -1, 4), ten(d(2, 2), -5, 7, 2, 6)
	c := ten(d(2, 1), 8, 9)
	for _, x := range []api.Node{
		node("y", api.OpIn, 0, d(2, 2)), node("y", api.OpParam, 0, d(2, 2)), node("y", api.OpFill, least, d(2, 2)),
		node("y", api.OpAdd, 0, d(2, 2), 0, 1), node("y", api.OpSub, 0, d(2, 2), 0, 1), node("y", api.OpSub, 0, d(2, 2), 1, 0),
		node("y", api.OpMul, 0, d(2, 2), 1, 1), node("y", api.OpNeg, 0, d(2, 2), 1), node("y", api.OpScale, greatest, d(2, 2), 0),
		node("y", api.OpMat, 0, d(2, 2), 0, 1), node("y", api.OpMat, 0, d(2, 2), 1, 0), node("y", api.OpMat, 0, d(2, 1), 1, 2),
		node("y", api.OpTurn, 0, d(2, 2), 1), node("y", api.OpTurn, 0, d(1, 2), 2), node("y", api.OpShape, 0, d(4), 1),
		node("y", api.OpShape, 0, d(2, 2), 1), node("y", api.OpWide, 0, d(2, 5), 2), node("y", api.OpWide, 0, d(2, 1), 2),
		node("y", api.OpSum, 0, d(2, 1), 0), node("y", api.OpSum, 0, d(1, 2), 0), node("y", api.OpSum, 0, d(2, 2), 0),
		node("y", api.OpRelu, 0, d(2, 2), 0), node("y", api.OpMax, 1, d(2, 2), 0), node("y", api.OpMax, 2, d(2, 1), 1),
		node("y", api.OpStep, 0, d(2, 2), 0, 1), node("y", api.OpStep, 0, d(2, 2), 1, 0),
		node("y", api.OpPick, 1, d(2, 2), 0, 1), node("y", api.OpPick, 2, d(2, 2), 1, 2),
	} {
		l := []api.Node{node("a", api.OpIn, 0, d(2, 2)), node("b", api.OpIn, 0, d(2, 2)), node("c", api.OpIn, 0, d(2, 1)), x}
		l = append(l, node("s", api.OpSum, 0, slices.Repeat(d(1), len(x.Dims)), 3))
		values := many(a, b, c)
		if x.Kind == api.OpIn || x.Kind == api.OpParam {
			values = append(values, b)
		}
		// a graph's fills and scales have no numbers that are so far out, and it has no kind above OpMax
		whole := x.Kind <= api.OpMax && x.N >= -1<<30 && x.N <= 1<<30
		hold(t, x, l, values, api.OK, whole)
		hold(t, x, l[:4], values, api.OK, false)
	}
}

// P10.1: no nodes: they may be, and no value fits more; they are no graph.
func TestNoNodes(t *testing.T) {
	for _, l := range [][]api.Node{nil, {}, every()[:0]} {
		hold(t, "none", l, nil, api.OK, false)
		hold(t, "none", l, many(), api.OK, false)
		hold(t, "a value", l, many(ten(d(1), 1)), api.ErrDims, false)
		hold(t, "a value", l, many(api.Tensor{}), api.ErrForm, false)
	}
}

// P10.1: no leaves: a nil list of values and an empty one are one, and any value is one too many.
func TestNoLeaves(t *testing.T) {
	l := []api.Node{
		node("a", api.OpFill, 3, d(2, 2)), node("b", api.OpMat, 0, d(2, 2), 0, 0),
		node("c", api.OpMax, 2, d(2, 1), 1), node("e", api.OpSum, 0, d(1, 1), 2),
	}
	for _, none := range [][]api.Tensor{nil, {}, given()[:0]} {
		hold(t, "none", l, none, api.OK, true)
		if n, e := eval.Loss(l, none); n != 36 || e != api.OK {
			t.Errorf("%d, %v", n, e)
		}
		hold(t, "leaves", every(), none, api.ErrDims, true)
	}
	for _, dims := range [][]int{d(2, 2), d(1), d(1, 1), d(8, 8)} {
		one, _ := shape.Fill(dims, 1)
		hold(t, dims, l, many(one), api.ErrDims, true)
	}
	hold(t, "no tensor", l, many(api.Tensor{}), api.ErrForm, true)
}

// P10.1: one node, of each kind that is made of none, of all dims; and it twice.
func TestOneNode(t *testing.T) {
	for _, dims := range allDims() {
		one := slices.Max(dims) == 1
		x := ten(dims)
		for i := range product(dims) {
			x.Data = append(x.Data, i-3)
		}
		for _, kind := range d(api.OpIn, api.OpParam) {
			l := []api.Node{node("a", kind, 0, dims)}
			hold(t, dims, l, many(x), api.OK, one)
			hold(t, dims, l, nil, api.ErrDims, one)
			hold(t, dims, append(l, l[0]), many(x, x), api.OK, false)
			hold(t, dims, append(l, l[0]), many(x), api.ErrDims, false)
		}
		hold(t, dims, []api.Node{node("a", api.OpFill, -9, dims)}, nil, api.OK, one)
	}
}

// allDims tells all dims that may be.
func allDims() [][]int {
	var l [][]int
	for a := 1; a <= 8; a++ {
		l = append(l, d(a))
		for b := 1; b <= 8; b++ {
			l = append(l, d(a, b))
			for c := 1; c <= 8 && a*b*c <= 64; c++ {
				l = append(l, d(a, b, c))
			}
		}
	}
	return l
}

// P10.1: all patterns of five leaves, or fills: inputs first, whatever stands ahead of them, then parameters.
func TestOrderOfLeaves(t *testing.T) {
	for code := range 3 * 3 * 3 * 3 * 3 {
		var l []api.Node
		for i := range 5 {
			l = append(l, node(fmt.Sprint("n", i), d(api.OpIn, api.OpParam, api.OpFill)[code%3], 0, d(2)))
			code /= 3
		}
		l = append(l, node("l", api.OpSum, 0, d(1), 4))
		var x []api.Tensor
		want := make([]int, 5)
		for k, i := range wantedLeaves(l) {
			want[i] = 10 + k
			x = append(x, ten(d(2), 10+k, -k))
		}
		v, e := eval.All(l, x)
		if e != api.OK {
			t.Fatalf("%v: %v", l, e)
		}
		for i, n := range want {
			if v[i].Data[0] != n {
				t.Fatalf("%v: node %d: %v, not %d", l, i, v[i], n)
			}
		}
		hold(t, code, l, x, api.OK, true)
	}
	// a parameter ahead of an input, of unlike dims: the other way round they don't fit
	l := []api.Node{node("p", api.OpParam, 0, d(1)), node("x", api.OpIn, 0, d(2)), node("y", api.OpSum, 0, d(1), 1), node("s", api.OpSub, 0, d(1), 0, 2)}
	p, x := ten(d(1), 50), ten(d(2), 3, 4)
	hold(t, "in order", l, many(x, p), api.OK, true)
	hold(t, "as they stand", l, many(p, x), api.ErrDims, true)
}

// P10.1: as many nodes as may be, and one more; as many as a graph has, and one more; of leaves alone, too.
func TestCounts(t *testing.T) {
	for _, count := range d(1, 2, 23, 24, 25, 64, 65, 66, 239, 240, 241, 500) {
		want := api.OK
		if count > 240 {
			want = api.ErrForm
		}
		hold(t, count, chain(count), many(ten(d(1), 5)), want, count <= 24)
		var l []api.Node
		var x []api.Tensor
		for i := range count {
			l = append(l, node(fmt.Sprint("n", i), d(api.OpParam, api.OpIn)[i%2], 0, d(1)))
			x = append(x, ten(d(1), i))
		}
		hold(t, count, l, x, want, count <= 24)
		if want == api.OK {
			hold(t, count, l, x[1:], api.ErrDims, count <= 24)
			hold(t, count, l, append(x, x[0]), api.ErrDims, count <= 24)
		}
	}
	v, e := eval.All(chain(240), many(ten(d(1), 5)))
	if e != api.OK || v[62].Data[0] != 1<<62 || v[63].Data[0] != least || v[64].Data[0] != 0 || v[239].Data[0] != 0 {
		t.Errorf("%v, %v", v, e)
	}
}

// P10.1: numbers wrap around, of values and of N.
func TestWrapAround(t *testing.T) {
	l := []api.Node{
		node("a", api.OpIn, 0, d(1, 2)), node("b", api.OpParam, 0, d(2, 1)),
		node("c", api.OpMat, 0, d(1, 1), 0, 1), node("e", api.OpTurn, 0, d(1, 2), 1), node("f", api.OpAdd, 0, d(1, 2), 0, 3),
		node("g", api.OpMul, 0, d(1, 2), 0, 3), node("h", api.OpNeg, 0, d(1, 2), 0), node("i", api.OpScale, 1<<30, d(1, 2), 0),
		node("j", api.OpSub, 0, d(1, 2), 0, 3), node("k", api.OpSum, 0, d(1, 1), 0), node("m", api.OpRelu, 0, d(1, 2), 4),
		node("n", api.OpMul, 0, d(1, 1), 2, 9),
	}
	x := many(ten(d(1, 2), greatest, least), ten(d(2, 1), 1, least))
	want := many(x[0], x[1], ten(d(1, 1), greatest), ten(d(1, 2), 1, least), ten(d(1, 2), least, 0),
		ten(d(1, 2), greatest, 0), ten(d(1, 2), -greatest, least), ten(d(1, 2), -1<<30, 0),
		ten(d(1, 2), greatest-1, 0), ten(d(1, 1), -1), ten(d(1, 2), 0, 0), ten(d(1, 1), -greatest))
	v, e := eval.All(l, x)
	if e != api.OK || !slices.EqualFunc(v, want, same) {
		t.Errorf("%v, %v, not %v", v, e, want)
	}
	hold(t, "wrap", l, x, api.OK, true)
	// beyond MaxNum nodes may be, and a graph has no such
	for _, n := range d(least, -1<<30-1, -1<<30, 1<<30, 1<<30+1, greatest) {
		l[7].N = n
		hold(t, n, l, x, api.OK, n >= -1<<30 && n <= 1<<30)
	}
}

// P10.1: nodes that may not be, whatever the values are.
func TestNodesThatMayNotBe(t *testing.T) {
	turns := map[string]func(l []api.Node){
		"kind 0":          func(l []api.Node) { l[5].Kind = api.OpNone },
		"kind below":      func(l []api.Node) { l[1].Kind = -1 },
		"kind above":      func(l []api.Node) { l[18].Kind = api.OpPick + 1 },
		"kind cut":        func(l []api.Node) { l[1].Kind += 1 << 32 },
		"number":          func(l []api.Node) { l[5].N = 1 },
		"leaf's number":   func(l []api.Node) { l[0].N = 1 },
		"made of itself":  func(l []api.Node) { l[11].Args[0] = 11 },
		"made of later":   func(l []api.Node) { l[7].Args[1] = 8 },
		"made of no one":  func(l []api.Node) { l[7].Args[1] = -1 },
		"made of too far": func(l []api.Node) { l[7].Args[1] = greatest },
		"one too many":    func(l []api.Node) { l[7].Args = d(5, 6, 6) },
		"one too few":     func(l []api.Node) { l[7].Args = d(5) },
		"leaf of one":     func(l []api.Node) { l[1].Args = d(0) },
		"other dims":      func(l []api.Node) { l[7].Dims = d(3, 2) },
		"no dims":         func(l []api.Node) { l[7].Dims = nil },
		"leaf's dims":     func(l []api.Node) { l[2].Dims = d(0) },
		"leaf of none":    func(l []api.Node) { l[2].Dims = nil },
		"great dims":      func(l []api.Node) { l[4].Dims = d(8, 8, 8) },
		"not together":    func(l []api.Node) { l[5].Args = d(0, 1) },
		"pick of 0":       func(l []api.Node) { l[18].N = 0 },
		"max of 9":        func(l []api.Node) { l[13].N = 9 },
	}
	values := map[string][]api.Tensor{
		"that fit": given(), "none": nil, "too many": append(given(), given()...), "other dims": given()[1:],
		"no tensor": append(given(), api.Tensor{}), "no tensors": make([]api.Tensor, 1<<16),
	}
	for name, turn := range turns {
		l := joint()
		turn(l)
		for what, x := range values {
			hold(t, name+", "+what, l, x, api.ErrForm, false)
		}
	}
}

// P10.1: too few values, too many, in another order: ErrDims.
func TestOtherCounts(t *testing.T) {
	for i := range given() {
		hold(t, fmt.Sprint("without ", i), every(), slices.Delete(given(), i, i+1), api.ErrDims, true)
		hold(t, fmt.Sprint("up to ", i), every(), given()[:i], api.ErrDims, true)
		for k := range given() {
			hold(t, fmt.Sprint(i, " more at ", k), every(), slices.Insert(given(), k, given()[i]), api.ErrDims, true)
			x := given()
			x[i], x[k] = x[k], x[i]
			// the second and the third one have the same dims, so they fit the other way round, too
			want := api.ErrDims
			if i == k || i+k == 3 && i*k == 2 {
				want = api.OK
			}
			hold(t, fmt.Sprint(i, " and ", k), every(), x, want, true)
		}
		hold(t, fmt.Sprint(i, " behind"), every(), append(given(), given()[i]), api.ErrDims, true)
	}
	x := slices.Repeat(given(), 1<<12)
	hold(t, "many more", every(), x, api.ErrDims, true)
	hold(t, "many more", joint(), x, api.ErrDims, false)
}

// P10.1: each value of all dims: just its node's fit; as many numbers under other dims don't.
func TestOtherDims(t *testing.T) {
	for i, old := range given() {
		for _, dims := range allDims() {
			x := given()
			x[i], _ = shape.Fill(dims, 4)
			want := api.ErrDims
			if slices.Equal(dims, old.Dims) {
				want = api.OK
			}
			if e := eval.Check(every(), x); e != want {
				t.Fatalf("%d: %v: %v, not %v", i, dims, e, want)
			}
			if product(dims) == len(old.Data) {
				hold(t, fmt.Sprint(i, dims), every(), x, want, true)
			}
		}
	}
}

// spoiled are tensors that may not be: of dims that may not be, of fewer numbers or more than their dims ask.
func spoiled() []api.Tensor {
	x := many(api.Tensor{}, ten(d()), ten(nil, 1), ten(d(1)), ten(d(1), 1, 2), ten(d(2), 1), ten(d(2), 1, 2, 3),
		ten(d(2, 3), 1, 2, 3, 4, 5), ten(d(2, 3), 1, 2, 3, 4, 5, 6, 7), ten(d(2, 3)), ten(d(2, 2), 1, 2, 3), ten(d(1, 3), 1, 2))
	for _, dims := range [][]int{d(0), d(9), d(-1), d(2, 0), d(-2, -3), d(1, 1, 1, 1), d(8, 8, 2), d(1<<32, 1<<32), d(least), d(greatest)} {
		x = append(x, ten(dims), ten(dims, 1), ten(dims, 1, 2, 3, 4, 5, 6), ten(dims, make([]int, 9)...))
	}
	return x
}

// P10.1: a value that may not be, in the place of one, or one too many, at any place: ErrForm.
func TestSpoiledValues(t *testing.T) {
	for k, bad := range spoiled() {
		for i := range given() {
			x := given()
			x[i] = bad
			hold(t, fmt.Sprint(k, " at ", i), every(), x, api.ErrForm, true)
			hold(t, fmt.Sprint(k, " at ", i), joint(), x, api.ErrForm, false)
		}
		for i := range len(given()) + 1 {
			hold(t, fmt.Sprint(k, " more at ", i), every(), slices.Insert(given(), i, bad), api.ErrForm, true)
		}
		hold(t, fmt.Sprint(k, " far behind"), every(), append(slices.Repeat(given(), 99), bad), api.ErrForm, true)
	}
}

// P10.1: a value that may not be is told ahead of one that doesn't fit, whichever stands first.
func TestFormAheadOfDims(t *testing.T) {
	for k, bad := range spoiled() {
		hold(t, k, every(), many(bad), api.ErrForm, true)
		for i := range given() {
			for at := range given() {
				if i == at {
					continue
				}
				x := given()
				x[i], x[at] = bad, ten(d(7), 1, 2, 3, 4, 5, 6, 7)
				hold(t, fmt.Sprint(k, i, at), every(), x, api.ErrForm, true)
			}
		}
	}
}

// P10.1: Loss tells ErrForm of nodes that are no graph, beside values that fit and beside ones that don't.
func TestLossOfNoGraph(t *testing.T) {
	twin, nameless, far, wide, late := every(), every(), every(), every(), every()
	twin[16].Name = "w"
	nameless[3].Name = ""
	far[4].N = 1<<30 + 1
	wide = wide[:15]
	for len(late) < 25 {
		late = append(late, node(fmt.Sprint("z", len(late)), api.OpNeg, 0, d(1, 1), len(late)-1))
	}
	step := append(every(), node("y", api.OpStep, 0, d(1, 1), 16, 15))
	pick := append(every(), node("y", api.OpPick, 1, d(1, 1), 16, 15))
	for what, l := range map[string][]api.Node{"twin": twin, "nameless": nameless, "far": far, "wide": wide, "late": late, "step": step, "pick": pick, "joint": joint()} {
		hold(t, what, l, given(), api.OK, false)
		hold(t, what, l, nil, api.ErrDims, false)
		hold(t, what, l, given()[:3], api.ErrDims, false)
		hold(t, what, l, append(given(), ten(d(1), 1)), api.ErrDims, false)
		hold(t, what, l, append(given(), ten(d(1))), api.ErrForm, false)
	}
	hold(t, "as many as a graph has", late[:24], given(), api.OK, true)
	hold(t, "as many as a graph has", late[:24], nil, api.ErrDims, true)
}

// dice tells numbers from 0 to below n, the same ones each time it is made of the same seed.
func dice(seed uint64) func(n int) int {
	return func(n int) int {
		seed = seed*6364136223846793005 + 1442695040888963407
		return int(seed>>33) % n
	}
}

// naming tells whether a kind names its dims.
func naming(kind int) bool {
	return slices.Contains(d(api.OpIn, api.OpParam, api.OpFill, api.OpShape, api.OpWide, api.OpSum), kind)
}

// grown makes nodes that may be, most of them at most, of kinds up to one: node by node any kind that goes, then a loss.
func grown(most, upTo int, roll func(int) int) []api.Node {
	var l []api.Node
	small := [][]int{d(1), d(2), d(3), d(1, 1), d(1, 2), d(2, 2), d(2, 3), d(3, 2), d(1, 3), d(1, 1, 2), d(2, 2, 2)}
	for count := 1 + roll(most-1); len(l) < count; {
		x := node(fmt.Sprint("n", len(l)), 1+roll(upTo), roll(3), small[roll(len(small))])
		if !slices.Contains(d(api.OpFill, api.OpScale, api.OpMax, api.OpPick), x.Kind) {
			x.N = 0
		}
		var parts [][]int
		for len(l) > 0 && roll(3) > 0 {
			x.Args = append(x.Args, roll(len(l)))
			parts = append(parts, l[x.Args[len(x.Args)-1]].Dims)
		}
		asked := x.Dims
		if !naming(x.Kind) {
			asked = nil
		}
		if made, e := kernel.Dims(x.Kind, x.N, asked, parts...); e == api.OK {
			x.Dims = made
			l = append(l, x)
		}
	}
	return append(l, node("loss", api.OpSum, 0, slices.Repeat(d(1), len(l[len(l)-1].Dims)), len(l)-1))
}

// fitting makes values for nodes: small numbers, many of them alike, and ones that wrap around soon.
func fitting(l []api.Node, roll func(int) int) []api.Tensor {
	var x []api.Tensor
	for _, i := range wantedLeaves(l) {
		y := ten(slices.Clone(l[i].Dims))
		for range product(y.Dims) {
			n := roll(7) - 3
			if roll(4) == 0 {
				n = d(least, greatest, 1<<32, -1<<32, 1<<62, roll(1<<30)<<33)[roll(6)]
			}
			y.Data = append(y.Data, n)
		}
		x = append(x, y)
	}
	return x
}

// turned turns one thing of nodes, or of values: mostly they don't go together then.
func turned(l []api.Node, x []api.Tensor, roll func(int) int) ([]api.Node, []api.Tensor) {
	l, x = copied(l, x)
	y := &l[roll(len(l))]
	odd := d(-1, 0, 1, 2, 3, 8, 9, greatest)[roll(8)]
	spare := spoiled()[roll(len(spoiled()))]
	if roll(2) == 0 {
		spare, _ = shape.Fill(l[roll(len(l))].Dims, odd)
	}
	switch roll(9) {
	case 0:
		y.Kind = d(api.OpIn, api.OpParam, api.OpFill)[roll(3)]
	case 1:
		y.N = odd
	case 2:
		y.Dims[roll(len(y.Dims))] = odd
	case 3:
		y.Args = append(y.Args, odd)
	case 4:
		x = x[:roll(len(x)+1)]
	case 5:
		x = slices.Insert(x, roll(len(x)+1), spare)
	case 6:
		if len(x) > 0 {
			x[roll(len(x))] = spare
		}
	case 7:
		if len(x) > 0 {
			i, k := roll(len(x)), roll(len(x))
			x[i], x[k] = x[k], x[i]
		}
	case 8:
		l = l[:roll(len(l)+1)]
	}
	return l, x
}

// P10.1, P10.2: of nodes of all sorts, graphs and others, and of ones with one thing turned, what the document's sentences say.
func TestGrownAndTurned(t *testing.T) {
	roll := dice(10)
	seen := map[string]int{}
	kinds := map[int]int{}
	for i := range 600 {
		l := grown(d(api.MaxNodes, 60, api.MaxJoint)[i%3], d(api.OpMax, api.OpPick)[i%2], roll)
		x := fitting(l, roll)
		hold(t, i, l, x, api.OK, graph.Check(l) == api.OK)
		for _, y := range l {
			kinds[y.Kind]++
		}
		for range 10 {
			m, y := turned(l, x, roll)
			want, whole := wantedCheck(m, y), graph.Check(m) == api.OK
			hold(t, fmt.Sprint(m, y), m, y, want, whole)
			seen[fmt.Sprint(want, whole)]++
		}
	}
	for kind := api.OpIn; kind <= api.OpPick; kind++ {
		if kinds[kind] < 100 {
			t.Errorf("too few of kind %d: %d", kind, kinds[kind])
		}
	}
	for _, sort := range []string{"0 true", "0 false", "4 true", "4 false", "1 true", "1 false"} {
		if seen[sort] < 100 {
			t.Errorf("too few of a sort: %v", seen)
		}
	}
}

// lists are all those of which values are made.
func lists(x []api.Tensor) [][]int {
	var l [][]int
	for _, y := range x {
		l = append(l, y.Dims, y.Data)
	}
	return l
}

// soil writes all over a list, and over its spare room.
func soil(x []int) {
	x = x[:cap(x)]
	for i := range x {
		x[i] = -99
	}
}

// R2: no two lists of an answer share memory, and none shares any with what was handed in, or with another answer.
func TestAnswersAreCopies(t *testing.T) {
	for i := range lists(reckonedByHand()) {
		l, x := joint(), given()
		v, _ := eval.All(l, x)
		other, _ := eval.All(l, x)
		soil(lists(v)[i])
		want := lists(reckonedByHand())
		for k, list := range lists(v) {
			if k != i && !slices.Equal(list, want[k]) {
				t.Fatalf("list %d is changed with %d: %v", k, i, list)
			}
		}
		if !alike(l, joint()) || !slices.EqualFunc(x, given(), same) {
			t.Fatalf("what was handed in is changed with list %d", i)
		}
		again, e := eval.All(l, x)
		if !slices.EqualFunc(other, reckonedByHand(), same) || !slices.EqualFunc(again, reckonedByHand(), same) || e != api.OK {
			t.Fatalf("another answer is changed with list %d", i)
		}
	}
	// the list of values, too
	v, _ := eval.All(joint(), given())
	other, _ := eval.All(joint(), given())
	v = v[:cap(v)]
	for i := range v {
		v[i] = api.Tensor{}
	}
	if !slices.EqualFunc(other, reckonedByHand(), same) {
		t.Errorf("another answer is changed")
	}
}

// R2: nothing that was handed in is kept: whatever is written there later, answers stay.
func TestNothingIsKept(t *testing.T) {
	l, x := joint(), given()
	v, _ := eval.All(l, x)
	for i, y := range l {
		soil(y.Dims)
		soil(y.Args)
		l[i] = api.Node{}
	}
	for i, list := range lists(x) {
		soil(list)
		x[i/2] = api.Tensor{}
	}
	if !slices.EqualFunc(v, reckonedByHand(), same) {
		t.Errorf("%v", v)
	}
	v, e := eval.All(joint(), given())
	if !slices.EqualFunc(v, reckonedByHand(), same) || e != api.OK {
		t.Errorf("%v, %v", v, e)
	}
}

// R2: one list may be handed in as several values', and as nodes' dims.
func TestSharedArguments(t *testing.T) {
	dims, data := d(2), d(3, -4)
	l := []api.Node{node("a", api.OpParam, 0, dims), node("b", api.OpIn, 0, dims), node("c", api.OpSub, 0, dims, 0, 1), node("e", api.OpSum, 0, d(1), 2)}
	x := many(ten(dims, data...), ten(dims, data...))
	hold(t, "shared", l, x, api.OK, true)
	v, _ := eval.All(l, x)
	soil(v[0].Dims)
	soil(v[0].Data)
	soil(v[2].Dims)
	if !slices.Equal(dims, d(2)) || !slices.Equal(data, d(3, -4)) || !same(v[1], ten(d(2), 3, -4)) || !slices.Equal(v[2].Data, d(0, 0)) {
		t.Errorf("%v, %v, %v", dims, data, v)
	}
}

// R2: the spare room of what is handed in stays, whatever is answered.
func TestSpareRoomStays(t *testing.T) {
	spare := func(l []int) []int { return append(slices.Grow(slices.Clone(l), 3), 71, 72, 73)[:len(l)] }
	for _, x := range [][]api.Tensor{given(), given()[:3], append(given(), api.Tensor{})} {
		l, _ := copied(append(joint(), node("behind", 5, 5, d(5), 5)), nil)
		l = l[:len(l)-1]
		var all [][]int
		for i := range l {
			l[i].Args, l[i].Dims = spare(l[i].Args), spare(l[i].Dims)
			all = append(all, l[i].Args, l[i].Dims)
		}
		for i := range x {
			x[i] = ten(spare(x[i].Dims), spare(x[i].Data)...)
			all = append(all, x[i].Dims, x[i].Data)
		}
		x = append(x, ten(d(9), 9))[:len(x)]
		for _, m := range [][]api.Node{l, l[:17]} {
			eval.Check(m, x)
			eval.All(m, x)
			eval.Loss(m, x)
		}
		for _, list := range all {
			if more := list[len(list) : len(list)+3]; !slices.Equal(more, d(71, 72, 73)) {
				t.Fatalf("%v: %v", list, more)
			}
		}
		if behind := l[:len(l)+1][len(l)]; behind.Name != "behind" || behind.Kind != 5 || !same(x[:len(x)+1][len(x)], ten(d(9), 9)) {
			t.Errorf("what lies behind was changed")
		}
	}
}

// P10.2: each value is a tensor that may be, with its node's dims, also where it is nothing but its part's numbers.
func TestDimsAreTheNodes(t *testing.T) {
	x := ten(d(2, 3, 4))
	for i := range 24 {
		x.Data = append(x.Data, i*i*(1-i%2*2))
	}
	l := []api.Node{node("", api.OpIn, 0, d(2, 3, 4))}
	for _, dims := range allDims() {
		if product(dims) == 24 {
			l = append(l, node("", api.OpShape, 0, dims, 0))
		}
		if len(dims) == 3 && slices.Equal(dims[1:], d(3, 4)) {
			l = append(l, node("", api.OpSum, 0, d(1, 3, 4), 0), node("", api.OpWide, 0, dims, len(l)))
		}
	}
	for _, n := range d(1, 2, 4) {
		l = append(l, node("", api.OpMax, n, d(2, 3, 4/n), 0), node("", api.OpPick, n, d(2, 3, 4), 0, len(l)))
	}
	v, e := eval.All(l, many(x))
	if e != api.OK || len(v) != len(l) {
		t.Fatalf("%v", e)
	}
	for i, y := range v {
		if !slices.Equal(y.Dims, l[i].Dims) || shape.Tensor(y) != api.OK {
			t.Errorf("node %d: %v, not of dims %v", i, y, l[i].Dims)
		}
	}
	hold(t, "dims", l, many(x), api.OK, false)
}
