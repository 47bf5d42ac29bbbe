package graph_test

import (
	"fmt"
	"math"
	"slices"
	"strings"
	"testing"

	"gradus/api"
	"gradus/graph"
	"gradus/kernel"
	"gradus/word"
)

const (
	least    = math.MinInt
	greatest = math.MaxInt
)

// d makes dims, or numbers of nodes.
func d(l ...int) []int { return l }

// node makes a node: name, kind, number, dims, and what it is made of.
func node(name string, kind, number int, dims []int, args ...int) api.Node {
	return api.Node{Name: name, Kind: kind, N: number, Dims: dims, Args: args}
}

// every is a graph with a node of each kind that a graph may have, inputs and parameters not side by side.
func every() []api.Node {
	return []api.Node{
		node("w", api.OpParam, 0, d(2, 3)),
		node("x", api.OpIn, 0, d(2, 2)),
		node("b", api.OpParam, 0, d(1, 3)),
		node("ω", api.OpIn, 0, d(2, 3)),
		node("f", api.OpFill, -7, d(2, 3)),
		node("m", api.OpMat, 0, d(2, 3), 1, 0),
		node("c", api.OpWide, 0, d(2, 3), 2),
		node("s", api.OpAdd, 0, d(2, 3), 5, 6),
		node("u", api.OpSub, 0, d(2, 3), 7, 3),
		node("p", api.OpMul, 0, d(2, 3), 8, 8),
		node("r", api.OpRelu, 0, d(2, 3), 9),
		node("n", api.OpNeg, 0, d(2, 3), 10),
		node("t", api.OpTurn, 0, d(3, 2), 11),
		node("k", api.OpMax, 2, d(3, 1), 12),
		node("h", api.OpShape, 0, d(1, 3), 13),
		node("q", api.OpSum, 0, d(1, 1), 14),
		node("l", api.OpScale, -2, d(1, 1), 15),
	}
}

// joint is nodes that may be of all kinds, the last two of which no graph has.
func joint() []api.Node {
	return append(every(),
		node("", api.OpStep, 0, d(2, 3), 9, 7),
		node("w", api.OpPick, 2, d(3, 2), 12, 13))
}

// chain is as many nodes as asked for, of one cell each, each made of the one ahead of it.
func chain(count int) []api.Node {
	var l []api.Node
	for i := range count {
		x := node(fmt.Sprint("n", i), api.OpNeg, 0, d(1), i-1)
		if i == 0 {
			x = node("n0", api.OpParam, 0, d(1))
		}
		l = append(l, x)
	}
	return l
}

// copied tells nodes that share nothing with l.
func copied(l []api.Node) []api.Node {
	m := slices.Clone(l)
	for i, x := range m {
		m[i].Args, m[i].Dims = slices.Clone(x.Args), slices.Clone(x.Dims)
	}
	return m
}

// alike tells whether two lists of nodes are the same.
func alike(a, b []api.Node) bool {
	return slices.EqualFunc(a, b, func(x, y api.Node) bool {
		return x.Name == y.Name && x.Kind == y.Kind && x.N == y.N && slices.Equal(x.Dims, y.Dims) && slices.Equal(x.Args, y.Args)
	})
}

// naming tells whether a kind names its dims.
func naming(kind int) bool {
	return slices.Contains(d(api.OpIn, api.OpParam, api.OpFill, api.OpShape, api.OpWide, api.OpSum), kind)
}

// inferred is the document's sentence about one more node: what Infer has to tell of nodes that may be.
func inferred(kind, n int, dims []int, l []api.Node, args []int) ([]int, api.Errno) {
	var parts [][]int
	for _, arg := range args {
		if arg < 0 || arg >= len(l) {
			return nil, api.ErrForm
		}
		parts = append(parts, l[arg].Dims)
	}
	return kernel.Dims(kind, n, dims, parts...)
}

// mayBe is the document's sentence about nodes that may be.
func mayBe(l []api.Node) bool {
	if len(l) > 240 {
		return false
	}
	for i, x := range l {
		dims := []int(nil)
		if naming(x.Kind) {
			dims = x.Dims
		}
		made, e := inferred(x.Kind, x.N, dims, l[:i], x.Args)
		if e != api.OK || !slices.Equal(made, x.Dims) {
			return false
		}
	}
	return true
}

// isGraph is the document's sentence about graphs.
func isGraph(l []api.Node) bool {
	names := map[string]int{}
	for _, x := range l {
		names[x.Name]++
		if word.Name(x.Name) != api.OK || names[x.Name] > 1 || x.Kind < api.OpIn || x.Kind > api.OpMax {
			return false
		}
		if (x.Kind == api.OpFill || x.Kind == api.OpScale) && (x.N < -1<<30 || x.N > 1<<30) {
			return false
		}
	}
	if len(l) < 1 || len(l) > 24 || !mayBe(l) {
		return false
	}
	cells := 1
	for _, n := range l[len(l)-1].Dims {
		cells *= n
	}
	return cells == 1
}

// held tells what a call has to tell of lists that are so.
func held(so bool) api.Errno {
	if so {
		return api.OK
	}
	return api.ErrForm
}

// hold holds all calls on one list against each other: whether it may be, whether it is a graph.
func hold(t *testing.T, what any, l []api.Node, nodes, whole bool) {
	t.Helper()
	before := copied(l)
	if e := graph.Nodes(l); e != held(nodes) {
		t.Fatalf("%v: Nodes: %v, not %v", what, e, held(nodes))
	}
	if e := graph.Check(l); e != held(whole) {
		t.Fatalf("%v: Check: %v, not %v", what, e, held(whole))
	}
	if x, e := graph.Leaves(l); e != held(whole) || e != api.OK && x != nil {
		t.Fatalf("%v: Leaves: %v, %v, not %v", what, x, e, held(whole))
	}
	if x, e := graph.Infer(api.OpIn, 0, d(3), l, nil); e != held(nodes) || e != api.OK && x != nil {
		t.Fatalf("%v: Infer: %v, %v, not %v", what, x, e, held(nodes))
	}
	for _, i := range d(least, -1, 0, len(l)-1, len(l), greatest) {
		want := held(nodes)
		if nodes && (i < 0 || i >= len(l)) {
			want = api.ErrNone
		}
		if x, e := graph.Uses(l, i); e != want || e != api.OK && x != nil {
			t.Fatalf("%v: Uses of %d: %v, %v, not %v", what, i, x, e, want)
		}
	}
	if !alike(l, before) {
		t.Fatalf("%v: the nodes were changed", what)
	}
}

// P8.1: nodes of each kind may be, up to any of them; a graph is up to a last one of one cell, and has no kind above OpMax.
func TestEachKind(t *testing.T) {
	l := joint()
	kinds := map[int]int{}
	for i := range len(l) + 1 {
		hold(t, i, l[:i], true, i == 16 || i == 17)
		if i < len(l) {
			kinds[l[i].Kind]++
		}
	}
	if len(kinds) != api.OpPick {
		t.Errorf("%d kinds", len(kinds))
	}
	for _, kind := range d(api.OpStep, api.OpPick) {
		m := []api.Node{node("a", api.OpParam, 0, d(1)), node("b", kind, 0, d(1), 0, 0), node("c", api.OpNeg, 0, d(1), 1)}
		if kind == api.OpPick {
			m[1].N = 1
		}
		hold(t, kind, m[:1], true, true)
		hold(t, kind, m[:2], true, false)
		hold(t, kind, m, true, false)
	}
	hold(t, "the document's example", []api.Node{node("a", api.OpFill, 5, d(1))}, true, true)
}

// P8.1: no node, one, as many as may be, and one more.
func TestCounts(t *testing.T) {
	hold(t, "nil", nil, true, false)
	hold(t, "empty", []api.Node{}, true, false)
	for _, count := range d(1, 2, api.MaxNodes-1, api.MaxNodes, api.MaxNodes+1, 100, api.MaxJoint-1, api.MaxJoint, api.MaxJoint+1, 2*api.MaxJoint) {
		hold(t, count, chain(count), count <= 240, count <= 24)
	}
}

// P8.1: kinds that there are not, at any place, those among them that are one that there is when they are cut to a rune or a byte.
func TestKindsOutside(t *testing.T) {
	for _, kind := range d(api.OpNone, -1, api.OpPick+1, api.OpPick+2, 1<<8+api.OpIn, 1<<32+api.OpIn, 1<<32+api.OpFill, -1<<32+api.OpParam, least, greatest) {
		for i := range every() {
			l := every()
			l[i].Kind = kind
			hold(t, kind, l, false, false)
		}
		x, e := graph.Infer(kind, 0, d(1), every(), nil)
		if x != nil || e != api.ErrForm {
			t.Errorf("kind %d: %v, %v", kind, x, e)
		}
	}
}

// P8.1: each node is made of ones ahead of it, and of as many as its kind asks for.
func TestMadeOfOnesAhead(t *testing.T) {
	for i, x := range every() {
		for k := range x.Args {
			for _, arg := range d(i, i+1, len(every())-1, len(every()), -1, least, greatest, 1<<32+x.Args[k]) {
				if arg >= 0 && arg < i {
					continue
				}
				l := every()
				l[i].Args[k] = arg
				hold(t, fmt.Sprint(i, k, arg), l, false, false)
			}
		}
		// one more, and one less
		l := every()
		l[i].Args = append(l[i].Args, 0)
		hold(t, fmt.Sprint(i, " more"), l, false, false)
		l = every()
		if len(x.Args) > 0 {
			l[i].Args = l[i].Args[1:]
			hold(t, fmt.Sprint(i, " less"), l, false, false)
		} else {
			l[i].Args = d()
			hold(t, fmt.Sprint(i, " none"), l, true, true)
		}
		// the first node of all has none ahead of it
		hold(t, fmt.Sprint(i, " alone"), every()[i:i+1], len(x.Args) == 0, false)
	}
	for _, arg := range d(-1, 0, 1, 2) {
		hold(t, arg, []api.Node{node("a", api.OpNeg, 0, d(1), arg), node("b", api.OpFill, 0, d(1))}, false, false)
	}
	l := every()
	l[11].Args = make([]int, 1<<20)
	hold(t, "many", l, false, false)
}

// wrongDims are some that may not be.
func wrongDims() [][]int {
	return [][]int{nil, d(), d(0), d(9), d(-1), d(2, 0), d(-2, -3), d(1, 1, 1, 1), d(8, 8, 2), d(1 << 32), d(1<<32, 1<<32), d(least), d(greatest)}
}

// dims tells all dims that may be.
func dims() [][]int {
	var l [][]int
	for a := 1; a <= 8; a++ {
		l = append(l, d(a))
		for b := 1; b <= 8; b++ {
			l = append(l, d(a, b))
			for c := 1; c <= 8 && a*b*c <= 64; c++ {
				l = append(l, d(a, b, c))
			}
		}
	}
	return l
}

// P8.1: Dims are those that the kernel tells: of a kind that names them, these, if they go with its parts; of another, just the ones that come.
func TestDims(t *testing.T) {
	for i, x := range joint() {
		for _, other := range wrongDims() {
			l := joint()
			l[i].Dims = other
			hold(t, fmt.Sprint(i, other), l, false, false)
		}
		for _, other := range dims() {
			l := joint()[:i+1]
			l[i].Dims = other
			so := slices.Equal(other, x.Dims)
			switch x.Kind {
			case api.OpIn, api.OpParam, api.OpFill:
				so = true
			case api.OpShape:
				so = len(other) == 1 && other[0] == 3 || len(other) == 2 && other[0]*other[1] == 3 || len(other) == 3 && other[0]*other[1]*other[2] == 3
			case api.OpWide:
				so = len(other) == 2 && other[1] == 3
			case api.OpSum:
				so = len(other) == 2 && other[0] == 1 && (other[1] == 1 || other[1] == 3)
			}
			if e := graph.Nodes(l); e != held(so) {
				t.Fatalf("%d: %v: %v, not %v", i, other, e, held(so))
			}
		}
	}
}

// P8.1: parts that do not go together are no node's.
func TestPartsThatDoNotGo(t *testing.T) {
	for _, x := range []api.Node{
		node("z", api.OpAdd, 0, d(2, 3), 0, 1), node("z", api.OpSub, 0, d(2, 2), 1, 0), node("z", api.OpMul, 0, d(2, 3), 0, 2),
		node("z", api.OpMat, 0, d(2, 3), 0, 1), node("z", api.OpMat, 0, d(2, 2), 0, 0), node("z", api.OpStep, 0, d(2, 3), 0, 1),
		node("z", api.OpWide, 0, d(3, 3), 0), node("z", api.OpSum, 0, d(1, 2), 0), node("z", api.OpShape, 0, d(7), 0),
		node("z", api.OpMax, 2, d(2, 1), 0), node("z", api.OpPick, 2, d(2, 3), 0, 0), node("z", api.OpPick, 3, d(2, 3), 0, 0),
	} {
		l := append(every()[:16], x, node("o", api.OpFill, 0, d(1)))
		hold(t, x, l, false, false)
		// no dims are not those of what does not come, either
		l[16].Dims = nil
		hold(t, x, l, false, false)
		hold(t, x, slices.Delete(l, 16, 17), true, true)
	}
}

// P8.1: a graph's names are unlike, and names; of nodes no one looks at them.
func TestNames(t *testing.T) {
	for i := range every() {
		for _, name := range []string{"", "B", "1a", "-", "a b", "a=", "abcdefg", "αβγδεζη", "a\xff", "\xce", "й", "a\n", strings.Repeat("a", 1<<16)} {
			l := every()
			l[i].Name = name
			hold(t, fmt.Sprint(i, len(name)), l, true, false)
		}
		for _, name := range []string{"a", "ww", "w0", "α", "αβγδεζ", "abcde9", "ς"} {
			l := every()
			l[i].Name = name
			hold(t, fmt.Sprint(i, name), l, true, true)
		}
		for k := range every() {
			l := every()
			l[i].Name = l[k].Name
			hold(t, fmt.Sprint(i, k), l, true, i == k)
		}
	}
	// two that are alike in all but their last rune, and two that look alike
	for _, two := range [][]string{{"abcdef", "abcdeg"}, {"σ", "ς"}, {"o", "ο"}, {"a", "a0"}} {
		hold(t, two, []api.Node{node(two[0], api.OpIn, 0, d(1)), node(two[1], api.OpIn, 0, d(1))}, true, true)
	}
}

// P8.1: a graph's fills and scales have numbers up to MaxNum; of nodes any; other kinds have the ones that the kernel lets.
func TestNumbers(t *testing.T) {
	for i, x := range every() {
		for _, n := range d(-api.MaxNum, api.MaxNum, -api.MaxNum-1, api.MaxNum+1, least, greatest, 1<<32, 1<<32+1, -1, 0, 1, 2, 3, 8, 9) {
			l := every()
			l[i].N = n
			free := x.Kind == api.OpFill || x.Kind == api.OpScale
			nodes := free || n == 0
			if x.Kind == api.OpMax {
				// of two numbers side by side just two make one
				nodes = n == 2
			}
			hold(t, fmt.Sprint(i, n), l, nodes, nodes && n >= -1<<30 && n <= 1<<30)
		}
	}
	for _, n := range d(0, 1, 2, 8, 9, -1) {
		l := []api.Node{node("a", api.OpIn, 0, d(8, 8)), node("b", api.OpMax, n, nil, 0), node("c", api.OpFill, 0, d(1))}
		if n > 0 {
			l[1].Dims = d(8, max(1, 8/n))
		}
		hold(t, n, l, n >= 1 && n <= 8, n >= 1 && n <= 8)
	}
}

// P8.1: the last one of a graph has one cell, of as many dims as may be; the others any.
func TestLastCell(t *testing.T) {
	for _, other := range dims() {
		one := slices.Max(other) == 1
		hold(t, other, []api.Node{node("a", api.OpParam, 0, other)}, true, one)
		hold(t, other, append(every(), node("z", api.OpFill, 0, other)), true, one)
		hold(t, other, append([]api.Node{node("z", api.OpFill, 0, other)}, node("a", api.OpParam, 0, d(1))), true, true)
	}
}

// wantList holds an answer that is a list against what is asked.
func wantList(t *testing.T, what any, x []int, e api.Errno, want []int) {
	t.Helper()
	if !slices.Equal(x, want) || e != api.OK {
		t.Fatalf("%v: %v, %v, not %v", what, x, e, want)
	}
}

// P8.1: inputs ahead of parameters, each rising; no other kind, whatever it is made of.
func TestLeaves(t *testing.T) {
	x, e := graph.Leaves(every())
	wantList(t, "every", x, e, d(1, 3, 0, 2))
	x, e = graph.Leaves([]api.Node{node("a", api.OpFill, 1, d(1)), node("b", api.OpNeg, 0, d(1), 0)})
	wantList(t, "none", x, e, nil)
	// all patterns of five leaves, or fills, ahead of a loss
	for code := range 3 * 3 * 3 * 3 * 3 {
		var l []api.Node
		var ins, params []int
		for i := range 5 {
			kind := d(api.OpIn, api.OpParam, api.OpFill)[code%3]
			code /= 3
			l = append(l, node(fmt.Sprint("n", i), kind, 0, d(i+1)))
			switch kind {
			case api.OpIn:
				ins = append(ins, i)
			case api.OpParam:
				params = append(params, i)
			}
		}
		l = append(l, node("l", api.OpSum, 0, d(1), 4))
		x, e := graph.Leaves(l)
		wantList(t, l, x, e, append(ins, params...))
	}
	full := chain(api.MaxNodes)
	for i := range full {
		full[i] = node(full[i].Name, api.OpParam-i%2, 0, d(1))
	}
	x, e = graph.Leaves(full)
	wantList(t, "full", x, e, d(1, 3, 5, 7, 9, 11, 13, 15, 17, 19, 21, 23, 0, 2, 4, 6, 8, 10, 12, 14, 16, 18, 20, 22))
}

// P8.1: which ones are made of a node, each once, though it be made of it twice; of the first one, of the last one.
func TestUses(t *testing.T) {
	for i, want := range [][]int{{5}, {5}, {6}, {8}, nil, {7}, {7}, {8, 17}, {9}, {10, 17}, {11}, {12}, {13, 18}, {14, 18}, {15}, {16}, nil, nil, nil} {
		x, e := graph.Uses(joint(), i)
		wantList(t, i, x, e, want)
	}
	l := []api.Node{node("", api.OpFill, 1, d(2)), node("", api.OpMul, 0, d(2), 0, 0), node("", api.OpStep, 0, d(2), 1, 0), node("", api.OpAdd, 0, d(2), 0, 1), node("", api.OpPick, 1, d(2), 3, 3)}
	for i, want := range [][]int{{1, 2, 3}, {2, 3}, nil, {4}, nil} {
		x, e := graph.Uses(l, i)
		wantList(t, i, x, e, want)
	}
	long := chain(api.MaxJoint)
	for i := range long {
		want := d(i + 1)
		if i == len(long)-1 {
			want = nil
		}
		x, e := graph.Uses(long, i)
		wantList(t, i, x, e, want)
	}
	// all but the first one are made of the first one, and no one of another
	star, want := long[:1], []int(nil)
	for i := 1; i < api.MaxJoint; i++ {
		star, want = append(star, node("", api.OpSub, 0, d(1), 0, 0)), append(want, i)
	}
	x, e := graph.Uses(star, 0)
	wantList(t, "star", x, e, want)
	x, e = graph.Uses(star, 1)
	wantList(t, "star", x, e, nil)
}

// wantNone holds an answer against the error asked for, and the zero value beside it.
func wantNone(t *testing.T, what any, x []int, e, want api.Errno) {
	t.Helper()
	if x != nil || e != want {
		t.Fatalf("%v: %v, %v, not %v", what, x, e, want)
	}
}

// P8.1: ErrNone, if there is no such node; of no nodes there is none.
func TestUsesOfNone(t *testing.T) {
	for _, l := range [][]api.Node{nil, every()[:1], every(), joint(), chain(api.MaxJoint)} {
		for _, i := range d(-1, -2, least, len(l), len(l)+1, greatest, 1<<32, -1<<32) {
			x, e := graph.Uses(l, i)
			wantNone(t, i, x, e, api.ErrNone)
		}
	}
}

// P8.2: of each kind, number, dims and args what the kernel tells of the args' dims.
func TestInferOfAll(t *testing.T) {
	l := []api.Node{node("", api.OpIn, 0, d(2, 2)), node("", api.OpParam, 0, d(1, 2)), node("", api.OpWide, 0, d(2, 2), 1), node("", api.OpFill, greatest, d(2))}
	var lists [][]int
	for a := -1; a <= len(l); a++ {
		lists = append(lists, d(a))
		for b := -1; b <= len(l); b++ {
			lists = append(lists, d(a, b), d(a, b, 0), d(a, b, len(l)))
		}
	}
	lists = append(lists, nil, d(), d(least), d(greatest, 0), d(1<<32), make([]int, 1000))
	seen := map[api.Errno]int{}
	for kind := -1; kind <= api.OpPick+1; kind++ {
		for _, n := range d(least, -1, 0, 1, 2, 8, 9, greatest) {
			for _, dims := range [][]int{nil, d(), d(1), d(2), d(4), d(2, 2), d(1, 2), d(2, 9), d(1, 1, 1, 1)} {
				for _, args := range lists {
					want, err := inferred(kind, n, dims, l, args)
					x, e := graph.Infer(kind, n, dims, l, args)
					if !slices.Equal(x, want) || e != err || e != api.OK && x != nil {
						t.Fatalf("%d, %d, %v, %v: %v, %v, not %v, %v", kind, n, dims, args, x, e, want, err)
					}
					seen[e]++
				}
			}
		}
	}
	if len(seen) != 3 || seen[api.OK] == 0 || seen[api.ErrDims] == 0 || seen[api.ErrForm] == 0 {
		t.Errorf("%v", seen)
	}
}

// P8.2: of each node of nodes that may be: of those ahead of it one more is that one; and no one behind is a part.
func TestInferOfEach(t *testing.T) {
	l := joint()
	for i, y := range l {
		asked := []int(nil)
		if naming(y.Kind) {
			asked = y.Dims
		}
		x, e := graph.Infer(y.Kind, y.N, asked, l[:i], y.Args)
		wantList(t, i, x, e, y.Dims)
		x, e = graph.Infer(y.Kind, y.N, asked, l, y.Args)
		wantList(t, i, x, e, y.Dims)
		for k, arg := range y.Args {
			x, e = graph.Infer(y.Kind, y.N, asked, l[:arg], y.Args)
			wantNone(t, fmt.Sprint(i, k), x, e, api.ErrForm)
		}
	}
	// The document says nothing of how many there are already.
	x, e := graph.Infer(api.OpNeg, 0, nil, chain(api.MaxJoint), d(api.MaxJoint-1))
	wantList(t, "full", x, e, d(1))
	x, e = graph.Infer(api.OpFill, least, d(8, 8), nil, nil)
	wantList(t, "of no nodes", x, e, d(8, 8))
}

// P8.1, P8.2: ErrForm ahead of ErrNone and of ErrDims; beside each no answer.
func TestFormAhead(t *testing.T) {
	bad := every()
	bad[7].N = 1
	for _, l := range [][]api.Node{bad, chain(api.MaxJoint + 1), {node("a", api.OpNone, 0, d(1))}} {
		for _, i := range d(-1, 0, len(l), greatest) {
			x, e := graph.Uses(l, i)
			wantNone(t, i, x, e, api.ErrForm)
		}
		x, e := graph.Infer(api.OpMat, 0, nil, l, d(0, 0))
		wantNone(t, "dims", x, e, api.ErrForm)
		x, e = graph.Infer(api.OpFill, 0, d(1), l, nil)
		wantNone(t, "fill", x, e, api.ErrForm)
		x, e = graph.Leaves(l)
		wantNone(t, "leaves", x, e, api.ErrForm)
	}
	// nodes that may be, but are no graph
	x, e := graph.Leaves(joint())
	wantNone(t, "leaves", x, e, api.ErrForm)
	x, e = graph.Leaves(nil)
	wantNone(t, "leaves", x, e, api.ErrForm)
	// an arg that is none's, of a kind that would not go together
	for _, args := range [][]int{{0, -1}, {-1, 0}, {0, 17}, {17, 0}, {least, greatest}} {
		x, e = graph.Infer(api.OpMat, 0, nil, every(), args)
		wantNone(t, args, x, e, api.ErrForm)
	}
	x, e = graph.Infer(api.OpMat, 0, nil, every(), d(0, 0))
	wantNone(t, "mat", x, e, api.ErrDims)
	x, e = graph.Infer(api.OpMat, 0, d(2, 3), every(), d(0, 0))
	wantNone(t, "mat", x, e, api.ErrForm)
}

// P8.3: leaves are made of nothing, and what is made of nothing is a leaf, or a fill.
func TestLeavesAreMadeOfNothing(t *testing.T) {
	for _, l := range append(grown(400), every(), chain(api.MaxNodes)) {
		numbers, e := graph.Leaves(l)
		if e != api.OK {
			t.Fatalf("%v: %v", l, e)
		}
		for i, x := range l {
			leaf := slices.Contains(numbers, i)
			if leaf && (len(x.Args) != 0 || x.Kind != api.OpIn && x.Kind != api.OpParam) {
				t.Fatalf("%v: %d is a leaf", l, i)
			}
			if !leaf && len(x.Args) == 0 && x.Kind != api.OpFill {
				t.Fatalf("%v: %d is no leaf", l, i)
			}
			// and no one else is found to be used by a leaf
			users, _ := graph.Uses(l, i)
			for _, k := range numbers {
				if slices.Contains(users, k) {
					t.Fatalf("%v: leaf %d is made of %d", l, k, i)
				}
			}
		}
	}
}

// dice tells numbers from 0 to below n, the same ones each time it is made of the same seed.
func dice(seed uint64) func(n int) int {
	return func(n int) int {
		seed = seed*6364136223846793005 + 1442695040888963407
		return int(seed>>33) % n
	}
}

// grown makes graphs: node by node any kind that goes, then a loss.
func grown(count int) [][]api.Node {
	var graphs [][]api.Node
	roll := dice(8)
	small := [][]int{d(1), d(2), d(3), d(1, 1), d(1, 2), d(2, 2), d(2, 3), d(3, 2), d(1, 3), d(1, 1, 2), d(2, 2, 2)}
	for range count {
		var l []api.Node
		for most := 1 + roll(api.MaxNodes-1); len(l) < most; {
			x := node(fmt.Sprint("n", len(l)), 1+roll(api.OpMax), roll(3), small[roll(len(small))])
			if !slices.Contains(d(api.OpFill, api.OpScale, api.OpMax), x.Kind) {
				x.N = 0
			}
			for len(l) > 0 && roll(3) > 0 {
				x.Args = append(x.Args, roll(len(l)))
			}
			asked := x.Dims
			if !naming(x.Kind) {
				asked = nil
			}
			if made, e := inferred(x.Kind, x.N, asked, l, x.Args); e == api.OK {
				x.Dims = made
				l = append(l, x)
			}
		}
		if isGraph(l) {
			graphs = append(graphs, l)
			continue
		}
		graphs = append(graphs, append(l, node("loss", api.OpSum, 0, slices.Repeat(d(1), len(l[len(l)-1].Dims)), len(l)-1)))
	}
	return graphs
}

// spoiled turns one thing of a graph: mostly it is none then.
func spoiled(l []api.Node, roll func(int) int) []api.Node {
	l = copied(l)
	x, y := &l[roll(len(l))], l[roll(len(l))]
	odd := d(least, -1, 0, 1, 2, 3, 8, 9, api.MaxNum, api.MaxNum+1, greatest)[roll(11)]
	switch roll(10) {
	case 0:
		x.Kind = roll(api.OpPick + 2)
	case 1:
		x.N = odd
	case 2:
		x.Name = y.Name
	case 3:
		x.Args = y.Args
	case 4:
		x.Args = append(x.Args, odd)
	case 5:
		x.Dims = y.Dims
	case 6:
		x.Dims[roll(len(x.Dims))] = odd
	case 7:
		x.Dims = append(x.Dims, 1)
	case 8:
		l = l[:roll(len(l)+1)]
	case 9:
		*x = y
	}
	return l
}

// P8.1: of graphs of all sorts, and of ones with one thing turned, what the document's sentences say.
func TestGrownAndSpoiled(t *testing.T) {
	roll := dice(27)
	seen := [3]int{}
	for i, l := range grown(400) {
		if !isGraph(l) {
			t.Fatalf("%d: %v", i, l)
		}
		hold(t, i, l, true, true)
		for k := range l {
			var want []int
			for u, x := range l {
				if slices.Contains(x.Args, k) {
					want = append(want, u)
				}
			}
			x, e := graph.Uses(l, k)
			wantList(t, fmt.Sprint(i, k), x, e, want)
		}
		for range 30 {
			m := spoiled(l, roll)
			nodes, whole := mayBe(m), isGraph(m)
			hold(t, m, m, nodes, whole)
			if whole {
				seen[0]++
			} else if nodes {
				seen[1]++
			} else {
				seen[2]++
			}
		}
	}
	if slices.Min(seen[:]) < 100 {
		t.Errorf("too few of a sort: %v", seen)
	}
}

// soil writes all over a list, and over its spare room.
func soil(x []int) {
	x = x[:cap(x)]
	for i := range x {
		x[i] = -99
	}
}

// R2: answers are new memory, their spare room too: they share none with what was handed in, and none with each other.
func TestAnswersAreCopies(t *testing.T) {
	l, before := every(), every()
	asked, args := append(make([]int, 0, 9), 2, 3), append(make([]int, 0, 9), 0, 3)
	for _, ask := range []func() ([]int, api.Errno){
		func() ([]int, api.Errno) { return graph.Leaves(l) },
		func() ([]int, api.Errno) { return graph.Uses(l, 7) },
		func() ([]int, api.Errno) { return graph.Infer(api.OpIn, 0, asked, l, nil) },
		func() ([]int, api.Errno) { return graph.Infer(api.OpShape, 0, asked, l, args[:1]) },
		func() ([]int, api.Errno) { return graph.Infer(api.OpAdd, 0, nil, l, args) },
		func() ([]int, api.Errno) { return graph.Infer(api.OpNeg, 0, nil, l, args[:1]) },
	} {
		first, e := ask()
		if e != api.OK || len(first) == 0 {
			t.Fatalf("%v, %v", first, e)
		}
		want := slices.Clone(first)
		second, _ := ask()
		soil(first)
		third, e := ask()
		if !slices.Equal(second, want) || !slices.Equal(third, want) || e != api.OK {
			t.Errorf("%v, %v, not %v", second, third, want)
		}
		if !alike(l, before) || !slices.Equal(asked, d(2, 3)) || !slices.Equal(args, d(0, 3)) {
			t.Errorf("what was handed in was changed: %v", want)
		}
	}
}

// R2: what is handed in is not changed, neither is its spare room, whatever is answered.
func TestSpareRoomStays(t *testing.T) {
	spare := func(l []int) []int { return append(slices.Grow(slices.Clone(l), 3), 71, 72, 73)[:len(l)] }
	bad := every()
	bad[9].Dims = d(3, 2)
	for _, l := range [][]api.Node{every(), joint(), bad} {
		l = append(copied(l), node("behind", 5, 5, d(5), 5))[:len(l)]
		for i := range l {
			l[i].Args, l[i].Dims = spare(l[i].Args), spare(l[i].Dims)
		}
		asked, args := spare(d(2, 3)), spare(d(0, 3))
		before := copied(l)
		graph.Check(l)
		graph.Nodes(l)
		graph.Leaves(l)
		for i := -1; i <= len(l); i++ {
			graph.Uses(l, i)
		}
		for kind := range api.OpPick + 2 {
			graph.Infer(kind, 0, asked, l, args[:1])
			graph.Infer(kind, 0, nil, l, args)
			graph.Infer(kind, 0, asked, l, nil)
		}
		lists := [][]int{asked, args}
		for _, x := range l {
			lists = append(lists, x.Args, x.Dims)
		}
		for _, x := range lists {
			if more := x[len(x) : len(x)+3]; !slices.Equal(more, d(71, 72, 73)) {
				t.Fatalf("%v: %v", x, more)
			}
		}
		if behind := l[:len(l)+1][len(l)]; !alike(l, before) || behind.Name != "behind" || behind.Kind != 5 {
			t.Errorf("the nodes were changed")
		}
	}
}

// R2: a nil list and an empty one are one.
func TestEmptyLists(t *testing.T) {
	l := every()
	for i, x := range l {
		if len(x.Args) == 0 {
			l[i].Args = d()
		}
	}
	hold(t, "empty args", l, true, true)
	for _, none := range [][]int{nil, d()} {
		x, e := graph.Infer(api.OpParam, 0, d(4), l, none)
		wantList(t, "args", x, e, d(4))
		x, e = graph.Infer(api.OpNeg, 0, none, l, d(0))
		wantList(t, "dims", x, e, d(2, 3))
		x, e = graph.Infer(api.OpFill, 0, none, l, none)
		wantNone(t, "fill", x, e, api.ErrForm)
	}
}
