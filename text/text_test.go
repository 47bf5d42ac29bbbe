package text_test

import (
	"fmt"
	"math"
	"regexp"
	"slices"
	"strconv"
	"strings"
	"testing"
	"unicode/utf8"
	"unsafe"

	"gradus/api"
	"gradus/graph"
	"gradus/kernel"
	"gradus/text"
)

// d makes dims, or numbers of nodes.
func d(l ...int) []int { return l }

// node makes a node: name, kind, number, dims, and what it is made of.
func node(name string, kind, number int, dims []int, args ...int) api.Node {
	return api.Node{Name: name, Kind: kind, N: number, Dims: dims, Args: args}
}

// names are those of the document, in the order of the kinds' numbers.
func names() []string {
	return []string{"in", "param", "fill", "add", "sub", "mul", "neg", "scale", "mat", "turn", "shape", "wide", "sum", "relu", "max"}
}

// every is a graph with a node of each kind that a graph may have, some of them named as kinds are.
func every() []api.Node {
	return []api.Node{
		node("w", api.OpParam, 0, d(2, 3)),
		node("in", api.OpIn, 0, d(2, 2)),
		node("β", api.OpParam, 0, d(1, 3)),
		node("ω", api.OpIn, 0, d(1, 2, 3)),
		node("f0", api.OpFill, -7, d(2, 3)),
		node("m", api.OpMat, 0, d(2, 3), 1, 0),
		node("c", api.OpWide, 0, d(2, 3), 2),
		node("sum", api.OpAdd, 0, d(2, 3), 5, 6),
		node("u", api.OpSub, 0, d(2, 3), 7, 4),
		node("p", api.OpMul, 0, d(2, 3), 8, 8),
		node("r", api.OpRelu, 0, d(2, 3), 9),
		node("abcdef", api.OpNeg, 0, d(2, 3), 10),
		node("t", api.OpTurn, 0, d(3, 2), 11),
		node("k", api.OpMax, 2, d(3, 1), 12),
		node("h", api.OpShape, 0, d(1, 3), 13),
		node("q", api.OpSum, 0, d(1, 1), 14),
		node("λδ", api.OpScale, 1<<30, d(1, 1), 15),
	}
}

// everyText is the text of every, line by line.
const everyText = `w = param 2 3
in = in 2 2
β = param 1 3
ω = in 1 2 3
f0 = fill -7 2 3
m = mat in w
c = wide β 2 3
sum = add m c
u = sub sum f0
p = mul u u
r = relu p
abcdef = neg r
t = turn abcdef
k = max t 2
h = shape k 1 3
q = sum h 1 1
λδ = scale q 1073741824
`

// copied tells nodes that share nothing with l.
func copied(l []api.Node) []api.Node {
	m := slices.Clone(l)
	for i, x := range m {
		m[i].Args, m[i].Dims = slices.Clone(x.Args), slices.Clone(x.Dims)
	}
	return m
}

// alike tells whether two lists of nodes are the same.
func alike(a, b []api.Node) bool {
	return slices.EqualFunc(a, b, func(x, y api.Node) bool {
		return x.Name == y.Name && x.Kind == y.Kind && x.N == y.N && slices.Equal(x.Dims, y.Dims) && slices.Equal(x.Args, y.Args)
	})
}

// What stands in a line, as a pattern of its words with a blank between two.
const (
	aName   = ` ([a-zα-ω][a-zα-ω0-9]{0,5})`
	aNumber = ` (-?[1-9][0-9]*|0)`
	aDims   = `((?: (?:-?[1-9][0-9]*|0)){1,3})`
)

// forms tells the pattern of all lines of each kind.
func forms() []*regexp.Regexp {
	var l []*regexp.Regexp
	for _, name := range names() {
		behind := aName
		switch name {
		case "in", "param":
			behind = aDims
		case "fill":
			behind = aNumber + aDims
		case "scale", "max":
			behind = aName + aNumber
		case "shape", "wide", "sum":
			behind = aName + aDims
		case "add", "sub", "mul", "mat":
			behind = aName + aName
		}
		l = append(l, regexp.MustCompile(`^`+aName+` = `+name+behind+`$`))
	}
	return l
}

var (
	patterns = forms()
	aWord    = regexp.MustCompile(`=|[^ \t=]+`)
	allRunes = regexp.MustCompile(`^[a-zα-ω0-9=\t -]*$`)
	isNumber = regexp.MustCompile(`^` + aNumber[1:] + `$`)
)

// formed is the document's sentence about one line: the node that it is behind those of l, and the dims that it asks for.
func formed(line string, l []api.Node) (x api.Node, ok bool) {
	for i, pattern := range patterns {
		found := pattern.FindStringSubmatch(line)
		if found == nil {
			continue
		}
		x.Name, x.Kind = found[1], i+1
		for _, y := range l {
			if y.Name == x.Name {
				return x, false
			}
		}
		for _, group := range found[2:] {
			for _, w := range strings.Fields(group) {
				if !isNumber.MatchString(w) {
					at := slices.IndexFunc(l, func(y api.Node) bool { return y.Name == w })
					if at < 0 {
						return x, false
					}
					x.Args = append(x.Args, at)
					continue
				}
				n, err := strconv.Atoi(w)
				if err != nil || n < -1<<30 || n > 1<<30 {
					return x, false
				}
				if x.Kind == api.OpScale || x.Kind == api.OpMax || x.Kind == api.OpFill && group == found[2] {
					x.N = n
				} else {
					x.Dims = append(x.Dims, n)
				}
			}
		}
		return x, true
	}
	return x, false
}

// asked is the document's sentence about a text: what Read has to tell of it.
func asked(s string) ([]api.Node, int, api.Errno) {
	if len(s) > 3000 {
		return nil, 0, api.ErrLimit
	}
	lines := strings.Split(s, "\n")
	for i := range lines {
		lines[i] = strings.Split(lines[i], "#")[0]
	}
	if lines[len(lines)-1] == "" {
		lines = lines[:len(lines)-1]
	}
	l := []api.Node(nil)
	for i, line := range lines {
		if !utf8.ValidString(line) || !allRunes.MatchString(line) {
			return nil, i, api.ErrBad
		}
		words := aWord.FindAllString(line, -1)
		if len(words) == 0 {
			continue
		}
		x, ok := formed(" "+strings.Join(words, " "), l)
		if !ok {
			return nil, i, api.ErrBad
		}
		if len(l) >= 24 {
			return nil, i, api.ErrLimit
		}
		var parts [][]int
		for _, arg := range x.Args {
			parts = append(parts, l[arg].Dims)
		}
		made, e := kernel.Dims(x.Kind, x.N, x.Dims, parts...)
		if e != api.OK {
			return nil, i, e
		}
		x.Dims = made
		l = append(l, x)
	}
	if graph.Check(l) != api.OK {
		return nil, len(lines), api.ErrForm
	}
	return l, 0, api.OK
}

// hold holds what is told of a text against what the document asks, and a graph against its own text; it tells the error.
func hold(t *testing.T, s string) api.Errno {
	t.Helper()
	want, at, err := asked(s)
	l, line, e := text.Read(s)
	if !alike(l, want) || line != at || e != err || e != api.OK && l != nil {
		t.Fatalf("%q: %v, %d, %v, not %v, %d, %v", s, l, line, e, want, at, err)
	}
	if e == api.OK {
		again(t, l)
	}
	return e
}

// again holds a graph against what is read of what is shown of it.
func again(t *testing.T, l []api.Node) {
	t.Helper()
	s, e := text.Show(l)
	if e != api.OK {
		t.Fatalf("%v: %v", l, e)
	}
	m, line, e := text.Read(s)
	if !alike(l, m) || line != 0 || e != api.OK {
		t.Fatalf("%q: %v, %d, %v, not %v", s, m, line, e, l)
	}
	if s2, e := text.Show(m); s2 != s || e != api.OK {
		t.Fatalf("%q, not %q", s2, s)
	}
}

// want holds what is told of a text against the line and the error that are asked; beside each error there is no graph.
func want(t *testing.T, s string, line int, e api.Errno) {
	t.Helper()
	l, x, f := text.Read(s)
	if x != line || f != e || (e == api.OK) != (l != nil) {
		t.Fatalf("%q: %v, %d, %v, not %d, %v", s, l, x, f, line, e)
	}
	hold(t, s)
}

// full is the text of as many nodes as asked for, of one cell each, a line each.
func full(count int) string {
	s := ""
	for i := range count {
		s += fmt.Sprintf("n%d = fill 0 1\n", i)
	}
	return s
}

// P9.1, P9.2: a node of each kind, in a text and out of it.
func TestEachKind(t *testing.T) {
	l, line, e := text.Read(everyText)
	if !alike(l, every()) || line != 0 || e != api.OK {
		t.Errorf("%v, %d, %v", l, line, e)
	}
	s, e := text.Show(every())
	if s != everyText || e != api.OK {
		t.Errorf("%q, %v", s, e)
	}
	hold(t, everyText)
	// The document's example, and the like.
	l, line, e = text.Read("a = fill 5 1")
	if !alike(l, []api.Node{node("a", api.OpFill, 5, d(1))}) || line != 0 || e != api.OK {
		t.Errorf("%v, %d, %v", l, line, e)
	}
	for _, s := range []string{"a = in 1\n", "a = param 1 1\n", "a = fill 0 1 1 1\n", "a = in 1\nb = add a a\n", "in = in 1\nadd = add in in\nneg = neg add\nmax = max neg 1\n"} {
		l, _, e := text.Read(s)
		if x, f := text.Show(l); x != s || e != api.OK || f != api.OK {
			t.Errorf("%q, not %q, %v, %v", x, s, e, f)
		}
		hold(t, s)
	}
}

// P9.1: of each kind a line of too few words, of too many, with each word left out, put twice, and put in another's stead.
func TestWordsOfALine(t *testing.T) {
	lines := strings.SplitAfter(everyText, "\n")
	lines = lines[:len(lines)-1]
	others := []string{"=", "w", "x", "in", "add", "step", "pick", "0", "1", "2", "3", "9", "-1", "-", "-0", "01", "1-", "a-b", "abcdefg", "1a", "1073741824", "1073741825"}
	for i, line := range lines {
		ahead, words := strings.Join(lines[:i], ""), strings.Fields(line)
		for count := range len(words) + 1 {
			hold(t, ahead+strings.Join(words[:count], " "))
			for _, other := range others {
				hold(t, ahead+strings.Join(slices.Insert(slices.Clone(words), count, other), " "))
				if count < len(words) {
					hold(t, ahead+strings.Join(slices.Replace(slices.Clone(words), count, count+1, other), " "))
				}
			}
			if count < len(words) {
				hold(t, ahead+strings.Join(slices.Delete(slices.Clone(words), count, count+1), " "))
			}
		}
		for count := 1; count < len(words); count++ {
			// cut at dims there may be a line of fewer of them
			if e := hold(t, ahead+strings.Join(words[:count], " ")); count < 4 && e != api.ErrBad {
				t.Errorf("%q cut behind word %d: %v", line, count, e)
			}
		}
		for _, more := range []string{" 1 1 1 1", " x", " =", " = in 1", " w w w", " w 1 w"} {
			want(t, ahead+strings.TrimSuffix(line, "\n")+more+"\n", i, api.ErrBad)
		}
	}
	for _, s := range []string{"a", "=", "a =", "a = in", "= in 1", "in 1", "1", "a in 1", "a b in 1", "a = = in 1", "= a in 1", "a in = 1", "a = 1", "a = a", "a = in = 1", "a = in 1 =", "a == in 1", "1 = in 1", "-a = in 1", "a- = in 1", "a = -in 1", "a = in -", "a = fill 1", "a = fill a 1", "a = fill 1 a", "a = fill = 1", "a = in1", "ain = 1", "a = in 1 b = in 1"} {
		want(t, s, 0, api.ErrBad)
	}
	for i, s := range []string{"b = neg", "b = neg a a", "b = neg 1", "b = neg =", "b = add a", "b = add a a a", "b = add a 1", "b = add 1 a", "b = add", "b = scale a", "b = scale 2 a", "b = scale a a", "b = scale 2", "b = scale a 2 2", "b = max a", "b = max 1 a", "b = max a 1 1", "b = shape a", "b = shape 1", "b = shape 1 a", "b = shape a a", "b = wide a", "b = sum a", "b = sum a 1 a", "b = relu a 1", "b = turn a 1", "b = mat a", "b = mat a a 1", "b = in a", "b = param a 1", "b = fill a a"} {
		want(t, "\na = in 1\n"+strings.Repeat("\n", i)+s, 2+i, api.ErrBad)
	}
}

// P9.1: each kind's name in a line, and what is none's, step and pick too.
func TestKindsOfALine(t *testing.T) {
	for _, name := range []string{"step", "pick", "none", "op", "opin", "params", "fil", "adds", "ad", "In", "ιν", "in1", "s", "1", "-", "fillfill", "maxx", "d", "o"} {
		for _, rest := range []string{"", " 1", " 1 1", " a", " a a", " a 1", " a 1 1", " a a 1"} {
			want(t, "a = in 1\nb = "+name+rest+"\n", 1, api.ErrBad)
		}
	}
}

// P9.1: a text of no node, of one, of as many as may be, and of one more.
func TestCounts(t *testing.T) {
	for i, texts := range [][]string{{"", "#", "# a = in 1"}, {"\n", " ", "\t", " #", " \n", "#\n#"}, {"\n ", "\n\n", " \n\t\n#"}, {"\n\n\n", "#\n#\n#\n#"}} {
		for _, s := range texts {
			want(t, s, i, api.ErrForm)
		}
	}
	for count := 1; count <= 40; count++ {
		s := full(count)
		line, e := 0, api.OK
		if count > api.MaxNodes {
			line, e = 24, api.ErrLimit
		}
		want(t, s, line, e)
		want(t, strings.TrimSuffix(s, "\n"), line, e)
		// lines without words count as lines, and not as nodes
		if e != api.OK {
			line = 48
		}
		want(t, strings.ReplaceAll(s, "\n", "\n\n"), line, e)
	}
	l, _, _ := text.Read(full(api.MaxNodes))
	if len(l) != api.MaxNodes || l[23].Name != "n23" {
		t.Errorf("%v", l)
	}
}

// P9.1: of one line first ErrBad, then ErrLimit, then what is told of dims.
func TestOrderInALine(t *testing.T) {
	s := full(api.MaxNodes)
	for _, c := range []struct {
		line string
		e    api.Errno
	}{
		{"", api.OK}, {"\t #", api.OK}, {"z", api.ErrBad}, {"z = ", api.ErrBad}, {"z = in", api.ErrBad}, {"z = in 9", api.ErrLimit}, {"z = in 1 1 1 1", api.ErrBad}, {"n0 = in 1", api.ErrBad}, {"n0 = in 9", api.ErrBad}, {"z = neg n24", api.ErrBad}, {"z = neg n23", api.ErrLimit}, {"z = neg z", api.ErrBad}, {"z = max n0 2", api.ErrLimit}, {"z = max n0 0", api.ErrLimit}, {"z = turn n1", api.ErrLimit}, {"z = fill 1073741825 1", api.ErrBad}, {"z = in 1 ?", api.ErrBad}, {"z = in 1\xff", api.ErrBad}, {"z = in 1 # \xff", api.ErrLimit},
	} {
		line := 0
		if c.e != api.OK {
			line = api.MaxNodes
		}
		want(t, s+c.line, line, c.e)
	}
	const ahead = "a = in 2 3\n"
	for _, c := range []struct {
		line string
		e    api.Errno
	}{
		{"b = in 9 1 1 1", api.ErrBad}, {"a = in 9", api.ErrBad}, {"a = turn a", api.ErrBad}, {"a = add a b", api.ErrBad}, {"b = add a c", api.ErrBad}, {"b = shape a 9 x", api.ErrBad}, {"b = shape a 9", api.ErrForm}, {"b = shape a 5", api.ErrDims}, {"b = wide a 0 0", api.ErrForm}, {"b = wide a 9 9", api.ErrForm}, {"b = wide a 3 3", api.ErrDims}, {"b = sum a 1 9", api.ErrForm}, {"b = sum a 1 2", api.ErrDims}, {"b = sum a 1", api.ErrDims}, {"b = max a 0", api.ErrForm}, {"b = max a 9", api.ErrForm}, {"b = max a -1", api.ErrForm}, {"b = max a 2", api.ErrDims}, {"b = max a 1073741824", api.ErrForm}, {"b = max a 1073741825", api.ErrBad}, {"b = mat a a", api.ErrDims}, {"b = fill 0 0", api.ErrForm}, {"b = in 8 8 2", api.ErrForm}, {"b = in -1", api.ErrForm}, {"b = in 1073741824 1073741824", api.ErrForm}, {"b = in 1073741825", api.ErrBad}, {"b = param 2 0 2", api.ErrForm},
	} {
		want(t, ahead+c.line, 1, c.e)
		want(t, "\n"+ahead+"# "+c.line+"\n"+c.line+"\n", 3, c.e)
	}
}

// P9.1: of two lines with an error the first one is told, whatever the errors are; one behind the last line last.
func TestOrderOfLines(t *testing.T) {
	bad := []struct {
		line string
		e    api.Errno
	}{{"?", api.ErrBad}, {"b = neg c", api.ErrBad}, {"a = in 1", api.ErrBad}, {"b = in 9", api.ErrForm}, {"b = max a 3", api.ErrDims}, {"b = neg b", api.ErrBad}, {"b = in 1\xce", api.ErrBad}}
	for _, first := range bad {
		for _, second := range bad {
			want(t, "a = in 2\n\n"+first.line+"\n"+second.line+"\n", 2, first.e)
		}
		e := first.e
		if e != api.ErrBad {
			e = api.ErrLimit
		}
		want(t, full(23)+"a = in 2\n"+first.line+"\n?", 24, e)
		want(t, "a = in 2\n"+first.line+"\n"+full(24), 1, first.e)
		want(t, "a = in 2\n#"+first.line+"\n", 2, api.ErrForm)
	}
	want(t, "?\n"+strings.Repeat("#", api.MaxText), 0, api.ErrLimit)
}

// P9.1: behind the last line ErrForm, if it is no graph: of a last node of more than one cell too.
func TestLastNode(t *testing.T) {
	for _, c := range []struct {
		dims string
		one  bool
	}{{"1", true}, {"1 1", true}, {"1 1 1", true}, {"2", false}, {"1 2", false}, {"2 1", false}, {"1 1 2", false}, {"8 8", false}, {"2 1 1", false}} {
		for _, s := range []string{"", "a = param 2\n", "\n\na = param 1 # one\n"} {
			at, e := 0, api.OK
			if !c.one {
				at, e = strings.Count(s, "\n")+1, api.ErrForm
			}
			want(t, s+"z = in "+c.dims, at, e)
			want(t, s+"z = in "+c.dims+"\n", at, e)
			want(t, s+"z = in "+c.dims+" # z", at, e)
			if !c.one {
				at += 2
			}
			want(t, s+"z = in "+c.dims+"\n#\n\t", at, e)
			// it is the last one alone that counts
			want(t, s+"z = in "+c.dims+"\ny = fill 0 1", 0, api.OK)
		}
	}
}

// P9.1: texts of up to MaxText bytes, and of one more, whatever they are made of.
func TestTextLengths(t *testing.T) {
	for _, tail := range []string{"#", " ", "\n", "\t", "# α", "#\xff"} {
		for _, size := range d(api.MaxText-1, api.MaxText, api.MaxText+1, 2*api.MaxText) {
			s := everyText + tail
			s += strings.Repeat(tail[len(tail)-1:], size-len(s))
			line, e := 0, api.OK
			if size > 3000 {
				e = api.ErrLimit
			}
			want(t, s, line, e)
		}
	}
	// bytes count, not runes
	greek := everyText + "#" + strings.Repeat("α", 1500)
	want(t, greek, 0, api.ErrLimit)
	want(t, greek[:3000], 0, api.OK)
	want(t, strings.Repeat("\n", 3000), 3000, api.ErrForm)
	want(t, strings.Repeat("\n", 3001), 0, api.ErrLimit)
	want(t, strings.Repeat("a", 3000), 0, api.ErrBad)
	want(t, strings.Repeat("\n", 2999)+"?", 2999, api.ErrBad)
	want(t, "\xff"+strings.Repeat("\n", 3000), 0, api.ErrLimit)
	want(t, strings.Repeat("a = in 1\n", 1<<16), 0, api.ErrLimit)
}

// P9.1: blanks and tabs, of any number or none, remarks, lines without words, and a last line with byte 10 and without.
func TestBlanksAndRemarks(t *testing.T) {
	l := []api.Node{node("a", api.OpFill, -5, d(1, 2)), node("b", api.OpSum, 0, d(1, 1), 0)}
	for _, s := range []string{
		"a = fill -5 1 2\nb = sum a 1 1\n", "a = fill -5 1 2\nb = sum a 1 1", "a=fill -5 1 2\nb=sum a 1 1", "a= fill -5 1 2\nb =sum a 1 1",
		"  a\t=   fill\t\t-5 \t 1   2  \n\t b  =\tsum a  1 1 \t", "\n\n \n\t\na = fill -5 1 2\n \n\nb = sum a 1 1\n\n\n \t \n",
		"# a = fill 5 1\na = fill -5 1 2# 3\n#b\nb = sum a 1 1 ## in 1 # x\n#", "a = fill -5 1 2#\xff\xce no text\nb = sum a 1 1#ÄÖ?\r",
	} {
		got, line, e := text.Read(s)
		if !alike(got, l) || line != 0 || e != api.OK {
			t.Errorf("%q: %v, %d, %v", s, got, line, e)
		}
		hold(t, s)
	}
	for _, s := range []string{"a#b = in 1", "a =# in 1", "a = in # 1", "a = i n 1", "a = fill - 5 1", "a = fill 5 1\r\nb = in 1", "a = fill 5\n1", "a\n= fill 5 1", "a\u00a0= in 1", "a = in 1\v", "a = in 1;b = in 1"} {
		want(t, s, 0, api.ErrBad)
	}
}

// P9.1: of each kind that names dims none of them, one, as many as may be, and one more; and dims at the edges.
func TestDims(t *testing.T) {
	for _, head := range []string{"b = in", "b = param", "b = fill 7", "b = shape a", "b = wide a", "b = sum a"} {
		for count := range 8 {
			e := hold(t, "a = in 1 1 1\n"+head+strings.Repeat(" 1", count))
			if (e == api.ErrBad) != (count < 1 || count > api.MaxDims) {
				t.Errorf("%q: %d dims: %v", head, count, e)
			}
		}
		for a := -1; a <= 9; a++ {
			hold(t, fmt.Sprintf("a = in 8\n%s %d\nz = in 1", head, a))
			for b := -1; b <= 9; b++ {
				hold(t, fmt.Sprintf("a = in 1 4\n%s %d %d\nz = in 1", head, a, b))
				for c := -1; c <= 9; c++ {
					hold(t, fmt.Sprintf("a = in 2 4 8\n%s %d %d %d\nz = in 1", head, a, b, c))
				}
			}
		}
	}
}

// P9.1: names of as many runes as may be, and of one more, Greek ones too; those that are no names.
func TestNames(t *testing.T) {
	for _, name := range []string{"a", "z", "α", "ω", "ς", "abcdef", "αβγδεζ", "a12345", "ω12345", "in", "sum", "max", "step", "σ0a"} {
		want(t, name+" = fill 1 2\nq = sum "+name+" 1", 0, api.OK)
		l, _, _ := text.Read(name + " = fill 1 1")
		if len(l) != 1 || l[0].Name != name {
			t.Errorf("%q: %v", name, l)
		}
	}
	for _, name := range []string{"abcdefg", "αβγδεζη", "a123456", "A", "Α", "Ω", "é", "1", "1a", "-", "-a", "a-", "_", "ϊ", "а", "\u0301", "\ufffd", "a\xff", "\xce", "aé", "a."} {
		want(t, name+" = fill 1 1", 0, api.ErrBad)
		want(t, "a = fill 1 1\nb = neg "+name, 1, api.ErrBad)
		want(t, "a = fill 1 1\nb = add a "+name, 1, api.ErrBad)
	}
	// names that are all but the same
	want(t, "abcdef = in 1\nabcdeg = in 1\nabcde = in 1\nbcdef = in 1\nσ = in 1\nς = in 1\no = in 1\nο = in 1", 0, api.OK)
}

// P9.1: a name that is another node's, whatever the two are; and what it is made of: itself, one behind it, none.
func TestNamesOfOthers(t *testing.T) {
	lines := strings.SplitAfter(everyText, "\n")
	lines = lines[:len(lines)-1]
	for i, line := range lines {
		words := strings.Fields(line)
		for k, other := range lines[:i] {
			same := strings.Fields(other)[0] + line[strings.Index(line, " "):]
			want(t, strings.Join(lines[:i], "")+same, i, api.ErrBad)
			if k == i-1 {
				want(t, strings.Join(lines[:i], "")+"\n#\n"+same, i+2, api.ErrBad)
			}
		}
		for k, w := range words[3:] {
			if isNumber.MatchString(w) {
				continue
			}
			for _, other := range lines[i:] {
				turned := slices.Clone(words)
				turned[3+k] = strings.Fields(other)[0]
				want(t, strings.Join(lines[:i], "")+strings.Join(turned, " ")+"\n"+strings.Join(lines[i+1:], ""), i, api.ErrBad)
			}
			for _, none := range []string{"no", "0", "a", "i", "inn", "ww"} {
				turned := slices.Clone(words)
				turned[3+k] = none
				want(t, strings.Join(lines[:i], "")+strings.Join(turned, " "), i, api.ErrBad)
			}
		}
		// a kind's name is no node's, unless a node has it
		want(t, strings.Join(lines[:i], "")+"z = neg neg", i, api.ErrBad)
	}
}

// P9.1: N of fill and scale up to MaxNum either way, and of max as the kernel lets; beyond MaxNum nothing is a number.
func TestNumbers(t *testing.T) {
	for _, n := range []string{"0", "1", "-1", "1073741823", "1073741824", "-1073741824", "8", "9"} {
		number, _ := strconv.Atoi(n)
		l, _, e := text.Read("a = fill " + n + " 1")
		if !alike(l, []api.Node{node("a", api.OpFill, number, d(1))}) || e != api.OK {
			t.Errorf("%s: %v, %v", n, l, e)
		}
		l, _, e = text.Read("a = in 1\nb = scale a " + n)
		if !alike(l, []api.Node{node("a", api.OpIn, 0, d(1)), node("b", api.OpScale, number, d(1), 0)}) || e != api.OK {
			t.Errorf("%s: %v, %v", n, l, e)
		}
		again(t, l)
		hold(t, "a = in 8\nb = max a "+n+"\nc = sum b 1")
	}
	for _, n := range []string{"1073741825", "-1073741825", "4294967296", "9223372036854775808", "18446744073709551617", strings.Repeat("9", 400), "-0", "00", "01", "-01", "+1", "1.5", "1e3", "0x1", "--1", "1-", "-", "٣", "²", "x"} {
		want(t, "a = fill "+n+" 1", 0, api.ErrBad)
		want(t, "a = in 1\nb = scale a "+n, 1, api.ErrBad)
		want(t, "a = in 1\nb = max a "+n, 1, api.ErrBad)
		want(t, "a = in "+n, 0, api.ErrBad)
		want(t, "a = in 1 "+n, 0, api.ErrBad)
	}
}

// P9.1: bytes that are no UTF-8 text, and runes that no word has, anywhere but in a remark.
func TestBytes(t *testing.T) {
	pieces := []string{"\xff", "\x80", "\xce", "\xb1", "\xe2\x82", "\xc1\xa1", "\xed\xa0\x80", "\xf4\x90\x80\x80", "\ufffd", "A", "Ω", "?", ".", "_", "\r", "\x00", "\u00a0", "\u2003", "é", "\"", "/", ":", "+", "𝛼"}
	const s = "a = in 2\n\nβ1 = max a 2\n\t\n"
	for _, piece := range pieces {
		for i := range len(s) + 1 {
			if !utf8.RuneStart((s + "x")[i]) {
				continue
			}
			e := hold(t, s[:i]+piece+s[i:])
			if e != api.ErrBad {
				t.Fatalf("%q at %d: %v", piece, i, e)
			}
			hold(t, s[:i]+"#"+piece+s[i:])
		}
		want(t, strings.ReplaceAll(s, "\n", "#"+piece+"\n"), 0, api.OK)
	}
	// each byte alone, and a rune cut in two
	for b := range 256 {
		for _, tail := range []string{"", " ", "1", "\n"} {
			hold(t, "a = in 1"+string([]byte{byte(b)})+tail)
			hold(t, string([]byte{byte(b)})+tail+"a = in 1")
		}
	}
	want(t, "a = in 1\n\xce\n\xb1 = in 1", 1, api.ErrBad)
	want(t, "a = in 1\n\xce#\xb1", 1, api.ErrBad)
}

// P9.2: each kind's name, and its number.
func TestKindAndName(t *testing.T) {
	for i, name := range names() {
		if k, e := text.Kind(name); k != i+1 || e != api.OK {
			t.Errorf("%q: %d, %v", name, k, e)
		}
		if s, e := text.Name(i + 1); s != name || e != api.OK {
			t.Errorf("%d: %q, %v", i+1, s, e)
		}
	}
	if s, _ := text.Name(api.OpMax); s != "max" || len(names()) != api.OpMax {
		t.Errorf("%q", s)
	}
	for _, name := range append([]string{"", " ", "step", "pick", "none", "In", "IN", "in ", " in", "i", "inn", "in param", "ιν", "1", "=", "max\n", "\xff", "o", "oo", "od", "nd", "on", "d", strings.Repeat("in", 1<<16)}, strings.Fields("params fil ad ma mats shap summ rel wid scal tur ne su mu")...) {
		if k, e := text.Kind(name); k != 0 || e != api.ErrNone {
			t.Errorf("%q: %d, %v", name, k, e)
		}
	}
	for _, k := range d(api.OpNone, -1, -2, api.OpStep, api.OpPick, api.OpPick+1, 100, 1<<8+1, 1<<32+1, 1<<32+api.OpMax, -1<<32+api.OpIn, math.MinInt, math.MaxInt) {
		if s, e := text.Name(k); s != "" || e != api.ErrNone {
			t.Errorf("%d: %q, %v", k, s, e)
		}
	}
}

// P9.2: a list that is no graph is not shown.
func TestShowOfNoGraph(t *testing.T) {
	turned := func(i int, turn func(x *api.Node)) []api.Node {
		l := every()
		turn(&l[i])
		return l
	}
	var long []api.Node
	for i := range api.MaxNodes + 1 {
		long = append(long, node(fmt.Sprint("n", i), api.OpFill, 0, d(1)))
	}
	for i, l := range [][]api.Node{
		nil, {}, every()[:1], every()[:15], every()[1:], long,
		turned(0, func(x *api.Node) { x.Name = "" }), turned(0, func(x *api.Node) { x.Name = "a b" }), turned(0, func(x *api.Node) { x.Name = "in" }), turned(0, func(x *api.Node) { x.Name = "abcdefg" }),
		turned(9, func(x *api.Node) { x.Kind = api.OpStep }), turned(9, func(x *api.Node) { x.Kind = api.OpPick }), turned(9, func(x *api.Node) { x.Kind = api.OpNone }), turned(9, func(x *api.Node) { x.Kind = math.MaxInt }),
		turned(9, func(x *api.Node) { x.Args = nil }), turned(9, func(x *api.Node) { x.Args = d(9, 9) }), turned(9, func(x *api.Node) { x.Args = d(8, 10) }), turned(9, func(x *api.Node) { x.Args = d(8, -1) }), turned(9, func(x *api.Node) { x.Args = d(8, 8, 8) }),
		turned(9, func(x *api.Node) { x.N = 1 }), turned(9, func(x *api.Node) { x.Dims = nil }), turned(9, func(x *api.Node) { x.Dims = d(3, 2) }), turned(4, func(x *api.Node) { x.N = 1<<30 + 1 }), turned(4, func(x *api.Node) { x.N = math.MinInt }), turned(16, func(x *api.Node) { x.N = -1<<30 - 1 }),
	} {
		if s, e := text.Show(l); s != "" || e != api.ErrForm {
			t.Errorf("%d: %q, %v", i, s, e)
		}
	}
	if s, e := text.Show(long[:api.MaxNodes]); s != full(api.MaxNodes) || e != api.OK {
		t.Errorf("%q, %v", s, e)
	}
}

// dice tells numbers from 0 to below n, the same ones each time it is made of the same seed.
func dice(seed uint64) func(n int) int {
	return func(n int) int {
		seed = seed*6364136223846793005 + 1442695040888963407
		return int(seed>>33) % n
	}
}

// grownLine tells a line of any kind, its names and numbers by the dice: it need not go behind those of l.
func grownLine(l []api.Node, roll func(int) int) string {
	some := func() string {
		if len(l) == 0 {
			return "x"
		}
		return l[roll(len(l))].Name
	}
	dims := func() string { return strings.Repeat(" "+strconv.Itoa(1+roll(3)), 1+roll(2)) }
	s := fmt.Sprintf("%c%d = ", []rune("abxyαω")[roll(6)], roll(40))
	switch kind := names()[roll(15)]; kind {
	case "in", "param":
		return s + kind + dims()
	case "fill":
		return s + kind + " " + strconv.Itoa((roll(9)-4)<<28) + dims()
	case "scale", "max":
		return s + kind + " " + some() + " " + strconv.Itoa(1+roll(3))
	case "shape", "wide", "sum":
		return s + kind + " " + some() + dims()
	case "add", "sub", "mul", "mat":
		return s + kind + " " + some() + " " + some()
	default:
		return s + kind + " " + some()
	}
}

// grown makes texts of graphs of all sizes, each third one full: line by line whatever goes, then a loss.
func grown(count int) []string {
	roll := dice(9)
	var all []string
	for i := range count {
		s, l, most := "", []api.Node(nil), api.MaxNodes-1
		if i%3 > 0 {
			most = 1 + roll(most)
		}
		for len(l) < most {
			line := grownLine(l, roll) + []string{"\n", " \n", "\n\n", " # b\n"}[roll(4)]
			// A loss behind it shows whether the line goes.
			m, _, e := asked(s + line + "loss = in 1")
			if e == api.OK {
				s, l = s+line, m[:len(m)-1]
			}
		}
		last := l[len(l)-1]
		all = append(all, s+"loss = sum "+last.Name+strings.Repeat(" 1", len(last.Dims))+"\n")
	}
	return all
}

// spoiled turns one thing of a text: a byte, a word, a line.
func spoiled(s string, roll func(int) int) string {
	lines, at := strings.SplitAfter(s, "\n"), roll(len(s))
	i, k := roll(len(lines)), roll(len(lines))
	words := strings.Split(s, " ")
	w, v := roll(len(words)), roll(len(words))
	switch roll(10) {
	case 0:
		return s[:at] + s[at+1:]
	case 1:
		return s[:at] + string([]byte{byte(roll(256))}) + s[at:]
	case 2:
		return s[:at] + []string{" ", "\n", "=", "#", "\t", "1", "9", "-", "a", "α"}[roll(10)] + s[at:]
	case 3:
		lines[i], lines[k] = lines[k], lines[i]
		return strings.Join(lines, "")
	case 4:
		return strings.Join(slices.Delete(lines, i, i+1), "")
	case 5:
		return strings.Join(slices.Insert(lines, i, lines[k]), "")
	case 6:
		return strings.Join(slices.Insert(lines, i, "z = fill 1 1\n"), "")
	case 7:
		words[w] = words[v]
	case 8:
		words[w] = []string{"0", "2", "3", "9", "-1", "1073741825", "a0", "loss", "step", "max", "in"}[roll(11)]
	case 9:
		words = slices.Delete(words, w, w+1)
	}
	return strings.Join(words, " ")
}

// P9.1, P9.3: of grown texts, and of ones with one thing turned, what the document's sentences say.
func TestGrownAndSpoiled(t *testing.T) {
	roll := dice(31)
	seen := map[api.Errno]int{}
	for _, s := range grown(300) {
		if e := hold(t, s); e != api.OK {
			t.Fatalf("%q: %v", s, e)
		}
		for range 60 {
			seen[hold(t, spoiled(s, roll))]++
		}
	}
	for _, e := range []api.Errno{api.OK, api.ErrBad, api.ErrForm, api.ErrDims, api.ErrLimit} {
		if seen[e] < 50 {
			t.Errorf("too few of a sort: %v", seen)
		}
	}
	if len(seen) != 5 {
		t.Errorf("%v", seen)
	}
}

// P9.3: the longest text that a graph has is read: long names, long numbers.
func TestReadOfShowOfTheLongest(t *testing.T) {
	var l []api.Node
	for i := range api.MaxNodes {
		name := strings.Repeat("ω", 5) + string(rune('α'+i))
		switch {
		case i == 0:
			l = append(l, node(name, api.OpParam, 0, d(1, 1, 1)))
		case i%2 == 0:
			l = append(l, node(name, api.OpScale, -1<<30, d(1, 1, 1), i-1))
		default:
			l = append(l, node(name, api.OpSub, 0, d(1, 1, 1), i-1, 0))
		}
	}
	again(t, l)
	again(t, every())
	for i := range every() {
		m := append(every()[:i+1], node("z", api.OpFill, 0, d(1)))
		again(t, m)
	}
}

// soil writes all over a list, and over its spare room.
func soil(x []int) {
	x = x[:cap(x)]
	for i := range x {
		x[i] = -99
	}
}

// R2: the lists of an answer are new memory, their spare room too: none shares any with another.
func TestListsAreNew(t *testing.T) {
	const s = "a = in 2 3\nb = shape a 3 2\nc = shape b 6\nd = mul c c\ne = sum d 1\nf = in 1\ng = add e f"
	whole, _, _ := text.Read(s)
	if len(whole) != 7 {
		t.Fatal(whole)
	}
	for i := range whole {
		for _, which := range d(0, 1) {
			l, _, _ := text.Read(s)
			if which == 0 {
				soil(l[i].Args)
				l[i].Args = slices.Clone(whole[i].Args)
			} else {
				soil(l[i].Dims)
				l[i].Dims = slices.Clone(whole[i].Dims)
			}
			again, _, e := text.Read(s)
			if !alike(l, whole) || !alike(again, whole) || e != api.OK {
				t.Errorf("%d, %d: %v, %v", i, which, l, again)
			}
		}
	}
	l, _, _ := text.Read(s)
	clear(l[:cap(l)])
	if l, _, e := text.Read(s); !alike(l, whole) || e != api.OK {
		t.Errorf("%v", l)
	}
}

// R2: a text that is told, and the names of what is told, stand alone, whatever becomes of the bytes that were handed in.
func TestTextsStandAlone(t *testing.T) {
	b := []byte(everyText)
	l, _, _ := text.Read(unsafe.String(&b[0], len(b)))
	clear(b)
	if !alike(l, every()) {
		t.Errorf("%v", l)
	}
	b = []byte("loss")
	s, _ := text.Show([]api.Node{node(unsafe.String(&b[0], len(b)), api.OpIn, 0, d(1))})
	clear(b)
	if s != "loss = in 1\n" {
		t.Errorf("%q", s)
	}
	b = []byte("relu")
	k, _ := text.Kind(unsafe.String(&b[0], len(b)))
	clear(b)
	if s, e := text.Name(k); s != "relu" || e != api.OK {
		t.Errorf("%q, %v", s, e)
	}
}

// R2: Show changes nothing of what is handed in, neither its spare room, whether it is a graph or not; nil and empty are one.
func TestShowChangesNothing(t *testing.T) {
	spare := func(l []int) []int { return append(slices.Grow(slices.Clone(l), 3), 71, 72, 73)[:len(l)] }
	bad := every()
	bad[9].Dims = d(3, 2)
	for _, l := range [][]api.Node{every(), bad} {
		l = append(copied(l), node("behind", 5, 5, d(5), 5))[:len(l)]
		for i := range l {
			l[i].Args, l[i].Dims = spare(l[i].Args), spare(l[i].Dims)
		}
		before := copied(l)
		text.Show(l)
		for _, x := range l {
			for _, y := range [][]int{x.Args, x.Dims} {
				if more := y[len(y) : len(y)+3]; !slices.Equal(more, d(71, 72, 73)) {
					t.Fatalf("%v: %v", x, more)
				}
			}
		}
		if behind := l[:len(l)+1][len(l)]; !alike(l, before) || behind.Name != "behind" || behind.Kind != 5 {
			t.Errorf("the nodes were changed")
		}
	}
	l := every()
	for i, x := range l {
		if len(x.Args) == 0 {
			l[i].Args = []int{}
		}
	}
	if s, e := text.Show(l); s != everyText || e != api.OK {
		t.Errorf("%q, %v", s, e)
	}
}
