package word_test

import (
	"fmt"
	"math"
	"slices"
	"strconv"
	"strings"
	"testing"
	"unicode/utf8"
	"unsafe"

	"gradus/api"
	"gradus/word"
)

// letters are all that the document calls so, one by one; sigma has two forms, and both are letters.
const letters = "abcdefghijklmnopqrstuvwxyzαβγδεζηθικλμνξοπρςστυφχψω"

const tens = "0123456789"

// sign and gaps are what else may stand in a line.
const (
	sign = "-="
	gaps = " \t"
)

// texts goes through all texts made of up to most of the pieces.
func texts(most int, pieces []string, yield func(string)) {
	yield("")
	if most == 0 {
		return
	}
	for _, p := range pieces {
		texts(most-1, pieces, func(s string) { yield(p + s) })
	}
}

// runes goes through all numbers that a rune can have, as texts: those that none may have (surrogates) are no UTF-8 text.
func runes(yield func(rune, string)) {
	for r := rune(0); r <= utf8.MaxRune; r++ {
		s := string(r)
		if r >= 0xd800 && r <= 0xdfff {
			s = string([]byte{0xed, byte(0x80 | r>>6&0x3f), byte(0x80 | r&0x3f)})
		}
		yield(r, s)
	}
}

// noText is bytes that are no UTF-8 text: a byte alone, a rune cut off, one written too long, a surrogate, one beyond the last.
func noText() []string {
	return []string{"\xff", "\x80", "\xce", "\xb1", "\xe2\x82", "\xf0\x9f\x98", "\xc0\xaf", "\xc1\xa1", "\xe0\x8e\xb1", "\xed\xa0\x80", "\xf4\x90\x80\x80", "\xfe"}
}

// within tells whether s is all of it made of runes of these.
func within(s, set string) bool {
	return utf8.ValidString(s) && strings.Trim(s, set) == ""
}

// isName is the document's sentence about names.
func isName(s string) bool {
	n := utf8.RuneCountInString(s)
	if n < 1 || n > 6 || !utf8.ValidString(s) {
		return false
	}
	_, size := utf8.DecodeRuneInString(s)
	return within(s[:size], letters) && within(s[size:], letters+tens)
}

// wantName holds Name against what is asked.
func wantName(t *testing.T, s string, ok bool) {
	t.Helper()
	want := api.ErrForm
	if ok {
		want = api.OK
	}
	if e := word.Name(s); e != want {
		t.Fatalf("Name(%q): %v, not %v", s, e, want)
	}
}

// P7.1: the letters are those of the document: a to z, α to ω; the runes just outside are none.
func TestNameLettersAtTheEdges(t *testing.T) {
	if utf8.RuneCountInString(letters) != 26+25 {
		t.Fatal("letters are lacking")
	}
	for _, s := range []string{"a", "z", "α", "ω", "ς", "\u03b1", "\u03c9", "az", "αω", "zα0", "x9"} {
		wantName(t, s, true)
	}
	for _, s := range []string{"`", "{", "ΰ", "ϊ", "\u03b0", "\u03ca", "A", "Z", "Α", "Ω", "0", "9", "/", ":", "-", "=", " ", "\t", "\n", "#", "_", "\x00", "\ufffd", "é", "а"} {
		wantName(t, s, false)
	}
	for _, s := range []string{"a/", "a:", "a`", "a{", "a\u03b0", "a\u03ca", "a-", "a=", "a ", " a", "a\t", "a\n", "a\r", "a#", "a\x00", "a\u0301", "a٣", "a½", "a²"} {
		wantName(t, s, false)
	}
}

// P7.1: any rune, as the first one, and as another.
func TestNameOfAnyRune(t *testing.T) {
	runes(func(r rune, s string) {
		wantName(t, s, strings.ContainsRune(letters, r))
		wantName(t, "a"+s, strings.ContainsRune(letters+tens, r))
		wantName(t, "α0"+s+"b", strings.ContainsRune(letters+tens, r))
	})
}

// P7.1: of no rune, one, as many as may be, and one more, whether of one byte or of two.
func TestNameLengths(t *testing.T) {
	wantName(t, "", false)
	for _, s := range []string{"a", "α", "ω", "z"} {
		for n := range 20 {
			wantName(t, strings.Repeat(s, n), n >= 1 && n <= api.MaxName)
			wantName(t, s+strings.Repeat("7", n), n < api.MaxName)
			wantName(t, strings.Repeat("7", n)+s, n == 0)
			wantName(t, strings.Repeat(s, n)+"\xff", false)
		}
	}
	wantName(t, "aαbβcγ", true)
	wantName(t, "aαbβcγ0", false)
	wantName(t, strings.Repeat("a", 1<<20), false)
}

// P7.1: all short texts, those among them that are no UTF-8 text.
func TestNameOfShortTexts(t *testing.T) {
	texts(7, []string{"a", "ω", "0", "\xce", "-"}, func(s string) { wantName(t, s, isName(s)) })
	for a := range 256 {
		for b := range 256 {
			for _, s := range []string{string([]byte{byte(a)}), string([]byte{byte(a), byte(b)}), string([]byte{'a', byte(a), byte(b)})} {
				wantName(t, s, isName(s))
			}
		}
	}
	for _, s := range noText() {
		for _, ahead := range []string{"", "a", "α", "abcde", "abcdef"} {
			wantName(t, ahead+s, false)
			wantName(t, ahead+s+"a", false)
		}
	}
}

// wantNumber holds Number against what is asked: the number, or none.
func wantNumber(t *testing.T, s string, n int, ok bool) {
	t.Helper()
	want := api.OK
	if !ok {
		n, want = 0, api.ErrForm
	}
	if x, e := word.Number(s); x != n || e != want {
		t.Fatalf("Number(%q): %d, %v, not %d, %v", s, x, e, n, want)
	}
}

// P7.1: a text is a number, if it is just the one that its number is written as.
func TestNumberOfShortTexts(t *testing.T) {
	texts(5, []string{"-", "0", "1", "9", "+", " ", "a", "\xff", "١"}, func(s string) {
		n, err := strconv.Atoi(s)
		wantNumber(t, s, n, err == nil && strconv.Itoa(n) == s)
	})
}

// P7.1: the edges: 0, -0, zeros ahead, the least and the greatest, and one beyond each.
func TestNumberAtTheEdges(t *testing.T) {
	for s, n := range map[string]int{
		"0": 0, "1": 1, "-1": -1, "9": 9, "-9": -9, "10": 10, "100": 100, "-10": -10, "1073741823": 1<<30 - 1,
		"1073741824": 1 << 30, "-1073741823": 1 - 1<<30, "-1073741824": -1 << 30, "999999999": 999999999, "1000000000": 1000000000,
	} {
		wantNumber(t, s, n, true)
	}
	for _, s := range []string{
		"", "-", "--", "-0", "00", "000", "01", "-01", "-00", "0-", "0-1", "1-1", "+0", "+1", "--1", "-+1", "-1-",
		"1073741825", "-1073741825", "1073741830", "2147483648", "4294967296", "9999999999", "10737418240", "01073741824", "-01",
		"9223372036854775807", "9223372036854775808", "-9223372036854775808", "18446744073709551615", "18446744073709551616",
		"18446744073709551617", "-18446744073709551617", "340282366920938463463374607431768211457", "184467440737095516160",
		"0x1", "1e3", "1.0", "1_0", "0b1", "0o7", " 1", "1 ", "\t1", "1\n", "a", "1a", "a1", "½", "²", "٣", "1٣", "−1", "１",
	} {
		wantNumber(t, s, 0, false)
	}
	wantNumber(t, strings.Repeat("9", 1<<20), 0, false)
	wantNumber(t, "-"+strings.Repeat("1", 1<<20), 0, false)
	wantNumber(t, strings.Repeat("0", 1<<20), 0, false)
	// As many zeros as bring a number that wraps around to 0 again.
	for n := 10; n < 100; n++ {
		wantNumber(t, "1"+strings.Repeat("0", n), 0, false)
	}
}

// P7.1: no rune but the ten is a digit, wherever it stands.
func TestNumberOfAnyRune(t *testing.T) {
	runes(func(r rune, s string) {
		ten := r >= '0' && r <= '9'
		n := int(r - '0')
		wantNumber(t, s, n, ten)
		wantNumber(t, "1"+s, 10+n, ten)
		wantNumber(t, "-2"+s+"3", -203-10*n, ten)
	})
	for _, s := range noText() {
		wantNumber(t, s, 0, false)
		wantNumber(t, "1"+s, 0, false)
		wantNumber(t, "-"+s, 0, false)
	}
}

// numbers are the edges, and numbers of all lengths between them.
func numbers() []int {
	l := []int{0, 1, -1, 9, 10, 11, -9, -10, -11}
	for n := 1; n <= api.MaxNum; n *= 2 {
		l = append(l, n-1, n, n/3*2, -n, 1-n)
	}
	for n := 1; n <= api.MaxNum; n *= 10 {
		l = append(l, n-1, n, n+1, -n, 1-n, -1-n)
	}
	seed := uint64(1)
	for range 20000 {
		seed = seed*6364136223846793005 + 1442695040888963407
		l = append(l, int(seed>>33)%(api.MaxNum+1), -(int(seed>>33) % 2000))
	}
	return append(l, api.MaxNum, -api.MaxNum, api.MaxNum-1, 1-api.MaxNum)
}

// P7.1: Digits tells a number's text.
func TestDigits(t *testing.T) {
	for _, n := range numbers() {
		if s, e := word.Digits(n); s != fmt.Sprint(n) || e != api.OK {
			t.Fatalf("Digits(%d): %q, %v", n, s, e)
		}
	}
	for _, n := range []int{api.MaxNum + 1, -api.MaxNum - 1, 1 << 31, 1 << 32, -1 << 31, -1 << 32, 1<<32 + 1, math.MaxInt, math.MinInt, math.MinInt + 1} {
		if s, e := word.Digits(n); s != "" || e != api.ErrForm {
			t.Errorf("Digits(%d): %q, %v", n, s, e)
		}
	}
}

// P7.3: Number of Digits is it, and Digits of Number, too.
func TestNumberOfDigits(t *testing.T) {
	for _, n := range numbers() {
		s, e1 := word.Digits(n)
		x, e2 := word.Number(s)
		if x != n || e1 != api.OK || e2 != api.OK {
			t.Fatalf("%d: %q, %v; %d, %v", n, s, e1, x, e2)
		}
	}
	texts(4, []string{"-", "0", "1", "7", "99"}, func(s string) {
		n, e := word.Number(s)
		if e != api.OK {
			return
		}
		if back, e := word.Digits(n); back != s || e != api.OK {
			t.Fatalf("%q: %d, %q, %v", s, n, back, e)
		}
	})
}

// badAt tells where the first byte is that may not be in a line, or -1.
func badAt(s string) int {
	for at := 0; at < len(s); {
		_, size := utf8.DecodeRuneInString(s[at:])
		if !within(s[at:at+size], letters+tens+sign+gaps) {
			return at
		}
		at += size
	}
	return -1
}

// wantBad holds Words against what is asked of a line that is bad at a place.
func wantBad(t *testing.T, s string, place int) {
	t.Helper()
	if l, at, e := word.Words(s); l != nil || at != place || e != api.ErrBad {
		t.Fatalf("Words(%q): %v, %d, %v, not bad at %d", s, l, at, e, place)
	}
}

// wantWords holds Words against the sentence of the document: what it tells leaves nothing but blanks and tabs,
// and no two words that stand side by side could be one.
func wantWords(t *testing.T, s string) {
	t.Helper()
	l, at, e := word.Words(s)
	if at != 0 || e != api.OK {
		t.Fatalf("Words(%q): %v, %d, %v", s, l, at, e)
	}
	end := 0
	for i, w := range l {
		to := w.At + len(w.Text)
		if w.Text == "" || w.At < end || to > len(s) || s[w.At:to] != w.Text || !within(s[end:w.At], gaps) {
			t.Fatalf("Words(%q): %v", s, l)
		}
		if w.Text != "=" && !within(w.Text, letters+tens+"-") {
			t.Fatalf("Words(%q): %v: %q is no word", s, l, w.Text)
		}
		if i > 0 && w.At == end && w.Text != "=" && l[i-1].Text != "=" {
			t.Fatalf("Words(%q): %v: a word is cut", s, l)
		}
		end = to
	}
	if !within(s[end:], gaps) {
		t.Fatalf("Words(%q): %v: some is left out", s, l)
	}
}

// P7.2: lines, and their words.
func TestWordsOfLines(t *testing.T) {
	for s, want := range map[string][]api.Token{
		"":                 nil,
		" ":                nil,
		"\t \t":            nil,
		"a":                {{Text: "a", At: 0}},
		"a=b":              {{Text: "a", At: 0}, {Text: "=", At: 1}, {Text: "b", At: 2}},
		"  a\t=  b ":       {{Text: "a", At: 2}, {Text: "=", At: 4}, {Text: "b", At: 7}},
		"αβ = γω":          {{Text: "αβ", At: 0}, {Text: "=", At: 5}, {Text: "γω", At: 7}},
		"=":                {{Text: "=", At: 0}},
		" = ":              {{Text: "=", At: 1}},
		"===":              {{Text: "=", At: 0}, {Text: "=", At: 1}, {Text: "=", At: 2}},
		"=a":               {{Text: "=", At: 0}, {Text: "a", At: 1}},
		"a=":               {{Text: "a", At: 0}, {Text: "=", At: 1}},
		"=α=":              {{Text: "=", At: 0}, {Text: "α", At: 1}, {Text: "=", At: 3}},
		"a ==b":            {{Text: "a", At: 0}, {Text: "=", At: 2}, {Text: "=", At: 3}, {Text: "b", At: 4}},
		"-":                {{Text: "-", At: 0}},
		"--=-":             {{Text: "--", At: 0}, {Text: "=", At: 2}, {Text: "-", At: 3}},
		"a-b 0-1":          {{Text: "a-b", At: 0}, {Text: "0-1", At: 4}},
		"9z -07 zzzzzzzzz": {{Text: "9z", At: 0}, {Text: "-07", At: 3}, {Text: "zzzzzzzzz", At: 7}},
		"c = fill -5 2 3":  {{Text: "c", At: 0}, {Text: "=", At: 2}, {Text: "fill", At: 4}, {Text: "-5", At: 9}, {Text: "2", At: 12}, {Text: "3", At: 14}},
	} {
		if l, at, e := word.Words(s); !slices.Equal(l, want) || at != 0 || e != api.OK {
			t.Errorf("Words(%q): %v, %d, %v, not %v", s, l, at, e, want)
		}
	}
}

// P7.2: all short lines, good and bad ones.
func TestWordsOfShortLines(t *testing.T) {
	texts(5, []string{"a", "ω", "7", "-", "=", " ", "\t", "#", "\xce", "\xb1"}, func(s string) {
		if at := badAt(s); at >= 0 {
			wantBad(t, s, at)
		} else {
			wantWords(t, s)
		}
	})
}

// P7.2: any rune, alone, ahead of words, and behind them.
func TestWordsOfAnyRune(t *testing.T) {
	runes(func(r rune, s string) {
		if strings.ContainsRune(letters+tens+sign+gaps, r) {
			wantWords(t, s)
			wantWords(t, "α"+s+"= b"+s)
			return
		}
		wantBad(t, s, 0)
		wantBad(t, s+" a = b", 0)
		wantBad(t, "α = b"+s+s, 6)
	})
}

// P7.2: bytes that are no UTF-8 text, alone, and behind other words; of several that are bad the first one is told.
func TestWordsOfNoText(t *testing.T) {
	for _, s := range noText() {
		for _, ahead := range []string{"", " ", "a", "a = ", "α", "αω=", "\t-1 ", strings.Repeat("ω ", 2000)} {
			for _, behind := range []string{"", " ", "a", "=", " a = b", "A", "\xff"} {
				wantBad(t, ahead+s+behind, len(ahead))
				wantBad(t, ahead+"#"+s+behind, len(ahead))
				wantBad(t, ahead+"é"+s+behind, len(ahead))
			}
		}
	}
	for s, at := range map[string]int{"A": 0, "a\n": 1, "a\r": 1, "a b#": 3, "α α.": 5, "\u00a0": 0, "a\u2003b": 1, "\ufeffa": 0, "a\x00": 1, "\v": 0, "+1": 0, "a = b \f": 6, "\ufffd": 0, "ωω\ufffd\xff": 4} {
		wantBad(t, s, at)
	}
}

// P7.2: a line may be of any length.
func TestWordsOfLongLines(t *testing.T) {
	l, at, e := word.Words(strings.Repeat("α=", 100000))
	if len(l) != 200000 || l[199999] != (api.Token{Text: "=", At: 299999}) || l[199998] != (api.Token{Text: "α", At: 299997}) || at != 0 || e != api.OK {
		t.Errorf("%d words, %d, %v", len(l), at, e)
	}
	long := strings.Repeat("ω", 1<<20)
	l, at, e = word.Words(long)
	if len(l) != 1 || l[0] != (api.Token{Text: long, At: 0}) || at != 0 || e != api.OK {
		t.Errorf("%d words, %d, %v", len(l), at, e)
	}
	wantBad(t, long+"!", 2<<20)
}

// lines are those of a text, byte by byte, as the document says it.
func lines(s string) []string {
	l := []string{""}
	remark := false
	for _, b := range []byte(s) {
		switch {
		case b == 10:
			l, remark = append(l, ""), false
		case b == '#' || remark:
			remark = true
		default:
			l[len(l)-1] += string([]byte{b})
		}
	}
	if l[len(l)-1] == "" {
		l = l[:len(l)-1]
	}
	return l
}

// wantLines holds Lines against what is asked.
func wantLines(t *testing.T, s string, want []string) {
	t.Helper()
	if l, e := word.Lines(s); !slices.Equal(l, want) || e != api.OK {
		t.Fatalf("Lines(%q): %q, %v, not %q", s, l, e, want)
	}
}

// P7.2: texts, and their lines: the last one, if it is empty, or empty up to its #, is none; others are told, also empty ones.
func TestLinesOfTexts(t *testing.T) {
	for s, want := range map[string][]string{
		"":                 nil,
		"\n":               {""},
		"\n\n":             {"", ""},
		"a":                {"a"},
		"a\n":              {"a"},
		"a\n\n":            {"a", ""},
		"\na":              {"", "a"},
		"a\nb":             {"a", "b"},
		"a\n ":             {"a", " "},
		"a\n\t\n":          {"a", "\t"},
		"#":                nil,
		"# a":              nil,
		" #":               {" "},
		"#\n":              {""},
		"##\n#":            {""},
		"a#":               {"a"},
		"a # b # c":        {"a "},
		"a\n#b":            {"a"},
		"a\n#b\n":          {"a", ""},
		"a#b\nc#d\ne":      {"a", "c", "e"},
		"a\r\nb\r":         {"a\r", "b\r"},
		"A!\xff\n\xce#é\n": {"A!\xff", "\xce"},
		"\xce\nα\u2028β":   {"\xce", "α\u2028β"},
		"a = in 2 3 # x\n": {"a = in 2 3 "},
	} {
		wantLines(t, s, want)
	}
}

// P7.2: all short texts; what is no UTF-8 text, or no word, is looked at by Words alone.
func TestLinesOfShortTexts(t *testing.T) {
	texts(7, []string{"a", "#", "\n", " ", "\xce"}, func(s string) { wantLines(t, s, lines(s)) })
	for b := range 256 {
		one := string([]byte{byte(b)})
		for _, s := range []string{one, "a" + one, one + "a", "a" + one + "b\n" + one + "#" + one} {
			wantLines(t, s, lines(s))
		}
	}
}

// P7.2: a text of just MaxText bytes has lines, one of a byte more has none, whatever it is made of.
func TestLinesLimit(t *testing.T) {
	for _, s := range []string{"a", "\n", "#", " ", "\xff", "a = b#\n"} {
		text := strings.Repeat(s, api.MaxText)[:api.MaxText]
		wantLines(t, text, lines(text))
		for _, more := range []string{"a", "\n", "#", "α", text} {
			if l, e := word.Lines(text + more); l != nil || e != api.ErrLimit {
				t.Errorf("%q and %q more: %d lines, %v", s, more, len(l), e)
			}
		}
	}
	// Bytes are counted, not runes.
	half := strings.Repeat("α", api.MaxText/2)
	wantLines(t, half, []string{half})
	if l, e := word.Lines(half + "α"); l != nil || e != api.ErrLimit {
		t.Errorf("%q, %v", l, e)
	}
	// What is cut off counts, too.
	if l, e := word.Lines("a#" + strings.Repeat("x", api.MaxText-1)); l != nil || e != api.ErrLimit {
		t.Errorf("%q, %v", l, e)
	}
}

// R2: whoever writes into an answer, its spare room too, changes no other answer.
func TestAnswersAreCopies(t *testing.T) {
	const line, text = "a = αω -1", "a\n# b\nc #\n\nd\n\n#"
	for range 3 {
		x, _, _ := word.Words(line)
		y, _, _ := word.Words(line)
		if fmt.Sprint(y) != "[{a 0} {= 2} {αω 4} {-1 9}]" {
			t.Fatal(y)
		}
		for i := range x[:cap(x)] {
			x[:cap(x)][i] = api.Token{Text: "spoiled", At: 99}
		}
		if fmt.Sprint(y) != "[{a 0} {= 2} {αω 4} {-1 9}]" {
			t.Fatal("two answers of Words share memory")
		}
		p, _ := word.Lines(text)
		q, _ := word.Lines(text)
		if !slices.Equal(q, lines(text)) {
			t.Fatalf("%q", q)
		}
		for i := range p[:cap(p)] {
			p[:cap(p)][i] = "spoiled"
		}
		if !slices.Equal(q, lines(text)) {
			t.Fatal("two answers of Lines share memory")
		}
	}
}

// R2: an answer keeps nothing of what was handed in, also where that is a text.
func TestAnswersStandAlone(t *testing.T) {
	given := func(s string) ([]byte, string) {
		b := []byte(s)
		return b, unsafe.String(&b[0], len(b))
	}
	b, s := given("ab = αω")
	l, _, _ := word.Words(s)
	clear(b)
	if fmt.Sprint(l) != "[{ab 0} {= 3} {αω 5}]" {
		t.Errorf("%v", l)
	}
	b, s = given("a\nb # c\n\nd")
	m, _ := word.Lines(s)
	clear(b)
	if !slices.Equal(m, []string{"a", "b ", "", "d"}) {
		t.Errorf("%q", m)
	}
}
