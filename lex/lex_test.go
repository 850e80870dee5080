package lex_test

import (
	"fmt"
	"math/rand/v2"
	"regexp"
	"slices"
	"strings"
	"testing"

	"lottery/api"
	"lottery/lex"
)

// piece has a group for what is skipped, and one for each kind of tokens, in the order of the kinds.
var piece = regexp.MustCompile(`^(?:([ \t\r\n]+|#[^\n]*)|([a-z][a-z0-9-]*)|([0-9]+)|([{};:]))`)

// malformed is a number that is too long or has a leading zero.
var malformed = regexp.MustCompile(`^(?:[0-9]{19,}|0[0-9]+)$`)

// place is the token of a kind at the offset at, with its line and its column counted from the beginning of the text.
func place(s string, at, kind int, text string) api.Token {
	lines := strings.Split(s[:at], "\n")
	return api.Token{Kind: kind, Line: len(lines), Col: len(lines[len(lines)-1]) + 1, Text: text}
}

// model is Scan by regular expressions.
func model(s string) ([]api.Token, api.Errno, int) {
	if len(s) > api.MaxText {
		return nil, api.ErrLimit, 0
	}
	l := []api.Token{}
	at := 0
	for at < len(s) {
		m := piece.FindStringSubmatchIndex(s[at:])
		if m == nil || malformed.MatchString(s[at:at+m[1]]) {
			return nil, api.ErrSyntax, at
		}
		for kind := api.TokWord; kind <= api.TokMark; kind++ {
			if m[2+2*kind] >= 0 {
				l = append(l, place(s, at, kind, s[at:at+m[1]]))
			}
		}
		at += m[1]
	}
	return append(l, place(s, at, api.TokEnd, "")), api.OK, 0
}

// joined is Join from its end on, so that the last token is the first one that is looked at.
func joined(l []api.Token) string {
	if end := slices.IndexFunc(l, func(t api.Token) bool { return t.Kind == api.TokEnd }); end >= 0 {
		l = l[:end]
	}
	out, space := "", ""
	for i := len(l) - 1; i >= 0; i-- {
		behind := space
		if l[i].Kind == api.TokMark && slices.Contains([]string{"{", "}", ";"}, l[i].Text) {
			behind = "\n"
		}
		out = l[i].Text + behind + out
		space = " "
	}
	return out
}

// brief is the text of a list of tokens: kind, position and text of each.
func brief(l []api.Token) string {
	out := []string{}
	for _, t := range l {
		out = append(out, fmt.Sprintf("%d@%d:%d%q", t.Kind, t.Line, t.Col, t.Text))
	}
	return strings.Join(out, " ")
}

// check compares Scan with the model, twice.
func check(t *testing.T, s string) {
	t.Helper()
	want, e, at := model(s)
	for range 2 {
		l, e1, at1 := lex.Scan(s)
		if !slices.Equal(l, want) || e1 != e || at1 != at {
			t.Fatalf("Scan(%.200q): %.300s, %d, %d, not %.300s, %d, %d", s, brief(l), int(e1), at1, brief(want), int(e), at)
		}
	}
}

// accept expects tokens, each written as brief does.
func accept(t *testing.T, s string, want ...string) {
	t.Helper()
	l, e, at := lex.Scan(s)
	if brief(l) != strings.Join(want, " ") || e != api.OK || at != 0 {
		t.Errorf("Scan(%.200q): %.300s, %d, %d, not %.300q", s, brief(l), int(e), at, want)
	}
	check(t, s)
}

// refuse expects ErrSyntax, an offset and no tokens.
func refuse(t *testing.T, s string, want int) {
	t.Helper()
	if l, e, at := lex.Scan(s); len(l) != 0 || e != api.ErrSyntax || at != want {
		t.Errorf("Scan(%.200q): %d tokens, %d, %d, not ErrSyntax, %d", s, len(l), int(e), at, want)
	}
	check(t, s)
}

// content is a list of tokens as their kinds and texts alone.
func content(l []api.Token) []api.Token {
	out := []api.Token{}
	for _, t := range l {
		out = append(out, api.Token{Kind: t.Kind, Text: t.Text})
	}
	return out
}

// words are tokens of the kind TokWord.
func words(texts ...string) []api.Token {
	l := []api.Token{}
	for _, s := range texts {
		l = append(l, api.Token{Kind: api.TokWord, Text: s})
	}
	return l
}

// mark is a token of the kind TokMark.
func mark(s string) api.Token {
	return api.Token{Kind: api.TokMark, Text: s}
}

// fragments are what random texts are made of.
var fragments = []string{
	"a", "z", "q7", "a-", "a--1", "game", "0", "7", "42", "999999999999999999", "{", "}", ";", ":",
	" ", "  ", "\t", "\r", "\n", "\r\n", "\n\n", "#", "# x", "# A_-\v\x00\n", "#é\xff\n", "##\n#\n",
}

// faults are pieces of texts that mostly are errors.
var faults = []string{
	"A", "Z", "-", "_", "00", "007", "1000000000000000000", "\v", "\f", "\x00", "\x7f", "\x80", "\xff", "é", "\xe2\x82", "€", "\u00a0", "\u2028", "`", "|", "/", "@", "[", "<", ",", ".", "\"",
}

// text is a random text of up to n pieces; one in fault of them is a fault, and none if fault is 0.
func text(r *rand.Rand, n, fault int) string {
	var out strings.Builder
	for range r.IntN(n + 1) {
		if fault > 0 && r.IntN(fault) == 0 {
			out.WriteString(faults[r.IntN(len(faults))])
		} else {
			out.WriteString(fragments[r.IntN(len(fragments))])
		}
	}
	return out.String()
}

// accepted returns texts that Scan accepts: of ordinary fragments, in which digits may have met others and made a number that is none.
func accepted(r *rand.Rand, n, size int) []string {
	l := []string{}
	for len(l) < n {
		s := text(r, size, 0)
		if _, e, _ := model(s); e == api.OK {
			l = append(l, s)
		}
	}
	return l
}

// P10.1, P10.2: the examples of the chapter.
func TestExamples(t *testing.T) {
	accept(t, "price 200; # cheap", `1@1:1"price"`, `2@1:7"200"`, `3@1:10";"`, `0@1:19""`)
	accept(t, "", `0@1:1""`)
	accept(t, "{a:1}", `3@1:1"{"`, `1@1:2"a"`, `3@1:3":"`, `2@1:4"1"`, `3@1:5"}"`, `0@1:6""`)
	accept(t, "12ab", `2@1:1"12"`, `1@1:3"ab"`, `0@1:5""`)
	accept(t, "a12", `1@1:1"a12"`, `0@1:4""`)
	accept(t, "a-1", `1@1:1"a-1"`, `0@1:4""`)
	accept(t, "{}", `3@1:1"{"`, `3@1:2"}"`, `0@1:3""`)
	refuse(t, "a\nA", 2)
	refuse(t, "x 007", 2)
	for in, want := range map[string]string{"price 200; # cheap": "price 200 ;\n", "{a:1}": "{\na : 1 }\n"} {
		l, _, _ := lex.Scan(in)
		if s := lex.Join(l); s != want {
			t.Errorf("Join of %q: %q", in, s)
		}
	}
}

// P10.1: blanks, each of the four, are skipped, and no other byte is a blank.
func TestBlanks(t *testing.T) {
	accept(t, " ", `0@1:2""`)
	accept(t, "\t", `0@1:2""`)
	accept(t, "\r", `0@1:2""`)
	accept(t, "\n", `0@2:1""`)
	accept(t, "    ", `0@1:5""`)
	accept(t, "\t\t\t", `0@1:4""`)
	accept(t, "\r\r", `0@1:3""`)
	accept(t, "\n\n\n", `0@4:1""`)
	accept(t, " \t\r\n\t ", `0@2:3""`)
	accept(t, "a \t\r\n b", `1@1:1"a"`, `1@2:2"b"`, `0@2:3""`)
	refuse(t, " \v", 1)
	refuse(t, "\f", 0)
	refuse(t, "a\u00a0b", 1)
	refuse(t, " \u2028", 1)
	refuse(t, "\u0085", 0)
	refuse(t, "\x85", 0)
	refuse(t, "\xa0", 0)
}

// P10.1, P10.6: remarks end before a line feed or at the end of the text, and contain any other byte.
func TestRemarks(t *testing.T) {
	accept(t, "#", `0@1:2""`)
	accept(t, "# a 1 ; {", `0@1:10""`)
	accept(t, "#\n", `0@2:1""`)
	accept(t, "a#b", `1@1:1"a"`, `0@1:4""`)
	accept(t, "1#2", `2@1:1"1"`, `0@1:4""`)
	accept(t, ";#;", `3@1:1";"`, `0@1:4""`)
	accept(t, "#a\nb", `1@2:1"b"`, `0@2:2""`)
	accept(t, "# 1\n# 2\n#3\n\n#\nb#", `1@6:1"b"`, `0@6:3""`)
	accept(t, "###\n", `0@2:1""`)
	accept(t, "# a\r b", `0@1:7""`)
	accept(t, "# A_-007\v\x00\x7f\x80\xff\xe2\x82\n;", `3@2:1";"`, `0@2:2""`)
	accept(t, "#é€𝄞\n\t;#é", `3@2:2";"`, `0@2:6""`)
	accept(t, "#é€𝄞", `0@1:11""`)
	accept(t, "#\xe2\x82\na", `1@2:1"a"`, `0@2:2""`)
	accept(t, "#\xf0\x9d\n#\xc3\n", `0@3:1""`)
	accept(t, "#\u2028\u0085\n", `0@2:1""`)
	refuse(t, "# A\nA", 4)
	refuse(t, "#é€\n\xc3", 7)
}

// P10.1: words take all letters, digits and hyphens behind their first letter.
func TestWords(t *testing.T) {
	accept(t, "a", `1@1:1"a"`, `0@1:2""`)
	accept(t, "abcdefghijklmnopqrstuvwxyz0123456789-", `1@1:1"abcdefghijklmnopqrstuvwxyz0123456789-"`, `0@1:38""`)
	accept(t, "a-", `1@1:1"a-"`, `0@1:3""`)
	accept(t, "a--1-b", `1@1:1"a--1-b"`, `0@1:7""`)
	accept(t, "a007", `1@1:1"a007"`, `0@1:5""`)
	accept(t, "a1000000000000000000", `1@1:1"a1000000000000000000"`, `0@1:21""`)
	accept(t, "7a", `2@1:1"7"`, `1@1:2"a"`, `0@1:3""`)
	accept(t, "0a0 0", `2@1:1"0"`, `1@1:2"a0"`, `2@1:5"0"`, `0@1:6""`)
	accept(t, "a 1", `1@1:1"a"`, `2@1:3"1"`, `0@1:4""`)
	accept(t, "a{b", `1@1:1"a"`, `3@1:2"{"`, `1@1:3"b"`, `0@1:4""`)
	long := strings.Repeat("a", 100)
	accept(t, long, `1@1:1"`+long+`"`, `0@1:101""`)
	for c := 'a'; c <= 'z'; c++ {
		accept(t, string(c), `1@1:1"`+string(c)+`"`, `0@1:2""`)
	}
	refuse(t, "-", 0)
	refuse(t, "-a", 0)
	refuse(t, "1-a", 1)
	refuse(t, "a B", 2)
	refuse(t, "aB", 1)
	refuse(t, "a_b", 1)
	refuse(t, "a é", 2)
	refuse(t, "aé", 1)
}

// P10.1: numbers have up to 18 digits, and a leading zero only if it is all; the offset of another one is that of its first digit.
func TestNumbers(t *testing.T) {
	for c := '0'; c <= '9'; c++ {
		accept(t, string(c), `2@1:1"`+string(c)+`"`, `0@1:2""`)
	}
	accept(t, "12345678901234567", `2@1:1"12345678901234567"`, `0@1:18""`)
	accept(t, "100000000000000000", `2@1:1"100000000000000000"`, `0@1:19""`)
	accept(t, "999999999999999999", `2@1:1"999999999999999999"`, `0@1:19""`)
	accept(t, "999999999999999999a", `2@1:1"999999999999999999"`, `1@1:19"a"`, `0@1:20""`)
	accept(t, "999999999999999999 9", `2@1:1"999999999999999999"`, `2@1:20"9"`, `0@1:21""`)
	accept(t, "0 0;0", `2@1:1"0"`, `2@1:3"0"`, `3@1:4";"`, `2@1:5"0"`, `0@1:6""`)
	accept(t, "10 100", `2@1:1"10"`, `2@1:4"100"`, `0@1:7""`)
	refuse(t, "1000000000000000000", 0)
	refuse(t, "9999999999999999999", 0)
	refuse(t, "a 1000000000000000000", 2)
	refuse(t, strings.Repeat("1", 40), 0)
	refuse(t, ";"+strings.Repeat("9", 40)+"a", 1)
	refuse(t, "00", 0)
	refuse(t, "007", 0)
	refuse(t, "01", 0)
	refuse(t, "a 00a", 2)
	refuse(t, "1 2 03 A", 4)
	refuse(t, "0000000000000000000", 0)
	refuse(t, "1-2", 1)
	refuse(t, "-1", 0)
	refuse(t, "+1", 0)
	refuse(t, "1.5", 1)
	refuse(t, "1,000", 1)
	refuse(t, "1_000", 1)
	refuse(t, "1٣", 1)
}

// P10.1: each mark is a token by itself.
func TestMarks(t *testing.T) {
	for _, s := range []string{"{", "}", ";", ":"} {
		accept(t, s, `3@1:1"`+s+`"`, `0@1:2""`)
		accept(t, s+s, `3@1:1"`+s+`"`, `3@1:2"`+s+`"`, `0@1:3""`)
		accept(t, s+"a"+s, `3@1:1"`+s+`"`, `1@1:2"a"`, `3@1:3"`+s+`"`, `0@1:4""`)
	}
	accept(t, "{};:", `3@1:1"{"`, `3@1:2"}"`, `3@1:3";"`, `3@1:4":"`, `0@1:5""`)
	accept(t, ":1:", `3@1:1":"`, `2@1:2"1"`, `3@1:3":"`, `0@1:4""`)
	refuse(t, "(a)", 0)
	refuse(t, "a,b", 1)
	refuse(t, "{a=1}", 2)
}

// P10.1: lines are counted by line feeds alone, and columns by bytes from the last one of them.
func TestPositions(t *testing.T) {
	accept(t, "\n\n  a", `1@3:3"a"`, `0@3:4""`)
	accept(t, "a\rb", `1@1:1"a"`, `1@1:3"b"`, `0@1:4""`)
	accept(t, "a\r\nb", `1@1:1"a"`, `1@2:1"b"`, `0@2:2""`)
	accept(t, "a\n\rb", `1@1:1"a"`, `1@2:2"b"`, `0@2:3""`)
	accept(t, "\ta\t\tb", `1@1:2"a"`, `1@1:5"b"`, `0@1:6""`)
	accept(t, "a\n", `1@1:1"a"`, `0@2:1""`)
	accept(t, "a\n ", `1@1:1"a"`, `0@2:2""`)
	accept(t, "a # b\n c", `1@1:1"a"`, `1@2:2"c"`, `0@2:3""`)
	accept(t, "{a-1:#x;\n\t12ab}\n",
		`3@1:1"{"`, `1@1:2"a-1"`, `3@1:5":"`, `2@2:2"12"`, `1@2:4"ab"`, `3@2:6"}"`, `0@3:1""`)
	accept(t, strings.Repeat("\n", 1000)+strings.Repeat(" ", 500)+"a", `1@1001:501"a"`, `0@1001:502""`)
}

// P10.1, P10.6: every byte alone, before and behind a token, behind a blank, and in a remark.
func TestBytes(t *testing.T) {
	const words = "abcdefghijklmnopqrstuvwxyz"
	for c := range 256 {
		b := string([]byte{byte(c)})
		_, e, at := lex.Scan(b)
		want := api.ErrSyntax
		if strings.Contains(words+"0123456789{};:# \t\r\n", b) {
			want = api.OK
		}
		if e != want || at != 0 {
			t.Errorf("byte %d: %d, %d", c, int(e), at)
		}
		for _, s := range []string{b, b + b, b + "a", b + "1", b + ";", "a" + b, "1" + b, "0" + b, "{" + b, ":" + b, " " + b, "\n" + b, "#\n" + b, "#" + b + "\nA", "a " + b, "12 " + b + " ; #"} {
			check(t, s)
		}
		if b != "\n" {
			accept(t, "#"+b, `0@1:3""`)
			accept(t, "# "+b+b+" A\n:", `3@2:1":"`, `0@2:2""`)
		}
	}
	// Two bytes, of which the first may begin a character.
	for c := range 256 {
		for d := range 256 {
			b := string([]byte{byte(c), byte(d)})
			for _, s := range []string{b, "x" + b, "#" + b + "\n7"} {
				check(t, s)
			}
		}
	}
}

// P10.1: characters of several bytes and parts of them are errors at their first byte.
func TestCharacters(t *testing.T) {
	for _, s := range []string{"é", "€", "𝄞", "\xc3", "\xe2\x82", "\xf0\x9d\x84", "\xa9", "\xff", "\xfe", "\xc0\x80", "\xed\xa0\x80", "ａ", "\ufeff", "\ufffd"} {
		refuse(t, s, 0)
		refuse(t, "a"+s, 1)
		refuse(t, "12"+s, 2)
		refuse(t, "#"+s+"\n "+s, len(s)+3)
		accept(t, "#"+s+"\n", `0@2:1""`)
		accept(t, "#"+s, fmt.Sprintf(`0@1:%d""`, len(s)+2))
	}
	// Letters, digits and blanks of other alphabets are none here, and not behind one of ours either.
	for c := rune(128); c < 0x20000; c++ {
		if c == 0xd800 {
			c = 0xe000
		}
		for _, before := range []string{"", " ", "a", "7", ":", "#\n"} {
			if l, e, at := lex.Scan(before + string(c)); len(l) != 0 || e != api.ErrSyntax || at != len(before) {
				t.Fatalf("Scan(%q): %s, %d, %d", before+string(c), brief(l), int(e), at)
			}
		}
	}
}

// P10.1: the limit is MaxText bytes; beyond it nothing else is looked at.
func TestLimit(t *testing.T) {
	for _, filler := range []string{" ", "\n", "a", ";", "#", "1 ", "é", "A", "\x80", "00"} {
		for n := api.MaxText - 1; n <= api.MaxText+1; n++ {
			s := strings.Repeat(filler, n/len(filler)) + strings.Repeat(" ", n%len(filler))
			l, e, at := lex.Scan(s)
			switch {
			case n > api.MaxText:
				if len(l) != 0 || e != api.ErrLimit || at != 0 {
					t.Errorf("%d bytes of %q: %d tokens, %d, %d", n, filler, len(l), int(e), at)
				}
			case strings.Contains("éA\x8000", filler):
				if len(l) != 0 || e != api.ErrSyntax || at != 0 {
					t.Errorf("%d bytes of %q: %d tokens, %d, %d", n, filler, len(l), int(e), at)
				}
			default:
				if len(l) == 0 || e != api.OK || at != 0 {
					t.Errorf("%d bytes of %q: %d tokens, %d, %d", n, filler, len(l), int(e), at)
				}
			}
			check(t, s)
		}
	}
	blanks := strings.Repeat(" ", api.MaxText-1)
	refuse(t, blanks+"A", api.MaxText-1)
	refuse(t, blanks[1:]+"00", api.MaxText-2)
	accept(t, blanks+"a", fmt.Sprintf(`1@1:%d"a"`, api.MaxText), fmt.Sprintf(`0@1:%d""`, api.MaxText+1))
	accept(t, "#"+strings.Repeat("\xff", api.MaxText-1), fmt.Sprintf(`0@1:%d""`, api.MaxText+1))
	accept(t, strings.Repeat("\n", api.MaxText), fmt.Sprintf(`0@%d:1""`, api.MaxText+1))
	long := strings.Repeat("z", api.MaxText)
	accept(t, long, `1@1:1"`+long+`"`, fmt.Sprintf(`0@1:%d""`, api.MaxText+1))
	check(t, strings.Repeat("é", api.MaxText/2+1))
	if l, e, at := lex.Scan(strings.Repeat("a ", 1<<20)); len(l) != 0 || e != api.ErrLimit || at != 0 {
		t.Errorf("2 MiB: %d tokens, %d, %d", len(l), int(e), at)
	}
}

// P10.1: the first of several errors counts, and there are no tokens beside it, whatever stands before it.
func TestFirstError(t *testing.T) {
	refuse(t, "a 1 ; {\nb 00 A", 10)
	refuse(t, "a 1 ; {\nb A 00", 10)
	refuse(t, "\n\n\t# A\n  \x80", 9)
	refuse(t, strings.Repeat("a;", 1000)+"?", 2000)
	refuse(t, strings.Repeat("é", 3), 0)
}

// P10.1: random texts against the model.
func TestScanRandom(t *testing.T) {
	r := rand.New(rand.NewPCG(10, 1))
	for range 40000 {
		check(t, text(r, 30, 0))
		check(t, text(r, 40, 30))
		check(t, text(r, 10, 3))
	}
	for range 20000 {
		b := make([]byte, r.IntN(12))
		for i := range b {
			b[i] = byte(r.IntN(256))
		}
		check(t, string(b))
		check(t, "#"+string(b)+"\n1")
	}
	for range 20 {
		check(t, text(r, 8000, 0))
		check(t, text(r, 8000, 5000))
	}
}

// P10.2: line feeds behind { } and ;, and spaces between all others.
func TestJoin(t *testing.T) {
	end := api.Token{Kind: api.TokEnd}
	for _, c := range []struct {
		l    []api.Token
		want string
	}{
		{nil, ""},
		{[]api.Token{}, ""},
		{[]api.Token{end}, ""},
		{words("a"), "a"},
		{words("a", "b", "c"), "a b c"},
		{append(words("a", "b"), end), "a b"},
		{[]api.Token{mark("{")}, "{\n"},
		{[]api.Token{mark("}")}, "}\n"},
		{[]api.Token{mark(";")}, ";\n"},
		{[]api.Token{mark(":")}, ":"},
		{[]api.Token{mark(":"), mark(":")}, ": :"},
		{[]api.Token{mark(":"), end}, ":"},
		{[]api.Token{mark(";"), end}, ";\n"},
		{[]api.Token{mark("{"), mark("}"), mark(";"), mark(":")}, "{\n}\n;\n:"},
		{[]api.Token{mark(":"), mark(";"), mark("}"), mark("{"), end}, ": ;\n}\n{\n"},
		{append(words("a"), mark("{")), "a {\n"},
		{append(words("a"), mark(":")), "a :"},
		{append([]api.Token{mark("{")}, words("a")...), "{\na"},
		{[]api.Token{{Kind: api.TokNumber, Text: "1"}, mark(":"), {Kind: api.TokNumber, Text: "2"}}, "1 : 2"},
	} {
		if s := lex.Join(c.l); s != c.want || joined(c.l) != c.want {
			t.Errorf("Join(%s): %q, not %q", brief(c.l), s, c.want)
		}
	}
}

// P10.2: tokens from a TokEnd on do not count, the text of the TokEnd included.
func TestJoinEnd(t *testing.T) {
	l := append(words("a", "b"), api.Token{Kind: api.TokEnd, Text: "z"})
	l = append(l, words("c", "d")...)
	l = append(l, api.Token{Kind: api.TokEnd}, mark(";"))
	if s := lex.Join(l); s != "a b" {
		t.Errorf("tokens behind the end: %q", s)
	}
	if s := lex.Join(l[2:]); s != "" {
		t.Errorf("the end first: %q", s)
	}
	if s := lex.Join(append([]api.Token{mark("}"), {Kind: api.TokEnd, Text: ";"}}, mark(";"))); s != "}\n" {
		t.Errorf("an end behind a mark: %q", s)
	}
}

// P10.2: the kind decides, not the text, and any kinds, texts and positions are joined as they are.
func TestJoinOthers(t *testing.T) {
	for _, c := range []struct {
		l    []api.Token
		want string
	}{
		{[]api.Token{mark(","), mark("x"), mark("")}, ", x "},
		{[]api.Token{mark("{}"), mark(";;"), mark(" ;"), mark("; ")}, "{} ;;  ; ; "},
		{[]api.Token{mark("{\n")}, "{\n"},
		{words("{", "}", ";", ":"), "{ } ; :"},
		{words("", "", ""), "  "},
		{words(""), ""},
		{words("A b", "\x80", "007\n", "#"), "A b \x80 007\n #"},
		{[]api.Token{{Kind: api.TokNumber, Text: ";"}, {Kind: api.TokNumber, Text: "-5"}}, "; -5"},
		{[]api.Token{{Kind: 9, Text: ";"}, {Kind: -1, Text: "{"}, {Kind: 4, Text: "}"}, {Kind: 1 << 62, Text: "x"}}, "; { } x"},
		{[]api.Token{{Kind: api.TokWord, Line: 7, Col: -3, Text: "a"}, {Kind: api.TokMark, Line: 1, Col: 1 << 62, Text: ";"}, {Kind: api.TokWord, Line: -1, Text: "b"}}, "a ;\nb"},
	} {
		if s := lex.Join(c.l); s != c.want || joined(c.l) != c.want {
			t.Errorf("Join(%s): %q, not %q", brief(c.l), s, c.want)
		}
	}
}

// P10.2, R3, R7: random lists against the model; they and what lies behind them stay as they are.
func TestJoinRandom(t *testing.T) {
	r := rand.New(rand.NewPCG(10, 2))
	texts := append(slices.Concat(fragments, faults), "", "{", "}", ";", ":")
	for range 20000 {
		all := make([]api.Token, r.IntN(20)+3)
		for i := range all {
			all[i] = api.Token{Kind: 1 + r.IntN(4), Line: r.IntN(9), Col: r.IntN(9), Text: texts[r.IntN(len(texts))]}
			if r.IntN(3) == 0 {
				all[i] = mark("{};:"[i%4 : i%4+1])
			}
			if r.IntN(20) == 0 {
				all[i].Kind = api.TokEnd
			}
		}
		before := slices.Clone(all)
		l := all[:r.IntN(len(all))]
		first, second := lex.Join(l), lex.Join(l)
		if want := joined(l); first != want || second != want {
			t.Fatalf("Join(%s): %q, %q, not %q", brief(l), first, second, want)
		}
		if !slices.Equal(all, before) {
			t.Fatalf("Join(%s) changed its list or what lies behind it", brief(l))
		}
	}
}

// P10.3: what was scanned and joined is scanned to the same kinds and texts, unless it has become too long, and is joined to the same text.
func TestRoundTrip(t *testing.T) {
	r := rand.New(rand.NewPCG(10, 3))
	for _, s := range append(accepted(r, 20000, 30), "", " ", "#", "a", "12ab", "{};:", "a1 1a", ":", "a:b", strings.Repeat("a", api.MaxText)) {
		l, e, _ := lex.Scan(s)
		joint := lex.Join(l)
		again, e1, _ := lex.Scan(joint)
		if e != api.OK || e1 != api.OK || !slices.Equal(content(again), content(l)) {
			t.Fatalf("%q: %s, joined %q: %s, %d", s, brief(l), joint, brief(again), int(e1))
		}
		if lex.Join(again) != joint {
			t.Fatalf("%q: joined %q, and then %q", s, joint, lex.Join(again))
		}
	}
	for _, c := range []struct {
		s    string
		want api.Errno
	}{
		{strings.Repeat(";", api.MaxText/2), api.OK},
		{strings.Repeat(";", api.MaxText/2+1), api.ErrLimit},
		{strings.Repeat("1a ", api.MaxText/3), api.ErrLimit},
		{strings.Repeat("::", api.MaxText/4), api.OK},
	} {
		l, _, _ := lex.Scan(c.s)
		joint := lex.Join(l)
		again, e, _ := lex.Scan(joint)
		if e != c.want || e == api.OK && !slices.Equal(content(again), content(l)) || (len(joint) > api.MaxText) != (e == api.ErrLimit) {
			t.Errorf("%.20q: joined to %d bytes, %d", c.s, len(joint), int(e))
		}
	}
}

// P10.4: positions ascend, and the text has each token at its position; TokEnd is behind all, and no other token is one.
func TestAscent(t *testing.T) {
	r := rand.New(rand.NewPCG(10, 4))
	for _, s := range accepted(r, 10000, 40) {
		l, _, _ := lex.Scan(s)
		lines := strings.Split(s, "\n")
		for i, tok := range l {
			if tok.Line < 1 || tok.Line > len(lines) || tok.Col < 1 || tok.Col > len(lines[tok.Line-1])+1 {
				t.Fatalf("%q: %s is out of the text", s, brief(l[i:i+1]))
			}
			if !strings.HasPrefix(lines[tok.Line-1][tok.Col-1:], tok.Text) {
				t.Fatalf("%q: %s is not at its position", s, brief(l[i:i+1]))
			}
			if i > 0 && (tok.Line < l[i-1].Line || tok.Line == l[i-1].Line && tok.Col <= l[i-1].Col) {
				t.Fatalf("%q: %s do not ascend", s, brief(l[i-1:i+1]))
			}
			if last := i == len(l)-1; (tok.Kind == api.TokEnd) != last || (tok.Text == "") != last {
				t.Fatalf("%q: %s at %d of %d", s, brief(l[i:i+1]), i, len(l))
			}
		}
		end := l[len(l)-1]
		if end.Line != len(lines) || end.Col != len(lines[len(lines)-1])+1 {
			t.Fatalf("%q: the end is %s", s, brief(l[len(l)-1:]))
		}
	}
}

// P10.5: a space or a line feed before or behind a text changes no kind and no text, but positions and the limit.
func TestBlankAround(t *testing.T) {
	r := rand.New(rand.NewPCG(10, 5))
	for _, s := range append(accepted(r, 10000, 30), "", "a", "#", "# A", "1", ";") {
		l, _, _ := lex.Scan(s)
		for _, blank := range []string{" ", "\n"} {
			for _, wider := range []string{blank + s, s + blank, blank + s + blank} {
				m, e, at := lex.Scan(wider)
				if e != api.OK || at != 0 || !slices.Equal(content(m), content(l)) {
					t.Fatalf("%q: %s, %d, %d, but %q: %s", wider, brief(m), int(e), at, s, brief(l))
				}
			}
		}
	}
	full := strings.Repeat("a", api.MaxText-1)
	for _, s := range []string{" " + full, "\n" + full, full + " ", full + "\n"} {
		if l, e, _ := lex.Scan(s); e != api.OK || len(l) != 2 || l[0].Text != full {
			t.Errorf("%d bytes: %d tokens, %d", len(s), len(l), int(e))
		}
		if l, e, _ := lex.Scan(s + " "); e != api.ErrLimit || len(l) != 0 {
			t.Errorf("%d bytes: %d tokens, %d", len(s)+1, len(l), int(e))
		}
	}
	// The offset of an error moves by what stands before it.
	refuse(t, " a A", 3)
	refuse(t, "\na A ", 3)
	refuse(t, "a A\n", 2)
}

// P10.6: a byte that cannot begin anything is an error wherever a token could begin, and none in a remark.
func TestFaultAnywhere(t *testing.T) {
	const faulty = "A_-?\x00\v\x7f\x80\xc3\xff"
	r := rand.New(rand.NewPCG(10, 6))
	for _, s := range accepted(r, 3000, 12) {
		l, _, _ := lex.Scan(s)
		lines := strings.SplitAfter(s, "\n")
		for _, tok := range l {
			at := len(strings.Join(lines[:tok.Line-1], "")) + tok.Col - 1
			i := r.IntN(len(faulty))
			// The line feed ends a word or a remark that the byte would belong to.
			refuse(t, s[:at]+"\n"+faulty[i:i+1]+s[at:], at+1)
			remark := s[:at] + "#" + faulty[i:i+1] + "\n" + s[at:]
			if m, e, _ := lex.Scan(remark); e != api.OK || !slices.Equal(content(m), content(l)) {
				t.Fatalf("%q: %s, %d, but %q: %s", remark, brief(m), int(e), s, brief(l))
			}
		}
	}
}

// R3, R7: results are new memory; what is done to one list does not show in another one.
func TestNewMemory(t *testing.T) {
	const s = "a 1 ; # x\n{ b : 2 }"
	first, _, _ := lex.Scan(s)
	second, _, _ := lex.Scan(s)
	want := slices.Clone(first)
	for i := range first {
		first[i] = api.Token{Kind: 9, Line: 9, Col: 9, Text: "x"}
	}
	_ = append(first[:0], words("p", "q", "r")...)
	third, _, _ := lex.Scan(s)
	if !slices.Equal(second, want) || !slices.Equal(third, want) {
		t.Errorf("%s, %s, not %s", brief(second), brief(third), brief(want))
	}
}
