package tests

import (
	"math"
	"math/rand"
	"regexp"
	"slices"
	"strconv"
	"strings"
	"testing"

	"loop.example/g00501/impl"
)

func atom(s string) impl.Token { return impl.Token{Kind: impl.TkAtom, Text: s} }

func text(s string) impl.Token { return impl.Token{Kind: impl.TkText, Text: s} }

func opening() impl.Token { return impl.Token{Kind: impl.TkOpen} }

func closing() impl.Token { return impl.Token{Kind: impl.TkClose} }

// literalOf is the literal of a text, whether TokenText would write one or not.
func literalOf(s string) string { return "{" + strconv.Itoa(len(s)) + "}\r\n" + s }

func checkLex(t *testing.T, s string, want ...impl.Token) {
	t.Helper()
	if got, ok := impl.Lex(s); !ok || !slices.Equal(got, want) {
		t.Fatalf("Lex(%q) = %+v, %v, want %+v", s, got, ok, want)
	}
}

func checkNoLex(t *testing.T, s string) {
	t.Helper()
	if got, ok := impl.Lex(s); ok || len(got) != 0 {
		t.Fatalf("Lex(%q) = %+v, %v", s, got, ok)
	}
}

// checkRoundTrip checks P3 for one list of tokens, all of which have a text.
func checkRoundTrip(t *testing.T, list []impl.Token) {
	t.Helper()
	line := impl.LineOf(list)
	if line == "" && len(list) > 0 {
		t.Fatalf("LineOf(%+v) is empty", list)
	}
	checkLex(t, line, list...)
}

// lineTexts are texts with line ends and with what could be taken for another token.
func lineTexts() []string {
	list := []string{
		"", "a", " ", "(", ")", `"`, `\`, "{", "}", "{1}", `""`, "( )", "a b", `\"`,
		"\r", "\n", "\r\n", "\n\r", "\r\n\r\n", "a\r\nb", "\r\na", "a\r\n", "\n(", "\n)", "(\n", ")\n", "\n ", " \n", "\n\"", "\"\n", "\n{", "\n\\",
		"{3}\r\nabc", "{1}\r\n", "{40}\r\n", "\r\n{2}", "\r\n.\r\nA1 noop\r\n", "\x00", "\x1f", "\x7f", "\x80", "\xff", "caf\u00e9", "\ufffd", "\xc3",
	}
	for _, n := range []int{9, 10, 11, 39, 40} {
		list = append(list, strings.Repeat("a", n), strings.Repeat(" ", n), strings.Repeat(`"`, n), strings.Repeat("\n", n), strings.Repeat("\xff", n), strings.Repeat("(\r", n)[:n])
	}
	return list
}

func TestLexConstants(t *testing.T) {
	got := []int{impl.TkAtom, impl.TkText, impl.TkOpen, impl.TkClose, impl.MaxLine, impl.MaxLiteral}
	if !slices.Equal(got, []int{1, 2, 3, 4, 200, 40}) {
		t.Errorf("the constants are %v", got)
	}
}

func TestTokenTextOfAtoms(t *testing.T) {
	for b := range 256 {
		for _, s := range []string{oneByte(b), "a" + oneByte(b), oneByte(b) + "a"} {
			want := ""
			if b >= 33 && b <= 126 && !strings.Contains(notInAtoms, oneByte(b)) {
				want = s
			}
			if got := impl.TokenText(atom(s)); got != want {
				t.Errorf("TokenText of the atom %q is %q, want %q", s, got, want)
			}
		}
	}
	cases := map[string]string{
		"": "", strings.Repeat("a", 40): strings.Repeat("a", 40), strings.Repeat("a", 41): "", "a\r\nb": "", `"a"`: "", "{1}\r\na": "", "}": "}", "1:3,5,7:*": "1:3,5,7:*",
	}
	for s, want := range cases {
		if got := impl.TokenText(atom(s)); got != want {
			t.Errorf("TokenText of the atom %q is %q, want %q", s, got, want)
		}
	}
}

func TestTokenTextOfStrings(t *testing.T) {
	cases := map[string]string{
		"": `""`, "a": `"a"`, "a b": `"a b"`, `a"\`: `"a\"\\"`, "(": `"("`, "{1}": `"{1}"`,
		"\n": "{1}\r\n\n", "\r\n": "{2}\r\n\r\n", "x\ny": "{3}\r\nx\ny", "\x00": "{1}\r\n\x00", "caf\u00e9": "{5}\r\ncaf\u00e9", `"` + "\n": "{2}\r\n\"\n",
		strings.Repeat("a", 40): `"` + strings.Repeat("a", 40) + `"`, strings.Repeat("a", 41): "", strings.Repeat("\n", 40): "{40}\r\n" + strings.Repeat("\n", 40), strings.Repeat("\n", 41): "",
		strings.Repeat("\n", 10): "{10}\r\n" + strings.Repeat("\n", 10), strings.Repeat("a", 40) + "\n": "", strings.Repeat("a", 500): "",
	}
	for s, want := range cases {
		if got := impl.TokenText(text(s)); got != want {
			t.Errorf("TokenText of the string %q is %q, want %q", s, got, want)
		}
	}
	for b := range 256 {
		for _, s := range []string{oneByte(b), "a" + oneByte(b), strings.Repeat("a", 39) + oneByte(b), strings.Repeat("a", 40) + oneByte(b)} {
			want, quoted := quoteOf(s)
			if !quoted && len(s) <= 40 {
				want = literalOf(s)
			}
			if got := impl.TokenText(text(s)); got != want {
				t.Errorf("TokenText of the string %q is %q, want %q", s, got, want)
			}
		}
	}
}

func TestTokenTextOfOtherKinds(t *testing.T) {
	if impl.TokenText(opening()) != "(" || impl.TokenText(closing()) != ")" {
		t.Errorf("the parentheses are %q and %q", impl.TokenText(opening()), impl.TokenText(closing()))
	}
	for _, s := range []string{"x", "(", ")", " ", "\x00", strings.Repeat("a", 41)} {
		for _, k := range []int{impl.TkOpen, impl.TkClose} {
			if got := impl.TokenText(impl.Token{Kind: k, Text: s}); got != "" {
				t.Errorf("TokenText of kind %d with the text %q is %q", k, s, got)
			}
		}
	}
	for _, k := range []int{0, -1, 5, 6, 256 + 1, math.MaxInt64, math.MinInt64} {
		for _, s := range []string{"", "a", "\n"} {
			if got := impl.TokenText(impl.Token{Kind: k, Text: s}); got != "" {
				t.Errorf("TokenText of kind %d with the text %q is %q", k, s, got)
			}
		}
	}
}

func TestLineOf(t *testing.T) {
	cases := []struct {
		list []impl.Token
		want string
	}{
		{nil, ""},
		{[]impl.Token{}, ""},
		{[]impl.Token{atom("a")}, "a"},
		{[]impl.Token{text("")}, `""`},
		{[]impl.Token{text(""), text("")}, `"" ""`},
		{[]impl.Token{atom("a"), atom("b")}, "a b"},
		{[]impl.Token{opening()}, "("},
		{[]impl.Token{closing()}, ")"},
		{[]impl.Token{opening(), closing()}, "()"},
		{[]impl.Token{closing(), opening()}, ") ("},
		{[]impl.Token{opening(), opening(), closing(), closing()}, "(())"},
		{[]impl.Token{opening(), closing(), opening(), closing()}, "() ()"},
		{[]impl.Token{closing(), closing()}, "))"},
		{[]impl.Token{atom("a"), opening(), atom("b"), atom("c"), closing(), atom("d")}, "a (b c) d"},
		{[]impl.Token{atom("A1"), opening(), text("a b"), text("x\ny"), closing(), atom("z")}, "A1 (\"a b\" {3}\r\nx\ny) z"},
		{[]impl.Token{text("\n("), atom("a")}, "{2}\r\n\n( a"},
		{[]impl.Token{text("\n("), closing()}, "{2}\r\n\n()"},
		{[]impl.Token{text("\n "), atom("a")}, "{2}\r\n\n  a"},
		{[]impl.Token{text("("), text(")")}, `"(" ")"`},
		{[]impl.Token{atom("a"), text("\r\n"), text("\r\n")}, "a {2}\r\n\r\n {2}\r\n\r\n"},
	}
	for _, c := range cases {
		if got := impl.LineOf(c.list); got != c.want {
			t.Errorf("LineOf(%+v) = %q, want %q", c.list, got, c.want)
		}
	}
}

// One token without a text is enough, wherever it stands.
func TestLineOfRejects(t *testing.T) {
	wrong := []impl.Token{
		{}, atom(""), atom("a b"), atom("("), atom(strings.Repeat("a", 41)), text(strings.Repeat("a", 41)), text(strings.Repeat("\n", 41)),
		{Kind: impl.TkOpen, Text: "("}, {Kind: impl.TkClose, Text: ")"}, {Kind: 5}, {Kind: -1, Text: "a"},
	}
	around := [][]impl.Token{nil, {atom("a")}, {text("")}, {opening()}, {closing()}, {atom("a"), text("\n"), closing()}}
	for _, w := range wrong {
		for _, before := range around {
			for _, after := range around {
				list := slices.Concat(before, []impl.Token{w}, after)
				if got := impl.LineOf(list); got != "" {
					t.Errorf("LineOf(%+v) = %q", list, got)
				}
			}
		}
	}
}

// P3 for every list of up to three tokens and, at random, for longer ones.
func TestLexReadsLineOf(t *testing.T) {
	tokens := []impl.Token{opening(), closing(), atom("a"), atom("}"), atom("1:3,5,7:*"), atom(strings.Repeat("~", 40))}
	for _, s := range lineTexts() {
		tokens = append(tokens, text(s))
	}
	for _, a := range tokens {
		checkRoundTrip(t, []impl.Token{a})
		for _, b := range tokens {
			checkRoundTrip(t, []impl.Token{a, b})
			for _, c := range tokens {
				checkRoundTrip(t, []impl.Token{a, b, c})
			}
		}
	}
	random := rand.New(rand.NewSource(3))
	for range 5000 {
		var list []impl.Token
		for range random.Intn(30) {
			list = append(list, tokens[random.Intn(len(tokens))])
		}
		checkRoundTrip(t, list)
	}
}

// P3 for every byte, at every length of a string.
func TestLexReadsEveryByte(t *testing.T) {
	for b := range 256 {
		for n := range 41 {
			s := strings.Repeat(oneByte(b), n)
			checkRoundTrip(t, []impl.Token{text(s), closing(), text(s), atom("a")})
		}
		checkRoundTrip(t, []impl.Token{text("\r" + oneByte(b) + "\n"), text(oneByte(b) + "\r\n"), text("\r\n" + oneByte(b)), closing()})
		if s := "a" + oneByte(b); impl.AtomOk(s) {
			checkRoundTrip(t, []impl.Token{atom(s), opening(), atom(s), closing(), atom(s)})
		}
	}
	random := rand.New(rand.NewSource(4))
	for range 5000 {
		s := make([]byte, random.Intn(41))
		random.Read(s)
		checkRoundTrip(t, []impl.Token{text(string(s)), atom("a"), text(string(s)), opening(), text(string(s))})
	}
}

// A string may be a literal where LineOf writes a quoted one; its bytes are those of no other token.
func TestLexReadsLiterals(t *testing.T) {
	for _, s := range lineTexts() {
		lit := literalOf(s)
		checkLex(t, lit, text(s))
		checkLex(t, "("+lit+")", opening(), text(s), closing())
		checkLex(t, "a "+lit+" "+lit+" b", atom("a"), text(s), text(s), atom("b"))
		checkLex(t, lit+" ("+lit+") "+lit, text(s), opening(), text(s), closing(), text(s))
		for _, wrong := range []string{"a" + lit, lit + "a", lit + lit, `""` + lit, lit + `""`, ")" + lit, lit + "(", "( " + lit, lit + " )", lit + "  a", " " + lit, lit + " "} {
			checkNoLex(t, wrong)
		}
		for n := range len(lit) {
			checkNoLex(t, "a "+lit[:n])
		}
	}
}

func TestLexLiteralLengths(t *testing.T) {
	for n := range 60 {
		line := "{" + strconv.Itoa(n) + "}\r\n" + strings.Repeat("\n", n)
		if n > 40 {
			checkNoLex(t, line)
			continue
		}
		checkLex(t, line, text(strings.Repeat("\n", n)))
		checkLex(t, line+" a", text(strings.Repeat("\n", n)), atom("a"))
		if n > 0 {
			checkNoLex(t, line[:len(line)-1])
		}
	}
	lengths := []string{
		"", "00", "01", "07", "+1", "-1", "-0", " 1", "1 ", "1a", "a", "0x1", "1.0", "41", "100", "999999999", "1000000000", "4294967297", "18446744073709551617",
		"{1", "1}", "}", "{1}", "(1)", `"1"`, "1+", "\r\n", "\uff11", "\xff", strings.Repeat("0", 300), "1" + strings.Repeat("0", 300),
	}
	for _, n := range lengths {
		checkNoLex(t, "{"+n+"}\r\n"+strings.Repeat("a", 120))
		checkNoLex(t, "{"+n+"}\r\na")
		checkNoLex(t, "{"+n+"}\r\n")
	}
	for _, s := range []string{
		"{1}\ra", "{1}\na", "{1}\n\ra", "{1}a", "{1} a", "{1}\r\r\na", "{1}\r", "{1}", "{1", "{", "{1\r\na", "1}\r\na", "{ 1}\r\na", "{1} \r\na", "{{1}\r\na", "a{1}\r\na", "{0}", "{0}\r", "{}\r\n",
	} {
		checkNoLex(t, s)
	}
}

func TestLexRejects(t *testing.T) {
	list := []string{
		" ", "  ", " a", "a ", "a  b", "a   b", "( a)", "(a )", "( )", "(a)b", "a(b)", ")(", ")a", ") )", "( (", "() )", "(( )", " (", "( ", ") ", " )", "a )", "(  a)",
		"\"", "\"a", "a\"", "\"a\"b", "b\"a\"", "\"a\"\"b\"", "\"a\"(", ")\"a\"", "\"a\" ", " \"a\"", "\"a\"  \"b\"", "(\"a\" )", `"\a"`, `\`, `a\`, `\"a"`,
		"\"a\r\nb\"", "\"\n\"", "\"\r\"", "\"\x7f\"", "\"\xff\"", "\"caf\u00e9\"", "a\r\nb", "a\r\n", "\r\n", "\n", "\r", "a\n", "a\r", "a \r\n", "a\tb", "a\x00b", "\x00", "\x7f", "caf\u00e9", "\xff", "\u0161", "a\u00a0b", "a{b", "{",
		strings.Repeat("a", 41), strings.Repeat("a", 41) + " b", "b " + strings.Repeat("a", 41), "(" + strings.Repeat("a", 41) + ")", strings.Repeat("}", 41), strings.Repeat("a", 500),
		`"` + strings.Repeat("a", 41) + `"`, `"` + strings.Repeat(`\"`, 41) + `"`, strings.Repeat(" ", 500), strings.Repeat("{", 500),
	}
	for _, s := range list {
		checkNoLex(t, s)
	}
	for b := range 256 {
		s := oneByte(b)
		if b <= 32 || b >= 127 || strings.Contains(`{"\`, s) {
			checkNoLex(t, s)
			checkNoLex(t, "a"+s)
			checkNoLex(t, "(a) "+s)
			checkNoLex(t, s+"a")
		}
	}
}

func TestLexAccepts(t *testing.T) {
	checkLex(t, "")
	checkLex(t, "a", atom("a"))
	checkLex(t, ")", closing())
	checkLex(t, "((", opening(), opening())
	checkLex(t, "))", closing(), closing())
	checkLex(t, ") (", closing(), opening())
	checkLex(t, "() ()", opening(), closing(), opening(), closing())
	checkLex(t, "(a) b", opening(), atom("a"), closing(), atom("b"))
	checkLex(t, "a}b } 1}", atom("a}b"), atom("}"), atom("1}"))
	checkLex(t, `A1 store 1:* + (seen "")`, atom("A1"), atom("store"), atom("1:*"), atom("+"), opening(), atom("seen"), text(""), closing())
	checkLex(t, strings.Repeat("a", 40)+" "+strings.Repeat("b", 40), atom(strings.Repeat("a", 40)), atom(strings.Repeat("b", 40)))
	checkLex(t, `"`+strings.Repeat(`\"`, 40)+`"`, text(strings.Repeat(`"`, 40)))
	// MaxLine limits what is taken from an input buffer, not Lex.
	checkLex(t, strings.Repeat("a ", 300)+"a", slices.Repeat([]impl.Token{atom("a")}, 301)...)
	checkLex(t, strings.Repeat("(", 300), slices.Repeat([]impl.Token{opening()}, 300)...)
}

var (
	atomForm    = regexp.MustCompile(`^[!#-'*-Z\]-z|}~\[]+`)
	quotedForm  = regexp.MustCompile(`^"(?:[ !#-\[\]-~]|\\["\\])*"`)
	literalForm = regexp.MustCompile(`^\{(0|[1-9][0-9]?)\}\r\n`)
	escapedByte = regexp.MustCompile(`\\(.)`)
)

// cutToken reads the token at the beginning of s as the document describes it.
func cutToken(s string) (t impl.Token, rest string, ok bool) {
	if strings.HasPrefix(s, "(") {
		return opening(), s[1:], true
	}
	if strings.HasPrefix(s, ")") {
		return closing(), s[1:], true
	}
	if form := atomForm.FindString(s); form != "" {
		return atom(form), s[len(form):], len(form) <= 40
	}
	if form := quotedForm.FindString(s); form != "" {
		inside := escapedByte.ReplaceAllString(form[1:len(form)-1], "$1")
		return text(inside), s[len(form):], len(inside) <= 40
	}
	form := literalForm.FindStringSubmatch(s)
	if form == nil {
		return t, s, false
	}
	n, _ := strconv.Atoi(form[1])
	s = s[len(form[0]):]
	if n > 40 || n > len(s) {
		return t, s, false
	}
	return text(s[:n]), s[n:], true
}

// lexWant is what the document requires of Lex.
func lexWant(s string) ([]impl.Token, bool) {
	var list []impl.Token
	for s != "" {
		if n := len(list); n > 0 && list[n-1].Kind != impl.TkOpen && s[0] != ')' {
			if s[0] != ' ' || strings.HasPrefix(s, " )") {
				return nil, false
			}
			s = s[1:]
		}
		t, rest, ok := cutToken(s)
		if !ok {
			return nil, false
		}
		list, s = append(list, t), rest
	}
	return list, true
}

func checkLexWant(t *testing.T, s string) bool {
	t.Helper()
	want, ok := lexWant(s)
	if ok {
		checkLex(t, s, want...)
	} else {
		checkNoLex(t, s)
	}
	return ok
}

// Lex accepts a line if and only if it has the form that the document describes.
func TestLexIsExact(t *testing.T) {
	accepted := 0
	for _, s := range textsOver("a ()\"\\\n}", 6) {
		if checkLexWant(t, s) {
			accepted++
		}
	}
	pieces := []string{"a", " ", "(", ")", `"`, `\`, "{", "0", "1", "}", "\r", "\n", "\r\n", "{0}\r\n", "{1}\r\n", "{2}\r\n", "{10}\r\n", "{40}\r\n", "{41}\r\n", `""`, strings.Repeat("a", 38), "\xff"}
	random := rand.New(rand.NewSource(5))
	for range 300000 {
		var line strings.Builder
		for range 1 + random.Intn(8) {
			line.WriteString(pieces[random.Intn(len(pieces))])
		}
		if checkLexWant(t, line.String()) {
			accepted++
		}
	}
	if accepted < 10000 {
		t.Errorf("only %d lines were accepted", accepted)
	}
}

// A line with one byte removed, added or changed is read exactly too.
func TestLexOfDamagedLines(t *testing.T) {
	line := impl.LineOf([]impl.Token{atom("A1"), opening(), text("a \"b"), opening(), text("x\r\ny"), closing(), text("\r\n"), closing(), atom("z"), text(strings.Repeat("\n", 12))})
	for i := range len(line) {
		checkLexWant(t, line[:i]+line[i+1:])
		checkLexWant(t, line[:i])
		checkLexWant(t, line[i:])
		for b := range 256 {
			checkLexWant(t, line[:i]+oneByte(b)+line[i:])
			checkLexWant(t, line[:i]+oneByte(b)+line[i+1:])
		}
	}
}

func TestLiteralAt(t *testing.T) {
	cases := map[string]int{
		"{0}": 0, "{1}": 1, "a {12}": 12, "a{12}": 12, "{40}": 40, "{41}": 41, "{999999999}": 999999999, "{{3}": 3, "{1}{2}": 2, "{x {7}": 7, `"{5}`: 5, "}{5}": 5, "\r\n{6}": 6, "{6}\r\n{8}": 8, "\xff{9}": 9, "a ({10}": 10,
		"": -1, "{": -1, "}": -1, "{}": -1, "}{": -1, "a": -1, "3}": -1, "{3": -1, "{3}x": -1, "{3} ": -1, "{3}\r\n": -1, "{3}}": -1, "{3{}": -1, "{3}{": -1, "{3}{}": -1, "{3}{a}": -1,
		"{03}": -1, "{00}": -1, "{+3}": -1, "{-3}": -1, "{ 3}": -1, "{3 }": -1, "{3a}": -1, "{\n3}": -1, "{1000000000}": -1, "{4294967299}": -1, "{18446744073709551619}": -1, "{" + strings.Repeat("9", 300) + "}": -1, "(3)": -1, "{\uff13}": -1,
	}
	for s, want := range cases {
		if got := impl.LiteralAt(s); got != want {
			t.Errorf("LiteralAt(%q) = %d, want %d", s, got, want)
		}
	}
	for n := range 2000 {
		s := strconv.Itoa(n)
		if got := impl.LiteralAt("A1 append inbox () {" + s + "}"); got != n {
			t.Errorf("LiteralAt finds %d for %d", got, n)
		}
	}
}

// LiteralAt finds a number if and only if the last opening brace begins the length at the end.
func TestLiteralAtIsExact(t *testing.T) {
	form := regexp.MustCompile(`^(?:.|\n)*\{(0|[1-9][0-9]{0,8})\}$`)
	for _, s := range textsOver("{}019\n\xff", 6) {
		want := -1
		if m := form.FindStringSubmatch(strings.ToValidUTF8(s, "?")); m != nil {
			want, _ = strconv.Atoi(m[1])
		}
		if got := impl.LiteralAt(s); got != want {
			t.Fatalf("LiteralAt(%q) = %d, want %d", s, got, want)
		}
	}
}

// The text before the first line end of a line shows whether, and how far, the line goes on.
func TestLiteralAtFindsLiterals(t *testing.T) {
	for _, s := range lineTexts() {
		line := impl.LineOf([]impl.Token{atom("a"), opening(), text(s), closing()})
		before, _, found := strings.Cut(line, "\r\n")
		want := -1
		if found {
			want = len(s)
		}
		if got := impl.LiteralAt(before); got != want {
			t.Errorf("LiteralAt(%q) = %d, want %d", before, got, want)
		}
	}
}

func TestLexerLeavesItsArguments(t *testing.T) {
	room := []impl.Token{atom("a"), opening(), text("\n"), closing(), atom("rest")}
	kept := slices.Clone(room)
	if got := impl.LineOf(room[:4:5]); got != "a ({1}\r\n\n)" {
		t.Errorf("LineOf = %q", got)
	}
	if !slices.Equal(room, kept) {
		t.Errorf("LineOf changed its list to %+v", room)
	}
	first, _ := impl.Lex("a b")
	first[0] = closing()
	_ = append(first, opening())
	checkLex(t, "a b", atom("a"), atom("b"))
}
