package tests

import (
	"math"
	"strings"
	"testing"

	"loop.example/g00501/impl"
)

const notInAtoms = "(){\"\\"

func oneByte(b int) string { return string([]byte{byte(b)}) }

// quoteOf is what the document requires of Quote, and whether there is a quoted string at all.
func quoteOf(s string) (string, bool) {
	if len(s) > 40 {
		return "", false
	}
	for i := range len(s) {
		if s[i] < 32 || s[i] > 126 {
			return "", false
		}
	}
	return `"` + strings.ReplaceAll(strings.ReplaceAll(s, `\`, `\\`), `"`, `\"`) + `"`, true
}

func checkUnquote(t *testing.T, s string, at int, want string, wantNext int) {
	t.Helper()
	if got, next := impl.Unquote(s, at); got != want || next != wantNext {
		t.Fatalf("Unquote(%q, %d) = %q, %d, want %q, %d", s, at, got, next, want, wantNext)
	}
}

func TestWordLimits(t *testing.T) {
	if impl.MaxName != 12 || impl.MaxWord != 40 {
		t.Errorf("MaxName is %d, MaxWord is %d", impl.MaxName, impl.MaxWord)
	}
}

func TestAtomOk(t *testing.T) {
	for b := range 256 {
		want := b >= 33 && b <= 126 && !strings.Contains(notInAtoms, oneByte(b))
		for _, s := range []string{oneByte(b), "a" + oneByte(b), oneByte(b) + "a", "a" + oneByte(b) + "a", strings.Repeat("a", 39) + oneByte(b)} {
			if impl.AtomOk(s) != want {
				t.Errorf("AtomOk(%q) is %v", s, !want)
			}
		}
	}
	cases := map[string]bool{
		"": false, "a": true, "}": true, "a+1*": true, "1:3,5,7:*": true, "'": true, "~!": true, "[]": true,
		strings.Repeat("a", 40): true, strings.Repeat("a", 41): false, strings.Repeat("}", 40): true,
		strings.Repeat("a", 400): false, strings.Repeat("a", 40) + " ": false,
		"caf\u00e9": false, "\ufffd": false, "\u0141": false, "a\xff": false, strings.Repeat("\u00e9", 20): false,
	}
	for s, want := range cases {
		if impl.AtomOk(s) != want {
			t.Errorf("AtomOk(%q) is %v", s, !want)
		}
	}
}

func TestQuote(t *testing.T) {
	cases := map[string]string{
		"": `""`, "a": `"a"`, " ": `" "`, "a b": `"a b"`, `"`: `"\""`, `\`: `"\\"`, `a"b\`: `"a\"b\\"`,
		`""`: `"\"\""`, `\"`: `"\\\""`, `\\"`: `"\\\\\""`, `"a"`: `"\"a\""`, "(){}": `"(){}"`, " ~": `" ~"`,
		strings.Repeat("a", 40): `"` + strings.Repeat("a", 40) + `"`, strings.Repeat("a", 41): "",
		strings.Repeat(`"`, 40): `"` + strings.Repeat(`\"`, 40) + `"`, strings.Repeat(`"`, 41): "",
		strings.Repeat(`\`, 40): `"` + strings.Repeat(`\\`, 40) + `"`, strings.Repeat(`\`, 41): "",
		"\n": "", "a\x00": "", "\x1f": "", "\x7f": "", "a\r\nb": "", "caf\u00e9": "", "\xff": "", "\ufffd": "", "\u0141": "",
	}
	for s, want := range cases {
		if got := impl.Quote(s); got != want {
			t.Errorf("Quote(%q) = %q, want %q", s, got, want)
		}
	}
	for b := range 256 {
		for _, s := range []string{oneByte(b), "a" + oneByte(b) + "a", strings.Repeat(" ", 39) + oneByte(b), strings.Repeat(" ", 40) + oneByte(b)} {
			if want, _ := quoteOf(s); impl.Quote(s) != want {
				t.Errorf("Quote(%q) = %q, want %q", s, impl.Quote(s), want)
			}
		}
	}
}

// P2: whatever stands before and after a quoted string, its text and the offset after it are found.
func TestUnquoteReadsQuoteAnywhere(t *testing.T) {
	texts := textsOver("a\"\\ ", 5)
	for n := range 41 {
		texts = append(texts, strings.Repeat("a", n), strings.Repeat(`"`, n), strings.Repeat(`\`, n))
	}
	texts = append(texts, "(){}~", strings.Repeat(`a"`, 20), strings.Repeat(`"\`, 20), strings.Repeat("a", 39)+`\`)
	around := []string{
		"", "a", " ", `"`, `\`, `""`, `\"`, `"\`, `\\`, "(", "\x00", "\r\n", "\xff", "\xc3", "\xa9", "\u00e9", "\ufffd", strings.Repeat("x", 300),
	}
	for _, text := range texts {
		q := impl.Quote(text)
		for _, before := range around {
			for _, after := range around {
				checkUnquote(t, before+q+after, len(before), text, len(before)+len(q))
			}
		}
	}
}

// P2 for several words in one line, each read at the offset that the one before it returned.
func TestUnquoteContinues(t *testing.T) {
	list := []string{"", `"`, `\`, "a b", `x"y\z`, `""`, strings.Repeat(`"`, 40), " "}
	line := ""
	for _, text := range list {
		line += impl.Quote(text)
	}
	at := 0
	for _, want := range list {
		text, next := impl.Unquote(line, at)
		if text != want || next != at+len(impl.Quote(want)) {
			t.Fatalf("Unquote(%q, %d) = %q, %d", line, at, text, next)
		}
		at = next
	}
	checkUnquote(t, line, at, "", -1)
}

// Unquote finds a text if and only if its Quote stands at the offset.
func TestUnquoteIsExact(t *testing.T) {
	alphabet := "a\"\\\x1f\xff"
	texts := textsOver("a\"\\", 4)
	for _, s := range textsOver(alphabet, 6) {
		for at := -2; at <= len(s)+2; at++ {
			want, wantNext := "", -1
			for _, text := range texts {
				q, _ := quoteOf(text)
				if at >= 0 && at <= len(s) && strings.HasPrefix(s[at:], q) {
					want, wantNext = text, at+len(q)
					break
				}
			}
			checkUnquote(t, s, at, want, wantNext)
		}
	}
}

func TestUnquoteRejects(t *testing.T) {
	list := []string{
		"", "a", " ", `"`, `"a`, `"\`, `"\"`, `"\\\"`, `\"a"`, ` "a"`, `a"b"`, `'a'`, `"\a"`, `"\n"`, `"\ "`, `"a\`, `"\\\`, `"\(a"`,
		"\"a\n\"", "\"\x00\"", "\"\x1f\"", "\"\x7f\"", "\"\xff\"", "\"\u00e9\"", "\"\ufffd\"", "\"\u0141\"", "\"\\\xff\"", "\"\\\u0122\"", "\u201ca\u201d",
		`"` + strings.Repeat("a", 41) + `"`, `"` + strings.Repeat(`\"`, 41) + `"`, `"` + strings.Repeat(`\\`, 41) + `"`,
		`"` + strings.Repeat("a", 40), `"` + strings.Repeat("a", 40) + `\"`, `"` + strings.Repeat("a", 40) + `\""`, `"` + strings.Repeat("a", 500) + `"`,
	}
	for _, s := range list {
		checkUnquote(t, s, 0, "", -1)
		checkUnquote(t, `x"`+s, 2, "", -1)
	}
	for b := range 256 {
		if b >= 32 && b <= 126 {
			continue
		}
		checkUnquote(t, `"a`+oneByte(b)+`b"`, 0, "", -1)
	}
	for b := range 256 {
		if b != '"' && b != '\\' {
			checkUnquote(t, `"a\`+oneByte(b)+`b"`, 0, "", -1)
		}
		if b != '"' {
			checkUnquote(t, oneByte(b)+`a"`, 0, "", -1)
		}
	}
}

func TestUnquoteOffsets(t *testing.T) {
	checkUnquote(t, `""`, 0, "", 2)
	checkUnquote(t, `"""`, 1, "", 3)
	checkUnquote(t, `x"a\"b"y`, 1, `a"b`, 7)
	checkUnquote(t, `x"a\"b"y`, 4, "b", 7)
	checkUnquote(t, `x"a\"b"y`, 6, "", -1)
	checkUnquote(t, `"a" "b"`, 2, " ", 5)
	for _, at := range []int{-1, -2, 3, 4, 5, math.MaxInt64, math.MaxInt64 - 1, math.MinInt64, math.MinInt64 + 1} {
		checkUnquote(t, `"a"`, at, "", -1)
		checkUnquote(t, "", at, "", -1)
	}
}

func TestWord(t *testing.T) {
	cases := map[string]string{
		"": `""`, "a": "a", "ab": "ab", "}": "}", "a b": `"a b"`, " ": `" "`, `"`: `"\""`, `\`: `"\\"`, "(": `"("`, ")": `")"`, "{": `"{"`, `a"b`: `"a\"b"`,
		strings.Repeat("a", 40): strings.Repeat("a", 40), strings.Repeat("a", 41): "", strings.Repeat(" ", 40): `"` + strings.Repeat(" ", 40) + `"`, strings.Repeat(" ", 41): "",
		"\n": "", "\x7f": "", "a\xff": "", "caf\u00e9": "",
	}
	for s, want := range cases {
		if got := impl.Word(s); got != want {
			t.Errorf("Word(%q) = %q, want %q", s, got, want)
		}
	}
	for b := range 256 {
		s := "x" + oneByte(b)
		want, _ := quoteOf(s)
		if b >= 33 && b <= 126 && !strings.Contains(notInAtoms, oneByte(b)) {
			want = s
		}
		if got := impl.Word(s); got != want {
			t.Errorf("Word(%q) = %q, want %q", s, got, want)
		}
	}
}

// P2 for words: a word that is no atom is read as a quoted string wherever it stands.
func TestUnquoteReadsWord(t *testing.T) {
	for _, s := range textsOver("a \"\\(", 4) {
		w := impl.Word(s)
		if impl.AtomOk(s) {
			if w != s {
				t.Fatalf("Word(%q) = %q", s, w)
			}
			checkUnquote(t, w, 0, "", -1)
			continue
		}
		checkUnquote(t, w, 0, s, len(w))
		checkUnquote(t, `a "`+w+` b`, 3, s, 3+len(w))
	}
}

func TestNameOk(t *testing.T) {
	for b := range 256 {
		letter := b >= 'a' && b <= 'z'
		cases := map[string]bool{
			oneByte(b): letter, "a" + oneByte(b): letter, oneByte(b) + "a": letter, "a" + oneByte(b) + "a": letter || b == '/',
		}
		for s, want := range cases {
			if impl.NameOk(s) != want {
				t.Errorf("NameOk(%q) is %v", s, !want)
			}
		}
	}
	for _, s := range textsOver("az/A", 6) {
		want := !strings.Contains(s, "A")
		for _, part := range strings.Split(s, "/") {
			want = want && part != ""
		}
		if impl.NameOk(s) != want {
			t.Errorf("NameOk(%q) is %v", s, !want)
		}
	}
	cases := map[string]bool{
		"": false, "inbox": true, "a/b/c/d/e/f": true, "abcdefghijkl": true, "abcdefghijklm": false, "a/b/c/d/e/fg": true, "a/b/c/d/e/f/": false,
		"a/b/c/d/e/f/g": false, strings.Repeat("a", 400): false, "abcdefghijkl/": false, "/abcdefghijk": false, "abcdefghijk/": false,
		"a//b": false, "//": false, "a b": false, "a1": false, "\u00e9": false, "\u0161": false, "a\xff": false, "a/\ufffd": false, "\u0161/a": false, "a\n": false,
	}
	for s, want := range cases {
		if impl.NameOk(s) != want {
			t.Errorf("NameOk(%q) is %v", s, !want)
		}
	}
}

func TestUnder(t *testing.T) {
	cases := []struct {
		name, top string
		want      bool
	}{
		{"a", "a", true}, {"a/b", "a", true}, {"a/b/c", "a", true}, {"a/b/c", "a/b", true}, {"a/b/c", "a/b/c", true},
		{"ab", "a", false}, {"a", "ab", false}, {"a", "a/b", false}, {"b", "a", false}, {"b/a", "a", false}, {"a/bc", "a/b", false}, {"ba/a", "a", false},
		{"", "", false}, {"a", "", false}, {"", "a", false}, {"/", "", false}, {"/a", "", false}, {"/a", "/a", false}, {"/a", "a", false},
		{"a/", "a", false}, {"a//b", "a", false}, {"a/b/", "a", false}, {"a/b", "a/", false}, {"a/", "a/", false}, {"A/b", "A", false}, {"a/B", "a", false}, {"A", "A", false},
		{"a/bcdefghijk", "a", true}, {"a/bcdefghijkl", "a", false}, {"abcdefghijkl", "abcdefghijkl", true},
		{"abcdefghijklm", "abcdefghijklm", false}, {"abcdefghijkl/a", "abcdefghijkl", false}, {"\xff", "\xff", false}, {"\u0161", "\u0161", false},
	}
	for _, c := range cases {
		if got := impl.Under(c.name, c.top); got != c.want {
			t.Errorf("Under(%q, %q) is %v", c.name, c.top, got)
		}
	}
	names := textsOver("ab/", 4)
	for _, name := range names {
		for _, top := range names {
			want := impl.NameOk(name) && impl.NameOk(top) && strings.HasPrefix(name+"/", top+"/")
			if impl.Under(name, top) != want {
				t.Fatalf("Under(%q, %q) is %v", name, top, !want)
			}
		}
	}
}
