package tests

import (
	"math"
	"slices"
	"strconv"
	"strings"
	"testing"

	"loop.example/g00501/impl"
)

// textsOver returns every text of at most most bytes of the alphabet.
func textsOver(alphabet string, most int) []string {
	all := []string{""}
	last := all
	for range most {
		var next []string
		for _, s := range last {
			for i := range len(alphabet) {
				next = append(next, s+alphabet[i:i+1])
			}
		}
		all = append(all, next...)
		last = next
	}
	return all
}

func allBytes() string {
	var b []byte
	for i := range 256 {
		b = append(b, byte(i))
	}
	return string(b)
}

func TestDigits(t *testing.T) {
	cases := map[int]string{
		0: "0", 1: "1", -1: "-1", 9: "9", 10: "10", -10: "-10", 100200: "100200",
		999999999: "999999999", 1000000000: "1000000000",
		math.MaxInt64: "9223372036854775807", math.MinInt64: "-9223372036854775808",
		math.MinInt64 + 1: "-9223372036854775807",
	}
	for n, want := range cases {
		if got := impl.Digits(n); got != want {
			t.Errorf("Digits(%d) = %q, want %q", n, got, want)
		}
	}
}

// P1 for numbers, including both ends of the range and every power of ten.
func TestNumberReadsDigits(t *testing.T) {
	list := []int{0, 999999999, 999999998, 123456789, 900000000, 500000005}
	for n := range 12000 {
		list = append(list, n)
	}
	for p := 1; p <= 100000000; p *= 10 {
		list = append(list, p-1, p, p+1, 9*p)
	}
	for n := 7; n <= 999999999; n += 1234577 {
		list = append(list, n)
	}
	for _, n := range list {
		got, ok := impl.Number(impl.Digits(n))
		if !ok || got != n {
			t.Fatalf("Number(Digits(%d)) = %d, %v", n, got, ok)
		}
	}
}

func TestNumberRejects(t *testing.T) {
	list := []string{
		"", " ", "-", "+", "-0", "-1", "+1", "00", "01", "007", "000000000", "0000000001",
		"1000000000", "1000000001", "9999999999", "10000000000", "0999999999",
		"4294967296", "4294967297", "9223372036854775807", "9223372036854775808",
		"18446744073709551616", "18446744073709551617", "-9223372036854775808",
		" 1", "1 ", "1\n", "1\x00", "1_000", "1,000", "1.0", "1e3", "0x1", "0b1", "1a", "a1", "12/4", "12:4",
		"\xff", "1\xff", "\u0661", "\uff11", strings.Repeat("9", 500), "1" + strings.Repeat("0", 500), strings.Repeat("0", 500),
	}
	for n := 1000000000; n <= math.MaxInt64/3; n *= 3 {
		list = append(list, impl.Digits(n), impl.Digits(-n))
	}
	for _, s := range list {
		if n, ok := impl.Number(s); ok || n != 0 {
			t.Errorf("Number(%q) = %d, %v, want 0, false", s, n, ok)
		}
	}
}

// Number accepts a text if and only if Digits writes it.
func TestNumberIsExact(t *testing.T) {
	for _, s := range textsOver("019-+ /:", 5) {
		want, err := strconv.Atoi(s)
		wantOk := err == nil && want >= 0 && strconv.Itoa(want) == s
		if !wantOk {
			want = 0
		}
		if n, ok := impl.Number(s); n != want || ok != wantOk {
			t.Fatalf("Number(%q) = %d, %v, want %d, %v", s, n, ok, want, wantOk)
		}
	}
	for b := range 256 {
		s := string([]byte{byte(b)})
		if _, ok := impl.Number(s); ok != (b >= '0' && b <= '9') {
			t.Errorf("Number(%q) is %v", s, ok)
		}
	}
}

func TestUpper(t *testing.T) {
	for b := range 256 {
		want := byte(b)
		if b >= 'a' && b <= 'z' {
			want -= 32
		}
		if got := impl.Upper(string([]byte{byte(b)})); got != string([]byte{want}) {
			t.Errorf("Upper of byte %d is %q", b, got)
		}
	}
	cases := map[string]string{
		"": "", "done": "DONE", "aZ{9`@[": "AZ{9`@[", "caf\u00e9": "CAF\u00e9", "\xe9a\xff": "\xe9A\xff", "a\x00z\r\n": "A\x00Z\r\n", "\u017f": "\u017f",
	}
	for s, want := range cases {
		if got := impl.Upper(s); got != want {
			t.Errorf("Upper(%q) = %q, want %q", s, got, want)
		}
	}
}

func TestParts(t *testing.T) {
	cases := []struct {
		s    string
		by   byte
		want []string
	}{
		{"", ',', []string{""}},
		{"", 0, []string{""}},
		{",", ',', []string{"", ""}},
		{",,", ',', []string{"", "", ""}},
		{"a", ',', []string{"a"}},
		{",a", ',', []string{"", "a"}},
		{"a,", ',', []string{"a", ""}},
		{"a,,b", ',', []string{"a", "", "b"}},
		{"a b\nc", '\n', []string{"a b", "c"}},
		{"a\x00b", 0, []string{"a", "b"}},
		{"a\xffb\xff", 0xff, []string{"a", "b", ""}},
		{"\u00e9", 0xa9, []string{"\xc3", ""}},
		{"\u00e9", 0xe9, []string{"\u00e9"}},
	}
	for _, c := range cases {
		if got := impl.Parts(c.s, c.by); !slices.Equal(got, c.want) {
			t.Errorf("Parts(%q, %d) = %q, want %q", c.s, c.by, got, c.want)
		}
	}
}

func TestJoined(t *testing.T) {
	cases := []struct {
		list []string
		by   string
		want string
	}{
		{nil, ",", ""},
		{[]string{}, ",", ""},
		{[]string{""}, ",", ""},
		{[]string{"a"}, ",", "a"},
		{[]string{"", ""}, ",", ","},
		{[]string{"a", "", "b"}, ", ", "a, , b"},
		{[]string{"a", "b"}, "", "ab"},
		{[]string{"\xff", "\x00"}, "\r\n", "\xff\r\n\x00"},
	}
	for _, c := range cases {
		if got := impl.Joined(c.list, c.by); got != c.want {
			t.Errorf("Joined(%q, %q) = %q, want %q", c.list, c.by, got, c.want)
		}
	}
}

// P1 for lists: what Joined writes, Parts reads, and the other way round.
func TestPartsReadJoined(t *testing.T) {
	for _, by := range []byte{',', 0, 0xff, 0xc3, '\n'} {
		sep := string([]byte{by})
		for _, s := range textsOver("a"+sep+"\xa9", 5) {
			list := impl.Parts(s, by)
			if len(list) != 1+strings.Count(s, sep) {
				t.Fatalf("Parts(%q, %d) has %d parts", s, by, len(list))
			}
			if got := impl.Joined(list, sep); got != s {
				t.Fatalf("Joined(Parts(%q, %d)) = %q", s, by, got)
			}
			if got := impl.Parts(impl.Joined(list, sep), by); !slices.Equal(got, list) {
				t.Fatalf("Parts(Joined(%q)) = %q", list, got)
			}
		}
	}
}

func TestHex(t *testing.T) {
	cases := map[string]string{
		"": "", "\x00": "00", "\xff": "ff", "\x0f\xf0": "0ff0", "\x9a\xa9": "9aa9", "AZ": "415a", "\u00e9": "c3a9", "\r\n": "0d0a",
	}
	for s, want := range cases {
		if got := impl.Hex(s); got != want {
			t.Errorf("Hex(%q) = %q, want %q", s, got, want)
		}
	}
}

// P1 for bytes.
func TestUnhexReadsHex(t *testing.T) {
	list := textsOver("\x00\x0f\x10\x7f\x80\xa0\xff", 4)
	list = append(list, allBytes(), strings.Repeat(allBytes(), 3))
	for b := range 256 {
		list = append(list, string([]byte{byte(b)}))
	}
	for _, s := range list {
		h := impl.Hex(s)
		if len(h) != 2*len(s) || strings.Trim(h, "0123456789abcdef") != "" {
			t.Fatalf("Hex(%q) = %q", s, h)
		}
		if got, ok := impl.Unhex(h); !ok || got != s {
			t.Fatalf("Unhex(Hex(%q)) = %q, %v", s, got, ok)
		}
	}
}

// Unhex accepts a text if and only if Hex writes it.
func TestUnhexIsExact(t *testing.T) {
	for _, s := range textsOver("09afAFgG/:`@ -", 4) {
		wantOk := len(s)%2 == 0 && strings.Trim(s, "0123456789abcdef") == ""
		got, ok := impl.Unhex(s)
		if ok != wantOk {
			t.Fatalf("Unhex(%q) = %q, %v", s, got, ok)
		}
		if ok && impl.Hex(got) != s {
			t.Fatalf("Hex(Unhex(%q)) = %q", s, impl.Hex(got))
		}
		if !ok && got != "" {
			t.Fatalf("Unhex(%q) = %q and false", s, got)
		}
	}
	for _, s := range []string{"0", "00f", "0x00", "00 ", " 00", "0 0", "00\n", "FA", "fA", "\xff\xff", "0\x00", "\x000", "\uff10", "-", "61626", "616263zz"} {
		if got, ok := impl.Unhex(s); ok || got != "" {
			t.Errorf("Unhex(%q) = %q, %v", s, got, ok)
		}
	}
	for b := range 256 {
		for _, s := range []string{string([]byte{byte(b), '0'}), string([]byte{'0', byte(b)})} {
			if _, ok := impl.Unhex(s); ok != (strings.Trim(s, "0123456789abcdef") == "") {
				t.Errorf("Unhex(%q) is %v", s, ok)
			}
		}
	}
}

func TestNumbersLeaveTheirArguments(t *testing.T) {
	room := []string{"a", "", "b", "rest"}
	if got := impl.Joined(room[:3:4], "-"); got != "a--b" {
		t.Errorf("Joined = %q", got)
	}
	if !slices.Equal(room, []string{"a", "", "b", "rest"}) {
		t.Errorf("Joined changed its list to %q", room)
	}
	first := impl.Parts("a,b", ',')
	first[0] = "x"
	_ = append(first, "y")
	if again := impl.Parts("a,b", ','); !slices.Equal(again, []string{"a", "b"}) {
		t.Errorf("Parts keeps its results: %q", again)
	}
}
