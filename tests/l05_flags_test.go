package tests

import (
	"math"
	"math/rand"
	"slices"
	"strings"
	"testing"

	"loop.example/g00501/impl"
)

// flagNames and flagValues are the flags of the document, in its order.
var (
	flagNames  = []string{"seen", "answered", "flagged", "deleted", "draft"}
	flagValues = []int{1, 2, 4, 8, 16}
)

var (
	noFlags = []int{-1, -2, -31, -32, 32, 33, 48, 63, 64, 1 << 31, 1 << 32, 1<<32 + 1, -1 << 32, math.MaxInt64, math.MinInt64, math.MinInt64 + 1}
	noOps   = []int{0, -1, -2, -3, 4, 5, 31, 1 << 32, 1<<32 + 1, 1<<32 + 2, 1<<32 + 3, math.MaxInt64, math.MinInt64, math.MinInt64 + 1}
)

// hasFlag divides instead of using bits, so that it cannot share a mistake with the program.
func hasFlag(bits int, flag int) bool { return bits/flag%2 == 1 }

// namesOf returns the names of the flags that are set, in the document's order.
func namesOf(bits int) []string {
	var names []string
	for i, flag := range flagValues {
		if hasFlag(bits, flag) {
			names = append(names, flagNames[i])
		}
	}
	return names
}

// wordsOver returns every list of at most most of the words.
func wordsOver(words []string, most int) [][]string {
	lists := [][]string{nil}
	for first, n := 0, 0; n < most; n++ {
		last := len(lists)
		for _, list := range lists[first:last] {
			for _, word := range words {
				lists = append(lists, append(slices.Clone(list), word))
			}
		}
		first = last
	}
	return lists
}

// mixed writes each letter in a case of its own.
func mixed(random *rand.Rand, word string) string {
	out := []byte(word)
	for i, b := range out {
		if random.Intn(2) == 0 {
			out[i] = strings.ToUpper(oneByte(int(b)))[0]
		}
	}
	return string(out)
}

func checkFlags(t *testing.T, words []string, want int) {
	t.Helper()
	if got, ok := impl.ReadFlags(words); !ok || got != want {
		t.Fatalf("ReadFlags(%q) = %d, %v, want %d", words, got, ok, want)
	}
}

func checkNoFlags(t *testing.T, words ...string) {
	t.Helper()
	if got, ok := impl.ReadFlags(words); ok || got != 0 {
		t.Fatalf("ReadFlags(%q) = %d, %v", words, got, ok)
	}
}

func checkChanged(t *testing.T, op int, old int, bits int, want int) {
	t.Helper()
	if got := impl.Changed(op, old, bits); got != want {
		t.Fatalf("Changed(%d, %d, %d) = %d, want %d", op, old, bits, got, want)
	}
}

func TestFlagConstants(t *testing.T) {
	if got := []int{impl.FgSeen, impl.FgAnswered, impl.FgFlagged, impl.FgDeleted, impl.FgDraft}; !slices.Equal(got, flagValues) {
		t.Errorf("the flags are %v", got)
	}
	if impl.FgAll != 31 {
		t.Errorf("FgAll is %d", impl.FgAll)
	}
	if impl.OpAdd != 1 || impl.OpDrop != 2 || impl.OpSet != 3 {
		t.Errorf("the ops are %d, %d, %d", impl.OpAdd, impl.OpDrop, impl.OpSet)
	}
}

func TestFlagsOk(t *testing.T) {
	for bits := -100; bits <= 200; bits++ {
		if impl.FlagsOk(bits) != (bits >= 0 && bits <= 31) {
			t.Errorf("FlagsOk(%d) is wrong", bits)
		}
	}
	for _, bits := range noFlags {
		if impl.FlagsOk(bits) {
			t.Errorf("FlagsOk(%d)", bits)
		}
	}
}

func TestFlagsText(t *testing.T) {
	cases := map[int]string{
		0: "", 1: "seen", 2: "answered", 4: "flagged", 8: "deleted", 16: "draft",
		3: "seen answered", 9: "seen deleted", 17: "seen draft", 24: "deleted draft",
		30: "answered flagged deleted draft", 31: "seen answered flagged deleted draft",
	}
	for bits, want := range cases {
		if got := impl.FlagsText(bits); got != want {
			t.Errorf("FlagsText(%d) = %q, want %q", bits, got, want)
		}
	}
	for bits := range 32 {
		if got, want := impl.FlagsText(bits), strings.Join(namesOf(bits), " "); got != want {
			t.Errorf("FlagsText(%d) = %q, want %q", bits, got, want)
		}
	}
	for _, bits := range noFlags {
		if got := impl.FlagsText(bits); got != "" {
			t.Errorf("FlagsText(%d) = %q", bits, got)
		}
	}
}

func TestReadFlags(t *testing.T) {
	checkFlags(t, nil, 0)
	checkFlags(t, []string{}, 0)
	checkFlags(t, []string{"Draft", "SEEN"}, 17)
	checkFlags(t, []string{"draft", "deleted", "flagged", "answered", "seen"}, 31)
	checkFlags(t, []string{"dElEtEd"}, 8)
	for bits := range 32 {
		checkFlags(t, namesOf(bits), bits)
		if text := impl.FlagsText(bits); text != "" {
			checkFlags(t, strings.Split(text, " "), bits)
			checkFlags(t, strings.Split(strings.ToUpper(text), " "), bits)
		}
	}
}

// P5: the words may have any order and any case, but a flag must not occur twice, however its words are written.
func TestReadFlagsInAnyOrder(t *testing.T) {
	random := rand.New(rand.NewSource(8))
	accepted := 0
	for _, names := range wordsOver(flagNames, 6) {
		want, twice := 0, false
		for i, name := range names {
			twice = twice || slices.Contains(names[:i], name)
			want += flagValues[slices.Index(flagNames, name)]
		}
		for range 3 {
			words := slices.Clone(names)
			for i := range words {
				words[i] = mixed(random, words[i])
			}
			if twice {
				checkNoFlags(t, words...)
				continue
			}
			checkFlags(t, words, want)
			accepted++
		}
	}
	// There are 1+5+20+60+120+120 lists of different flags.
	if accepted != 3*326 {
		t.Errorf("%d lists were accepted", accepted)
	}
}

func TestReadFlagsRejectsTwice(t *testing.T) {
	for i, name := range flagNames {
		other := flagNames[(i+1)%5]
		for _, again := range []string{name, strings.ToUpper(name), strings.ToUpper(name[:1]) + name[1:]} {
			checkNoFlags(t, name, again)
			checkNoFlags(t, again, name)
			checkNoFlags(t, again, again)
			checkNoFlags(t, name, other, again)
			checkNoFlags(t, other, again, name)
			checkNoFlags(t, again, name, other)
			checkNoFlags(t, name, again, name)
			checkNoFlags(t, name, again, name, again)
			checkNoFlags(t, append(slices.Clone(flagNames), again)...)
			checkNoFlags(t, append([]string{again}, flagNames...)...)
		}
	}
	checkNoFlags(t, slices.Repeat([]string{"seen"}, 1000)...)
	checkNoFlags(t, slices.Repeat(flagNames, 2)...)
}

func TestReadFlagsRejectsOtherWords(t *testing.T) {
	others := []string{
		"", " ", "see", "seenn", "seens", "een", "unseen", " seen", "seen ", "se en", "seen answered", "seen,draft", "seen+draft", "(seen)", `\seen`, `\Seen`, `"seen"`, "$seen",
		"seen\n", "\nseen", "seen\r\n", "seen\x00", "\x00", "seen\xff", "\xff", "drafts", "recent", "none", "all", "*", "?", "+", "-", "=", "0", "1", "16", "31", "s", "a", "f", "d",
		// Letters that case folding beyond ASCII would take for those of a flag.
		"\u017feen", "\u017fEEN", "an\u017fwered", "\uff53een", "s\u0435en", "de\u0142eted", "seen\u0301", "\ufeffseen", strings.Repeat("seen", 1000),
	}
	for _, other := range others {
		checkNoFlags(t, other)
		checkNoFlags(t, other, other)
		for _, name := range flagNames {
			checkNoFlags(t, other, name)
			checkNoFlags(t, name, other)
			checkNoFlags(t, name, other, flagNames[0])
		}
		checkNoFlags(t, append(slices.Clone(flagNames), other)...)
	}
	for _, name := range flagNames {
		for i := range len(name) {
			checkNoFlags(t, name[:i])
			checkNoFlags(t, name[i+1:])
			for b := range 256 {
				checkNoFlags(t, name[:i]+oneByte(b)+name[i:])
				checkNoFlags(t, name+oneByte(b))
				replaced := name[:i] + oneByte(b) + name[i+1:]
				if b != int(name[i]) && b != int(strings.ToUpper(name)[i]) {
					checkNoFlags(t, replaced)
					continue
				}
				checkFlags(t, []string{replaced}, flagValues[slices.Index(flagNames, name)])
			}
		}
	}
}

func TestChanged(t *testing.T) {
	checkChanged(t, impl.OpAdd, 1, 8, 9)
	checkChanged(t, impl.OpAdd, 1, 1, 1)
	checkChanged(t, impl.OpAdd, 9, 3, 11)
	checkChanged(t, impl.OpAdd, 31, 31, 31)
	checkChanged(t, impl.OpDrop, 9, 1, 8)
	checkChanged(t, impl.OpDrop, 8, 1, 8)
	checkChanged(t, impl.OpDrop, 9, 31, 0)
	checkChanged(t, impl.OpSet, 9, 2, 2)
	checkChanged(t, impl.OpSet, 31, 0, 0)
	checkChanged(t, impl.OpSet, 0, 31, 31)
}

// P5: each op has its effect on each flag, for all sets of flags.
func TestChangedFlagByFlag(t *testing.T) {
	for old := range 32 {
		for bits := range 32 {
			added, dropped := 0, 0
			for _, flag := range flagValues {
				if hasFlag(old, flag) || hasFlag(bits, flag) {
					added += flag
				}
				if hasFlag(old, flag) && !hasFlag(bits, flag) {
					dropped += flag
				}
			}
			checkChanged(t, 1, old, bits, added)
			checkChanged(t, 2, old, bits, dropped)
			checkChanged(t, 3, old, bits, bits)
			for _, op := range noOps {
				checkChanged(t, op, old, bits, old)
			}
		}
	}
}

func TestChangedKeepsInvalid(t *testing.T) {
	ops := append([]int{1, 2, 3}, noOps...)
	for _, op := range ops {
		for _, wrong := range noFlags {
			for good := range 32 {
				checkChanged(t, op, wrong, good, wrong)
				checkChanged(t, op, good, wrong, good)
			}
			for _, other := range noFlags {
				checkChanged(t, op, wrong, other, wrong)
			}
		}
	}
}

func TestOpText(t *testing.T) {
	for op, want := range map[int]string{1: "+", 2: "-", 3: "="} {
		if got := impl.OpText(op); got != want {
			t.Errorf("OpText(%d) = %q, want %q", op, got, want)
		}
		if got, ok := impl.ReadOp(want); !ok || got != op {
			t.Errorf("ReadOp(%q) = %d, %v, want %d", want, got, ok, op)
		}
	}
	for _, op := range noOps {
		if got := impl.OpText(op); got != "" {
			t.Errorf("OpText(%d) = %q", op, got)
		}
	}
}

// ReadOp accepts a text if and only if OpText writes it for a valid op.
func TestReadOpIsExact(t *testing.T) {
	texts := []string{"", "++", "+-", "--", "==", "+=", "-=", "=+", "+ ", " +", "- ", " =", "+\n", "+\x00", "1", "2", "3", "?", "add", "drop", "set", "\u2212", "\u2010", "\uff0b", "\uff1d", "\u207a", strings.Repeat("+", 1000)}
	for a := range 256 {
		texts = append(texts, oneByte(a))
		for _, b := range []byte("+-= 1\x00\xff") {
			texts = append(texts, oneByte(a)+oneByte(int(b)), oneByte(int(b))+oneByte(a))
		}
	}
	for _, s := range texts {
		want := 0
		if len(s) == 1 {
			want = strings.Index("+-=", s) + 1
		}
		if got, ok := impl.ReadOp(s); ok != (want != 0) || got != want {
			t.Fatalf("ReadOp(%q) = %d, %v, want %d", s, got, ok, want)
		}
	}
}

func TestReadFlagsLeavesItsArgument(t *testing.T) {
	room := []string{"Draft", "SEEN", "seen", "x", ""}
	kept := slices.Clone(room)
	checkFlags(t, room[:2:4], 17)
	checkNoFlags(t, room[:3:4]...)
	checkNoFlags(t, room[:4:5]...)
	if !slices.Equal(room, kept) {
		t.Errorf("the words are %q", room)
	}
}
