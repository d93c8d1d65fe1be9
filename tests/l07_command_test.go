package tests

import (
	"math"
	"math/rand"
	"slices"
	"strings"
	"testing"

	"loop.example/g00501/impl"
)

// kindWords are the words of the kinds from 1 on, in the document's order.
var kindWords = []string{"login", "select", "close", "noop", "idle", "notify", "fetch", "store", "expunge", "copy", "append", "create", "delete", "rename", "logout"}

// The fields of a command besides Tag and Kind, as the tests number them.
const (
	fieldBox = iota
	fieldTo
	fieldUid
	fieldSet
	fieldOp
	fieldFlags
	fieldText
	fieldFilter
	fieldCount
)

// needed are the fields that are not zero in any valid command of a kind, mayHave those that may be.
var (
	needed = [][]int{
		{}, {fieldBox}, {}, {}, {}, {}, {fieldSet}, {fieldSet, fieldOp}, {}, {fieldSet, fieldBox}, {fieldBox}, {fieldBox}, {fieldBox}, {fieldBox, fieldTo}, {},
	}
	mayHave = [][]int{
		{}, {}, {}, {}, {}, {fieldFilter}, {fieldUid}, {fieldUid, fieldFlags}, {}, {fieldUid}, {fieldFlags, fieldText}, {}, {}, {}, {},
	}
)

var (
	goodTags = []string{"a", "Z", "0", "9", "a1", "A1b2", "abcdefgh", "ABCDWXYZ", "01234567", "login", "uid", "none", "NIL", "z9Z0a"}
	badTags  = []string{"", "abcdefghi", "012345678", "*", "+", "-", "a-", "-a", "a b", " a", "a ", "a.b", "a/b", "a_", "a\x00", "\r\n", "(", "\"a\"", "\\", "{1}", "\u00e9", "a\u00e9", "\u0663", "\xff", "\uff21", strings.Repeat("a", 256), strings.Repeat("a", 1<<16+1)}

	goodNames = []string{"a", "inbox", "a/b", "z/y/x/w/v/ut", "abcdefghijkl", "uid", "store", "none"}

	goodSets = [][]impl.Span{
		{span(1, 1)}, {span(0, 0)}, {span(1, 0)}, {span(0, 7)}, {span(5, 3)}, {span(2, 2), span(1, 1)}, {span(1, 3), span(5, 5), span(7, 0)}, {span(1, 1), span(1, 1), span(1, 1), span(1, 1), span(1, 1)}, {span(999999999, 999999999)}, {span(999999999, 0), span(0, 999999999)},
		{span(999999999, 999999998), span(999999999, 999999998), span(999999999, 999999998), span(999999999, 999999998), span(999999999, 999999998)},
	}
	badSets = [][]impl.Span{
		nil, {}, {span(-1, 1)}, {span(1, -1)}, {span(-1, -1)}, {span(1000000000, 1)}, {span(1, 1000000000)}, {span(1, 1), span(2, 1000000000)}, {span(1, 1), span(-5, 2), span(3, 3)}, {span(math.MinInt64, 0)}, {span(0, math.MaxInt64)}, {span(1<<32+1, 1)},
		{span(1, 1), span(2, 2), span(3, 3), span(4, 4), span(5, 5), span(6, 6)}, {{}, {}, {}, {}, {}, {}}, slices.Repeat([]impl.Span{span(1, 2)}, 100),
	}

	goodOps = []int{1, 2, 3}

	badFilters = []impl.Filter{
		filter(), {On: true, Scopes: []impl.Scope{}}, {Scopes: []impl.Scope{{}}}, {Scopes: []impl.Scope{{Kind: 1, Events: 1}}}, {Scopes: []impl.Scope{{Kind: 3, Names: []string{"a"}, Events: 15}}},
		filter(impl.Scope{}), filter(scope(1, 0)), filter(scope(1, 16)), filter(scope(0, 1)), filter(scope(5, 1)), filter(scope(1, 1, "a")), filter(scope(3, 1)), filter(scope(4, 1, "b", "a")), filter(scope(4, 1, "A")), filter(scope(4, 1, "a", "b", "c", "d")),
		filter(scope(1, 1), scope(2, -1)), filter(scope(2, 1), scope(2, 1), scope(2, 1), scope(2, 1)),
	}
)

// goodTexts are bodies of up to 40 bytes: every byte, and what a quoted string, a literal or a line may be confused by.
func goodTexts() []string {
	list := []string{"", "a", "a b", " ", "\"", "\\", "a\"b\\", "()", "(seen)", "{3}", "{3}\r\nabc", "\r\n", "\n", "a\r\nb c d\r\n", "\x00", "caf\u00e9", "\xff\xfe", "uid", "none"}
	for _, n := range []int{39, 40} {
		list = append(list, strings.Repeat("a", n), strings.Repeat("\"", n), strings.Repeat("\\", n), strings.Repeat(" ", n), strings.Repeat("\n", n), strings.Repeat("\xff", n), strings.Repeat("\u00e9", n/2))
	}
	for b := range 256 {
		list = append(list, oneByte(b), "x"+oneByte(b)+"y")
	}
	return list
}

func badTexts() []string {
	return []string{strings.Repeat("a", 41), strings.Repeat("\n", 41), strings.Repeat("\"", 41), strings.Repeat("\u00e9", 21), strings.Repeat("\x00", 42), strings.Repeat("a", 256), strings.Repeat("a", 1<<16)}
}

func someFilters() []impl.Filter {
	return []impl.Filter{
		filter(scope(1, 7)), filter(scope(2, 15)), filter(scope(3, 9, "a", "b")), filter(scope(4, 4, "a", "a/b", "ab")), filter(scope(4, 8, "set"), scope(1, 1), scope(1, 1)),
	}
}

func allFlags() []int {
	var list []int
	for bits := range 32 {
		list = append(list, bits)
	}
	return list
}

// setter changes one field of a command.
type setter func(c *impl.Command)

// plainChange gives a field a value that is valid and not zero.
func plainChange(field int) setter {
	return []setter{
		func(c *impl.Command) { c.Box = "inbox" },
		func(c *impl.Command) { c.To = "a/b" },
		func(c *impl.Command) { c.Uid = true },
		func(c *impl.Command) { c.Set = []impl.Span{span(1, 0)} },
		func(c *impl.Command) { c.Op = 2 },
		func(c *impl.Command) { c.Flags = 17 },
		func(c *impl.Command) { c.Text = "x" },
		func(c *impl.Command) { c.Filter = filter(scope(1, 7)) },
	}[field]
}

// goodChanges give a field each of the values that are valid where the field is used, in part zero ones.
func goodChanges(field int) []setter {
	switch field {
	case fieldBox:
		return changesTo(goodNames, func(c *impl.Command, s string) { c.Box = s })
	case fieldTo:
		return changesTo(goodNames, func(c *impl.Command, s string) { c.To = s })
	case fieldUid:
		return changesTo([]bool{false, true}, func(c *impl.Command, uid bool) { c.Uid = uid })
	case fieldSet:
		return changesTo(goodSets, func(c *impl.Command, set []impl.Span) { c.Set = set })
	case fieldOp:
		return changesTo(goodOps, func(c *impl.Command, op int) { c.Op = op })
	case fieldFlags:
		return changesTo(allFlags(), func(c *impl.Command, bits int) { c.Flags = bits })
	case fieldText:
		return changesTo(goodTexts(), func(c *impl.Command, s string) { c.Text = s })
	}
	filters := append(someFilters(), impl.Filter{}, impl.Filter{Scopes: []impl.Scope{}})
	return changesTo(filters, func(c *impl.Command, f impl.Filter) { c.Filter = f })
}

// badChanges give a field each of the values that are not valid where the field is used.
func badChanges(field int) []setter {
	switch field {
	case fieldBox:
		return changesTo(noNames, func(c *impl.Command, s string) { c.Box = s })
	case fieldTo:
		return changesTo(noNames, func(c *impl.Command, s string) { c.To = s })
	case fieldSet:
		return changesTo(badSets, func(c *impl.Command, set []impl.Span) { c.Set = set })
	case fieldOp:
		return changesTo(noOps, func(c *impl.Command, op int) { c.Op = op })
	case fieldFlags:
		return changesTo(noFlags, func(c *impl.Command, bits int) { c.Flags = bits })
	case fieldText:
		return changesTo(badTexts(), func(c *impl.Command, s string) { c.Text = s })
	case fieldFilter:
		return changesTo(badFilters, func(c *impl.Command, f impl.Filter) { c.Filter = f })
	}
	return nil
}

func changesTo[T any](values []T, set func(c *impl.Command, value T)) []setter {
	var list []setter
	for _, value := range values {
		list = append(list, func(c *impl.Command) { set(c, value) })
	}
	return list
}

func isNeeded(kind int, field int) bool { return slices.Contains(needed[kind-1], field) }

func isUsed(kind int, field int) bool {
	return isNeeded(kind, field) || slices.Contains(mayHave[kind-1], field)
}

func isZero(c impl.Command, field int) bool {
	return []bool{c.Box == "", c.To == "", !c.Uid, len(c.Set) == 0, c.Op == 0, c.Flags == 0, c.Text == "", !c.Filter.On && len(c.Filter.Scopes) == 0}[field]
}

// plainCommand is a valid command with no more fields than its kind needs.
func plainCommand(kind int) impl.Command {
	c := impl.Command{Tag: "a1", Kind: kind}
	for _, field := range needed[kind-1] {
		plainChange(field)(&c)
	}
	return c
}

// fullCommand is a valid command with every field that its kind may have.
func fullCommand(kind int) impl.Command {
	c := plainCommand(kind)
	for _, field := range mayHave[kind-1] {
		plainChange(field)(&c)
	}
	return c
}

// goodCommands are valid commands of every kind: all values of each field, and, at random, of all fields together.
func goodCommands() []impl.Command {
	random := rand.New(rand.NewSource(13))
	var list []impl.Command
	for kind := 1; kind <= 15; kind++ {
		plain, full := plainCommand(kind), fullCommand(kind)
		list = append(list, plain, full)
		for _, tag := range goodTags {
			c := full
			c.Tag = tag
			list = append(list, c)
		}
		used := slices.Concat(needed[kind-1], mayHave[kind-1])
		for _, field := range used {
			for _, change := range goodChanges(field) {
				one, more := plain, full
				change(&one)
				change(&more)
				list = append(list, one, more)
			}
		}
		for range 100 {
			c := full
			c.Tag = goodTags[random.Intn(len(goodTags))]
			for _, field := range used {
				changes := goodChanges(field)
				changes[random.Intn(len(changes))](&c)
			}
			list = append(list, c)
		}
	}
	return list
}

// equalCommands compares field by field, so that no other test needs SameCommand.
func equalCommands(a impl.Command, b impl.Command) bool {
	return a.Tag == b.Tag && a.Kind == b.Kind && a.Box == b.Box && a.To == b.To && a.Uid == b.Uid && slices.Equal(a.Set, b.Set) &&
		a.Op == b.Op && a.Flags == b.Flags && a.Text == b.Text && equalFilters(a.Filter, b.Filter)
}

// clonedCommand shares no memory with c.
func clonedCommand(c impl.Command) impl.Command {
	c.Set, c.Filter = slices.Clone(c.Set), copyOf(c.Filter)
	return c
}

func checkNoCommand(t *testing.T, c impl.Command) {
	t.Helper()
	if impl.CommandOk(c) {
		t.Fatalf("%+v is ok", c)
	}
	if got := impl.CommandTokens(c); len(got) != 0 {
		t.Fatalf("CommandTokens(%+v) = %+v", c, got)
	}
	if got := impl.CommandText(c); got != "" {
		t.Fatalf("CommandText(%+v) = %q", c, got)
	}
}

// commandTokensOf writes the tokens of a valid command as the document describes them.
func commandTokensOf(c impl.Command) []impl.Token {
	list := []impl.Token{atom(c.Tag)}
	if c.Uid {
		list = append(list, atom("uid"))
	}
	list = append(list, atom(kindWords[c.Kind-1]))
	flags := []impl.Token{opening()}
	for _, name := range namesOf(c.Flags) {
		flags = append(flags, atom(name))
	}
	flags = append(flags, closing())
	switch c.Kind {
	case 2, 12, 13:
		return append(list, atom(c.Box))
	case 6:
		return append(list, tokensOf(c.Filter)...)
	case 7:
		return append(list, atom(setWant(c.Set)))
	case 8:
		return append(append(list, atom(setWant(c.Set)), atom([]string{"+", "-", "="}[c.Op-1])), flags...)
	case 10:
		return append(list, atom(setWant(c.Set)), atom(c.Box))
	case 11:
		return append(append(append(list, atom(c.Box)), flags...), text(c.Text))
	case 14:
		return append(list, atom(c.Box), atom(c.To))
	}
	return list
}

func checkCommand(t *testing.T, c impl.Command) {
	t.Helper()
	if !impl.CommandOk(c) {
		t.Fatalf("%+v is not ok", c)
	}
	want := commandTokensOf(c)
	if got := impl.CommandTokens(c); !slices.Equal(got, want) {
		t.Fatalf("CommandTokens(%+v) = %+v, want %+v", c, got, want)
	}
	line := impl.CommandText(c)
	if len(setWant(c.Set)) > 40 {
		if line != "" {
			t.Fatalf("CommandText(%+v) = %q", c, line)
		}
		return
	}
	if back, ok := impl.Lex(line); !ok || !slices.Equal(back, want) || line != impl.LineOf(want) {
		t.Fatalf("CommandText(%+v) = %q, and its tokens are %+v, want %+v", c, line, back, want)
	}
}

func TestCommandConstants(t *testing.T) {
	kinds := []int{
		impl.KdLogin, impl.KdSelect, impl.KdClose, impl.KdNoop, impl.KdIdle, impl.KdNotify, impl.KdFetch, impl.KdStore,
		impl.KdExpunge, impl.KdCopy, impl.KdAppend, impl.KdCreate, impl.KdDelete, impl.KdRename, impl.KdLogout,
	}
	for i, kind := range kinds {
		if kind != i+1 {
			t.Errorf("the kind of %s is %d", kindWords[i], kind)
		}
	}
	if impl.MaxBody != 40 {
		t.Errorf("MaxBody is %d", impl.MaxBody)
	}
}

func TestKindWord(t *testing.T) {
	// Again and again, because the order of a map may differ from time to time.
	for range 50 {
		for i, word := range kindWords {
			if got := impl.KindWord(i + 1); got != word {
				t.Fatalf("KindWord(%d) = %q", i+1, got)
			}
		}
		for _, kind := range []int{0, -1, -15, 16, 17, 32, 255, 257, 1 << 32, 1<<32 + 1, -1<<32 + 1, math.MaxInt64, math.MinInt64, math.MinInt64 + 1} {
			if got := impl.KindWord(kind); got != "" {
				t.Fatalf("KindWord(%d) = %q", kind, got)
			}
		}
	}
}

func TestTagOk(t *testing.T) {
	for _, tag := range goodTags {
		if !impl.TagOk(tag) {
			t.Errorf("TagOk(%q) is false", tag)
		}
	}
	for _, tag := range badTags {
		if impl.TagOk(tag) {
			t.Errorf("TagOk(%q) is true", tag)
		}
	}
	for n := range 40 {
		if impl.TagOk(strings.Repeat("a", n)) != (n >= 1 && n <= 8) {
			t.Errorf("TagOk is wrong for %d bytes", n)
		}
	}
	const allowed = "abcdefghijklmnopqrstuvwxyzABCDEFGHIJKLMNOPQRSTUVWXYZ0123456789"
	for b := range 256 {
		s := oneByte(b)
		for _, tag := range []string{s, s + "a", "a" + s, "a" + s + "1", "abcdefg" + s, s + "bcdefgh"} {
			if impl.TagOk(tag) != (strings.IndexByte(allowed, byte(b)) >= 0) {
				t.Errorf("TagOk(%q) is wrong", tag)
			}
		}
	}
}

// P7: with every set of fields, each valid where it is used, a command is valid if and only if its kind needs or may have these fields and has those that it needs.
func TestCommandsUseOnlyTheirFields(t *testing.T) {
	for kind := 1; kind <= 15; kind++ {
		valid := 0
		for fields := range 1 << fieldCount {
			c, want := impl.Command{Tag: "a1", Kind: kind}, true
			for field := range fieldCount {
				has := fields>>field&1 == 1
				if has {
					plainChange(field)(&c)
				}
				if (has && !isUsed(kind, field)) || (!has && isNeeded(kind, field)) {
					want = false
				}
			}
			if !want {
				checkNoCommand(t, c)
				continue
			}
			checkCommand(t, c)
			valid++
		}
		if valid != 1<<len(mayHave[kind-1]) {
			t.Errorf("%d commands of kind %d are ok", valid, kind)
		}
	}
}

// P7: no value but zero of a field that the kind does not use is accepted, not even one that is invalid elsewhere.
func TestCommandsWithOtherFields(t *testing.T) {
	for kind := 1; kind <= 15; kind++ {
		for field := range fieldCount {
			if isUsed(kind, field) {
				continue
			}
			for _, change := range append(goodChanges(field), badChanges(field)...) {
				for _, c := range []impl.Command{plainCommand(kind), fullCommand(kind)} {
					change(&c)
					if isZero(c, field) {
						checkCommand(t, c)
					} else {
						checkNoCommand(t, c)
					}
				}
			}
		}
	}
}

// P7: the fields that the kind uses are valid.
func TestCommandsWithInvalidFields(t *testing.T) {
	for kind := 1; kind <= 15; kind++ {
		for field := range fieldCount {
			if !isUsed(kind, field) {
				continue
			}
			for _, change := range badChanges(field) {
				for _, c := range []impl.Command{plainCommand(kind), fullCommand(kind)} {
					change(&c)
					checkNoCommand(t, c)
				}
			}
		}
		for _, tag := range badTags {
			for _, c := range []impl.Command{plainCommand(kind), fullCommand(kind)} {
				c.Tag = tag
				checkNoCommand(t, c)
			}
		}
	}
}

// Whatever its fields are, a command of no kind is invalid.
func TestCommandsOfNoKind(t *testing.T) {
	checkNoCommand(t, impl.Command{})
	checkNoCommand(t, impl.Command{Kind: 1})
	checkNoCommand(t, impl.Command{Tag: "a1"})
	for _, kind := range []int{0, -1, -2, -14, 16, 17, 32, 1 << 32, 1<<32 + 1, 1<<32 + 8, -1<<32 + 1, math.MaxInt64, math.MinInt64, math.MinInt64 + 1} {
		for like := 1; like <= 15; like++ {
			for _, c := range []impl.Command{plainCommand(like), fullCommand(like)} {
				c.Kind = kind
				checkNoCommand(t, c)
			}
		}
	}
}

// P7: a valid command has the tokens of its fields, in the document's order.
func TestCommandTokens(t *testing.T) {
	long := 0
	for _, c := range goodCommands() {
		checkCommand(t, c)
		if impl.CommandText(c) == "" {
			long++
		}
	}
	if long == 0 {
		t.Error("no command has a set that is too long for a line")
	}
}

func TestCommandText(t *testing.T) {
	set := []impl.Span{span(1, 3), span(5, 5), span(7, 0)}
	cases := []struct {
		c    impl.Command
		line string
	}{
		{impl.Command{Tag: "a1", Kind: impl.KdLogin}, "a1 login"},
		{impl.Command{Tag: "A1", Kind: impl.KdSelect, Box: "inbox"}, "A1 select inbox"},
		{impl.Command{Tag: "1", Kind: impl.KdClose}, "1 close"},
		{impl.Command{Tag: "zZ9", Kind: impl.KdNoop}, "zZ9 noop"},
		{impl.Command{Tag: "abcdefgh", Kind: impl.KdIdle}, "abcdefgh idle"},
		{impl.Command{Tag: "n", Kind: impl.KdNotify}, "n notify none"},
		{impl.Command{Tag: "n", Kind: impl.KdNotify, Filter: impl.Filter{Scopes: []impl.Scope{}}}, "n notify none"},
		{impl.Command{Tag: "n", Kind: impl.KdNotify, Filter: filter(scope(1, 7), scope(3, 9, "a", "b"))}, "n notify set (selected (new gone flags)) (subtree (a b) (new names))"},
		{impl.Command{Tag: "f", Kind: impl.KdFetch, Set: set}, "f fetch 1:3,5,7:*"},
		{impl.Command{Tag: "f", Kind: impl.KdFetch, Set: set, Uid: true}, "f uid fetch 1:3,5,7:*"},
		{impl.Command{Tag: "uid", Kind: impl.KdFetch, Set: set}, "uid fetch 1:3,5,7:*"},
		{impl.Command{Tag: "s", Kind: impl.KdStore, Set: []impl.Span{{}}, Op: impl.OpAdd, Flags: impl.FgAll}, "s store * + (seen answered flagged deleted draft)"},
		{impl.Command{Tag: "s", Kind: impl.KdStore, Uid: true, Set: []impl.Span{span(5, 3)}, Op: impl.OpDrop, Flags: impl.FgDraft | impl.FgSeen}, "s uid store 5:3 - (seen draft)"},
		{impl.Command{Tag: "s", Kind: impl.KdStore, Set: []impl.Span{span(1, 0)}, Op: impl.OpSet}, "s store 1:* = ()"},
		{impl.Command{Tag: "e", Kind: impl.KdExpunge}, "e expunge"},
		{impl.Command{Tag: "c", Kind: impl.KdCopy, Set: []impl.Span{span(2, 2)}, Box: "a"}, "c copy 2 a"},
		{impl.Command{Tag: "c", Kind: impl.KdCopy, Uid: true, Set: []impl.Span{span(2, 2)}, Box: "a/b"}, "c uid copy 2 a/b"},
		{impl.Command{Tag: "p", Kind: impl.KdAppend, Box: "inbox"}, "p append inbox () \"\""},
		{impl.Command{Tag: "p", Kind: impl.KdAppend, Box: "a/b", Flags: impl.FgDeleted, Text: "a"}, "p append a/b (deleted) \"a\""},
		{impl.Command{Tag: "p", Kind: impl.KdAppend, Box: "inbox", Flags: impl.FgAnswered | impl.FgFlagged, Text: "a \"b\" \\"}, "p append inbox (answered flagged) \"a \\\"b\\\" \\\\\""},
		{impl.Command{Tag: "p", Kind: impl.KdAppend, Box: "inbox", Text: "x\ny"}, "p append inbox () {3}\r\nx\ny"},
		{impl.Command{Tag: "p", Kind: impl.KdAppend, Box: "inbox", Text: strings.Repeat("\n", 40)}, "p append inbox () {40}\r\n" + strings.Repeat("\n", 40)},
		{impl.Command{Tag: "p", Kind: impl.KdAppend, Box: "inbox", Text: strings.Repeat("\"", 40)}, "p append inbox () \"" + strings.Repeat("\\\"", 40) + "\""},
		{impl.Command{Tag: "k", Kind: impl.KdCreate, Box: "abcdefghijkl"}, "k create abcdefghijkl"},
		{impl.Command{Tag: "k", Kind: impl.KdDelete, Box: "a/b"}, "k delete a/b"},
		{impl.Command{Tag: "k", Kind: impl.KdRename, Box: "a", To: "b"}, "k rename a b"},
		{impl.Command{Tag: "k", Kind: impl.KdRename, Box: "b", To: "b"}, "k rename b b"},
		{impl.Command{Tag: "q", Kind: impl.KdLogout}, "q logout"},
	}
	for _, c := range cases {
		if got := impl.CommandText(c.c); got != c.line {
			t.Errorf("CommandText(%+v) = %q, want %q", c.c, got, c.line)
		}
		checkCommand(t, c.c)
	}
}

// A set of more than 40 bytes is an atom of the tokens, but of no line. The command is valid all the same.
func TestCommandTextOfLongSets(t *testing.T) {
	for _, c := range []struct {
		last int
		text string
	}{
		{12, "999999999:999999998,999999999:9999999,12"},
		{123, "999999999:999999998,999999999:9999999,123"},
	} {
		set := []impl.Span{span(999999999, 999999998), span(999999999, 9999999), span(c.last, c.last)}
		for _, kind := range []int{impl.KdFetch, impl.KdStore, impl.KdCopy} {
			for _, uid := range []bool{false, true} {
				command := plainCommand(kind)
				command.Set, command.Uid = set, uid
				checkCommand(t, command)
				list := impl.CommandTokens(command)
				if !slices.Contains(list, atom(c.text)) || (impl.CommandText(command) == "") != (len(c.text) > 40) {
					t.Errorf("%+v has the tokens %+v and the text %q", command, list, impl.CommandText(command))
				}
			}
		}
	}
}

func checkSameCommand(t *testing.T, a impl.Command, b impl.Command, want bool) {
	t.Helper()
	if impl.SameCommand(a, b) != want || impl.SameCommand(b, a) != want {
		t.Fatalf("SameCommand(%+v, %+v) is not %v", a, b, want)
	}
}

func TestSameCommand(t *testing.T) {
	list := goodCommands()
	random := rand.New(rand.NewSource(14))
	random.Shuffle(len(list), func(i, j int) { list[i], list[j] = list[j], list[i] })
	list = list[:400]
	for kind := -1; kind <= 16; kind++ {
		list = append(list, impl.Command{Kind: kind}, impl.Command{Tag: "a1", Kind: kind, Op: -1, Flags: 99, Text: strings.Repeat("x", 99), Filter: filter()})
	}
	for _, a := range list {
		checkSameCommand(t, a, clonedCommand(a), true)
		for _, b := range list {
			checkSameCommand(t, a, b, equalCommands(a, b))
		}
	}
}

// Each field counts by itself, whether the kind uses it or not.
func TestSameCommandComparesEveryField(t *testing.T) {
	everything := impl.Command{
		Tag: "a1", Kind: 8, Box: "a", To: "b", Uid: true, Set: []impl.Span{span(1, 2), span(3, 0)}, Op: 1, Flags: 3, Text: "x", Filter: filter(scope(3, 9, "a", "b"), scope(1, 7)),
	}
	changes := []setter{
		func(c *impl.Command) { c.Tag = "A1" },
		func(c *impl.Command) { c.Tag = "" },
		func(c *impl.Command) { c.Kind = 7 },
		func(c *impl.Command) { c.Kind = -8 },
		func(c *impl.Command) { c.Box = "b" },
		func(c *impl.Command) { c.Box = "" },
		func(c *impl.Command) { c.To = "a" },
		func(c *impl.Command) { c.To = "" },
		func(c *impl.Command) { c.Box, c.To = c.To, c.Box },
		func(c *impl.Command) { c.Uid = false },
		func(c *impl.Command) { c.Set = nil },
		func(c *impl.Command) { c.Set = c.Set[:1] },
		func(c *impl.Command) { c.Set = append(c.Set, impl.Span{}) },
		func(c *impl.Command) { c.Set[0], c.Set[1] = c.Set[1], c.Set[0] },
		func(c *impl.Command) { c.Set[0] = span(2, 1) },
		func(c *impl.Command) { c.Set[1].Low = 4 },
		func(c *impl.Command) { c.Set[1].High = 3 },
		func(c *impl.Command) { c.Op = 3 },
		func(c *impl.Command) { c.Op = 0 },
		func(c *impl.Command) { c.Flags = 1 },
		func(c *impl.Command) { c.Flags = 0 },
		func(c *impl.Command) { c.Op, c.Flags = c.Flags, c.Op },
		func(c *impl.Command) { c.Text = "X" },
		func(c *impl.Command) { c.Text = "" },
		func(c *impl.Command) { c.Filter.On = false },
		func(c *impl.Command) { c.Filter = impl.Filter{} },
		func(c *impl.Command) { c.Filter.Scopes = c.Filter.Scopes[:1] },
		func(c *impl.Command) { c.Filter.Scopes[0].Kind = 4 },
		func(c *impl.Command) { c.Filter.Scopes[1].Events = 15 },
		func(c *impl.Command) { c.Filter.Scopes[0].Names[1] = "c" },
	}
	for _, change := range changes {
		other := clonedCommand(everything)
		change(&other)
		checkSameCommand(t, everything, other, false)
		checkSameCommand(t, other, clonedCommand(other), true)
	}
	for field := range fieldCount {
		c := impl.Command{}
		plainChange(field)(&c)
		checkSameCommand(t, c, impl.Command{}, false)
	}
}

// A nil slice and an empty slice are equivalent in every field, in valid commands and in others.
func TestCommandsWithEmptySlices(t *testing.T) {
	for kind := 0; kind <= 16; kind++ {
		plain := impl.Command{Tag: "a1", Kind: kind}
		if kind >= 1 && kind <= 15 {
			plain = plainCommand(kind)
		}
		c := plain
		if len(c.Set) == 0 {
			c.Set = []impl.Span{}
		}
		c.Filter.Scopes = []impl.Scope{}
		checkSameCommand(t, plain, c, true)
		if impl.CommandOk(c) != (kind >= 1 && kind <= 15) || !slices.Equal(impl.CommandTokens(c), impl.CommandTokens(plain)) {
			t.Errorf("%+v differs from %+v", c, plain)
		}
	}
	c := plainCommand(impl.KdNotify)
	c.Filter = filter(impl.Scope{Kind: 1, Names: []string{}, Events: 1})
	checkSameCommand(t, c, impl.Command{Tag: "a1", Kind: impl.KdNotify, Filter: filter(scope(1, 1))}, true)
	checkCommand(t, c)
}

func TestCommandsLeaveTheirArguments(t *testing.T) {
	spans := []impl.Span{span(5, 3), span(0, 2), span(9, 9), span(8, 8)}
	names := []string{"a", "b", "c", "z"}
	scopes := []impl.Scope{{Kind: 3, Names: names[:2:4], Events: 9}, {Kind: 1, Events: 7}, {Kind: 9, Events: 99}}
	keptSpans, keptNames, keptScopes := slices.Clone(spans), slices.Clone(names), copyOf(impl.Filter{Scopes: scopes}).Scopes
	store := impl.Command{Tag: "s", Kind: impl.KdStore, Set: spans[:2:4], Op: impl.OpSet, Flags: 31}
	notify := impl.Command{Tag: "n", Kind: impl.KdNotify, Filter: impl.Filter{On: true, Scopes: scopes[:2:3]}}
	wrong := impl.Command{Tag: "w", Kind: impl.KdCopy, Set: spans[:3:4], Filter: notify.Filter}
	for _, c := range []impl.Command{store, notify, wrong} {
		kept := clonedCommand(c)
		first := impl.CommandTokens(c)
		want, line := slices.Clone(first), impl.CommandText(c)
		if impl.CommandOk(c) != (c.Tag != "w") || !impl.SameCommand(c, kept) {
			t.Errorf("%+v is not ok or has changed", c)
		}
		// A result is new memory: what is done to one does not show in another.
		for i := range first {
			first[i] = impl.Token{Kind: -1, Text: "changed"}
		}
		_ = append(first, atom("more"))
		if !slices.Equal(impl.CommandTokens(c), want) || impl.CommandText(c) != line || !equalCommands(c, kept) {
			t.Errorf("%+v has other tokens than before", c)
		}
	}
	if !slices.Equal(spans, keptSpans) || !slices.Equal(names, keptNames) || !equalFilters(impl.Filter{Scopes: scopes}, impl.Filter{Scopes: keptScopes}) {
		t.Errorf("an argument was changed: %+v, %q, %+v", spans, names, scopes)
	}
}
