package tests

import (
	"math"
	"math/rand"
	"regexp"
	"slices"
	"strings"
	"testing"

	"loop.example/g00501/impl"
)

func checkParsed(t *testing.T, list []impl.Token, want impl.Command) {
	t.Helper()
	if got, ok := impl.ParseTokens(list); !ok || !equalCommands(got, want) {
		t.Fatalf("ParseTokens(%+v) = %+v, %v, want %+v", list, got, ok, want)
	}
}

func checkNotParsed(t *testing.T, list []impl.Token) {
	t.Helper()
	if got, ok := impl.ParseTokens(list); ok || !equalCommands(got, impl.Command{}) {
		t.Fatalf("ParseTokens(%+v) = %+v, %v", list, got, ok)
	}
}

// checkLine checks both functions that read a line, and that the text of its command is read as the same command.
func checkLine(t *testing.T, line string, want impl.Command) {
	t.Helper()
	if got, ok := impl.Parse(line); !ok || !equalCommands(got, want) {
		t.Fatalf("Parse(%q) = %+v, %v, want %+v", line, got, ok, want)
	}
	text := impl.LineOf(commandTokensOf(want))
	for _, s := range []string{line, text} {
		if got, ok := impl.Normal(s); !ok || got != text {
			t.Fatalf("Normal(%q) = %q, %v, want %q", s, got, ok, text)
		}
	}
}

func checkNoLine(t *testing.T, line string) {
	t.Helper()
	if got, ok := impl.Parse(line); ok || !equalCommands(got, impl.Command{}) {
		t.Fatalf("Parse(%q) = %+v, %v", line, got, ok)
	}
	if got, ok := impl.Normal(line); ok || got != "" {
		t.Fatalf("Normal(%q) = %q, %v", line, got, ok)
	}
}

// flagsIn are the atoms of the flags among the tokens of a command.
func flagsIn(list []impl.Token) []impl.Token {
	first := slices.Index(list, opening()) + 1
	if first == 0 || strings.ToLower(list[1].Text) == "notify" {
		return nil
	}
	return list[first : first+slices.Index(list[first:], closing())]
}

// otherCase writes the keywords among the tokens of a valid command as change does.
func otherCase(c impl.Command, change func(word string) string) []impl.Token {
	list := commandTokensOf(c)
	if c.Kind == impl.KdNotify {
		return slices.Concat(list[:1], keywordsAs(list[1:], change))
	}
	flags := flagsIn(list)
	copy(flags, keywordsAs(flags, change))
	list[1].Text = change(list[1].Text)
	if c.Uid {
		list[2].Text = change(list[2].Text)
	}
	return list
}

// P8: a valid command is read from its tokens, and from its line if it has one.
func TestParseReadsCommands(t *testing.T) {
	lines, long := 0, 0
	for _, c := range goodCommands() {
		list, line := impl.CommandTokens(c), impl.CommandText(c)
		checkParsed(t, list, c)
		got, _ := impl.ParseTokens(list)
		if !impl.CommandOk(got) || !impl.SameCommand(got, c) || !slices.Equal(impl.CommandTokens(got), list) {
			t.Fatalf("%+v does not round-trip", c)
		}
		if len(setWant(c.Set)) > 40 {
			long++
			continue
		}
		checkLine(t, line, c)
		lines++
	}
	if lines < 1000 || long == 0 {
		t.Errorf("%d commands have a line, and %d have a set that is too long for one", lines, long)
	}
}

// P8: a command is the same in whatever case its keywords and in whatever order its flags are.
func TestParseIgnoresCaseAndOrder(t *testing.T) {
	random := rand.New(rand.NewSource(15))
	mix := func(word string) string { return mixed(random, word) }
	changed := 0
	for _, c := range goodCommands() {
		for _, change := range []func(word string) string{strings.ToUpper, mix} {
			list := otherCase(c, change)
			flags := flagsIn(list)
			random.Shuffle(len(flags), func(i, j int) { flags[i], flags[j] = flags[j], flags[i] })
			checkParsed(t, list, c)
			if line := impl.LineOf(list); line != "" {
				checkLine(t, line, c)
			}
			if !slices.Equal(list, commandTokensOf(c)) {
				changed++
			}
		}
	}
	if changed < 1000 {
		t.Errorf("only %d lists differ from those of CommandTokens", changed)
	}
}

func TestParse(t *testing.T) {
	one := []impl.Span{span(1, 1)}
	cases := []struct {
		line string
		want impl.Command
	}{
		{"a1 login", impl.Command{Tag: "a1", Kind: impl.KdLogin}},
		{"A1 LOGIN", impl.Command{Tag: "A1", Kind: impl.KdLogin}},
		{"a SELECT inbox", impl.Command{Tag: "a", Kind: impl.KdSelect, Box: "inbox"}},
		{"a Select select", impl.Command{Tag: "a", Kind: impl.KdSelect, Box: "select"}},
		{"a ClosE", impl.Command{Tag: "a", Kind: impl.KdClose}},
		{"a NOOP", impl.Command{Tag: "a", Kind: impl.KdNoop}},
		{"noop noop", impl.Command{Tag: "noop", Kind: impl.KdNoop}},
		{"NOOP Noop", impl.Command{Tag: "NOOP", Kind: impl.KdNoop}},
		{"12345678 IDLE", impl.Command{Tag: "12345678", Kind: impl.KdIdle}},
		{"a notify none", impl.Command{Tag: "a", Kind: impl.KdNotify}},
		{"a NOTIFY NONE", impl.Command{Tag: "a", Kind: impl.KdNotify}},
		{"a NOTIFY SET (SELECTED (NEW GONE FLAGS)) (SUBTREE (a b/c) (NAMES)) (BOXES (new) (NEW))", impl.Command{Tag: "a", Kind: impl.KdNotify, Filter: filter(scope(1, 7), scope(3, 8, "a", "b/c"), scope(4, 1, "new"))}},
		{"a Notify Set (Personal (New Gone Flags Names))", impl.Command{Tag: "a", Kind: impl.KdNotify, Filter: filter(scope(2, 15))}},
		{"a FETCH 1:3,5,7:*", impl.Command{Tag: "a", Kind: impl.KdFetch, Set: []impl.Span{span(1, 3), span(5, 5), span(7, 0)}}},
		{"a UID FETCH *:1", impl.Command{Tag: "a", Kind: impl.KdFetch, Uid: true, Set: []impl.Span{span(0, 1)}}},
		{"uid uid fetch 1", impl.Command{Tag: "uid", Kind: impl.KdFetch, Uid: true, Set: one}},
		{"UID Uid Fetch 1", impl.Command{Tag: "UID", Kind: impl.KdFetch, Uid: true, Set: one}},
		{"uid fetch 1", impl.Command{Tag: "uid", Kind: impl.KdFetch, Set: one}},
		{"fetch fetch 1", impl.Command{Tag: "fetch", Kind: impl.KdFetch, Set: one}},
		{"a STORE 1 + (SEEN)", impl.Command{Tag: "a", Kind: impl.KdStore, Set: one, Op: impl.OpAdd, Flags: impl.FgSeen}},
		{"a Uid Store 1 - (Draft DELETED flagged Answered sEEn)", impl.Command{Tag: "a", Kind: impl.KdStore, Uid: true, Set: one, Op: impl.OpDrop, Flags: impl.FgAll}},
		{"a store * = ()", impl.Command{Tag: "a", Kind: impl.KdStore, Set: []impl.Span{{}}, Op: impl.OpSet}},
		{"a EXPUNGE", impl.Command{Tag: "a", Kind: impl.KdExpunge}},
		{"a COPY 1 copy", impl.Command{Tag: "a", Kind: impl.KdCopy, Set: one, Box: "copy"}},
		{"a UID COPY 1 uid", impl.Command{Tag: "a", Kind: impl.KdCopy, Uid: true, Set: one, Box: "uid"}},
		{"a APPEND inbox () \"\"", impl.Command{Tag: "a", Kind: impl.KdAppend, Box: "inbox"}},
		{"a Append append (DRAFT seen) \"SEEN\"", impl.Command{Tag: "a", Kind: impl.KdAppend, Box: "append", Flags: impl.FgSeen | impl.FgDraft, Text: "SEEN"}},
		{"a append seen (Seen) \"a \\\"b\\\" \\\\\"", impl.Command{Tag: "a", Kind: impl.KdAppend, Box: "seen", Flags: impl.FgSeen, Text: "a \"b\" \\"}},
		{"a append x () {0}\r\n", impl.Command{Tag: "a", Kind: impl.KdAppend, Box: "x"}},
		{"a append x () {1}\r\nA", impl.Command{Tag: "a", Kind: impl.KdAppend, Box: "x", Text: "A"}},
		{"a append x () {4}\r\n\r\n\r\n", impl.Command{Tag: "a", Kind: impl.KdAppend, Box: "x", Text: "\r\n\r\n"}},
		{"a append x () {8}\r\n\x00\xff ()\"\\{", impl.Command{Tag: "a", Kind: impl.KdAppend, Box: "x", Text: "\x00\xff ()\"\\{"}},
		{"a CREATE a/b", impl.Command{Tag: "a", Kind: impl.KdCreate, Box: "a/b"}},
		{"a DELETE abcdefghijkl", impl.Command{Tag: "a", Kind: impl.KdDelete, Box: "abcdefghijkl"}},
		{"a RENAME a b", impl.Command{Tag: "a", Kind: impl.KdRename, Box: "a", To: "b"}},
		{"a rename rename rename", impl.Command{Tag: "a", Kind: impl.KdRename, Box: "rename", To: "rename"}},
		{"a LogOut", impl.Command{Tag: "a", Kind: impl.KdLogout}},
	}
	for _, c := range cases {
		checkLine(t, c.line, c.want)
		list, _ := impl.Lex(c.line)
		checkParsed(t, list, c.want)
	}
}

func TestParseRejects(t *testing.T) {
	lines := []string{
		"", " ", "a", "a ", " noop", "a  noop", "a noop ", "a\tnoop", "a noop\r\n", "a noop\n", "\r\n", "noop", "uid", "a hm", "a nop", "a noops", "a no op", "a logIN1", "a xyzzy 1", "a done", "done", "a b noop", "* noop", "a- noop", "abcdefghi noop", "caf\u00e9 noop", "() noop", "(a) noop", "\"a\" noop", "{1}\r\na noop",
		"a \"noop\"", "a {4}\r\nnoop", "a (noop)", "a ()", "a (", "a )", "(a noop)", "a noop a", "a noop noop", "a noop ()", "a noop \"\"", "a noop (", "a login x", "a login x y", "a login \"x\" \"y\"", "a logout x", "a close inbox", "a idle 1", "a expunge 1", "a expunge ()",
		"a uid", "a uid uid", "a uid noop", "a UID LOGIN", "a uid uid fetch 1", "a uid select inbox", "a uid close", "a uid idle", "a uid notify none", "a uid expunge", "a uid expunge 1", "a uid append a () \"\"", "a uid create a", "a uid delete a", "a uid rename a b", "a uid logout", "a uid hm", "a \"uid\" fetch 1", "a fetch uid 1", "a uidfetch 1",
		"a select", "a select A", "a select INBOX", "a select a b", "a select \"a\"", "a select (a)", "a select a/", "a select /a", "a select a//b", "a select abcdefghijklm", "a select 1", "a select *", "a select \"\"", "a select {1}\r\na", "a create", "a create A", "a create a b", "a create \"a\"", "a delete", "a delete a A", "a delete Aa", "a delete \"a\"",
		"a rename", "a rename a", "a rename a b c", "a rename A b", "a rename a B", "a rename \"a\" b", "a rename a \"b\"", "a rename (a b)", "a rename a ()", "a rename a b ()",
		"a fetch", "a fetch 1 2", "a fetch 0", "a fetch 1:1", "a fetch \"1\"", "a fetch (1)", "a fetch 1, 2", "a fetch 1 ()", "a fetch 1 (seen)", "a fetch a", "a fetch 1,2,3,4,5,6", "a fetch 1000000000", "a fetch 1:", "a fetch 1 inbox", "a fetch 1 + ()",
		"a store", "a store 1", "a store 1 +", "a store 1 ()", "a store + ()", "a store 1 + () x", "a store 1 + ()x", "a store 1 * ()", "a store 1 ++ ()", "a store 1 +- ()", "a store 1 seen", "a store 1 + seen", "a store 1 + (seen", "a store 1 + seen)", "a store 1 + (seen seen)", "a store 1 + (seen SEEN)", "a store 1 + (Seen seen draft)", "a store 1 + (hm)", "a store 1 + (seen hm)", "a store 1 + (new)", "a store 1 + (\"seen\")", "a store 1 + ((seen))", "a store 1 + (seen) (draft)", "a store 1 + () ()", "a store 1 (seen) +", "a store 1 \"+\" ()", "a store \"1\" + ()", "a store 1 + \"\"", "a store 1 + ( )", "a store 1 ( )", "a store 1 + (\\seen)", "a store 1 +()", "a store 1:1 = ()", "a store 1 + () inbox", "a store inbox 1 + ()", "a store 1 = + ()", "a store 1 - -", "a store 1 + (seen)\r\n",
		"a copy", "a copy 1", "a copy inbox", "a copy inbox 1", "a copy 1 A", "a copy 1 a b", "a copy 1 \"a\"", "a copy \"1\" a", "a copy 1 (a)", "a copy 1 2", "a copy 1 a ()",
		"a append", "a append a", "a append a ()", "a append a \"\"", "a append a () x", "a append a () 1", "a append a () ()", "a append a () \"x\" \"y\"", "a append a () \"x\" ()", "a append a (x) \"x\"", "a append a (seen seen) \"x\"", "a append a (seen sEEn) \"x\"", "a append a (\"seen\") \"x\"", "a append a seen \"x\"", "a append A () \"x\"", "a append \"a\" () \"x\"", "a append () a \"x\"", "a append a \"x\" ()", "a append a () (\"x\")", "a append a () \"x", "a append a () x\"", "a append a () \"\\x\"", "a append a () {2}\r\nx", "a append a () {1}\r\nxy", "a append a () {1}\nx", "a append a () {01}\r\nx", "a append a () {x}\r\nx", "a append a () {1}x", "a append a () \"caf\u00e9\"", "a append a () \"\r\n\"", "a append a () {1}\r\nx ", "a append a ()  \"x\"", "a append a () + \"x\"", "a append 1 () \"x\"", "a append a b () \"x\"",
		"a notify", "a notify ()", "a notify none none", "a notify none x", "a notify nones", "a notify \"none\"", "a notify (none)", "a notify set", "a notify set none", "a notify set ()", "a notify set (selected)", "a notify set (selected ())", "a notify set (selected (new)", "a notify set (selected (gone new))", "a notify set (selected (NEW new))", "a notify set (boxes (A) (new))", "a notify set (boxes (b a) (new))", "a notify set (boxes (a b c d) (new))", "a notify set (selected (new)) x", "a notify (selected (new))", "a notify set (personal (new)) (personal (new)) (personal (new)) (personal (new))", "a notify set (hm (new))", "a notify set (selected (seen))", "a notify set (selected (hm))", "a notify inbox", "a notify 1",
	}
	for _, line := range lines {
		checkNoLine(t, line)
		if list, ok := impl.Lex(line); ok {
			checkNotParsed(t, list)
		}
	}
	for _, list := range [][]impl.Token{nil, {}, {{}}, {{}, {}}, {atom("a")}, {atom("a"), {}}, {atom("a"), atom("")}, {atom(""), atom("noop")}, {{}, atom("noop")}, {atom("a"), atom("noop"), {}}, {atom("a"), atom("noop"), atom("")}, {atom("a"), atom("noop ")}, {atom("a noop")}, {atom("a "), atom("noop")}} {
		checkNotParsed(t, list)
	}
	for _, other := range []impl.Token{atom("a"), atom("uid"), atom("noop"), atom("none"), atom("set"), opening(), closing(), text("a"), {}} {
		list := slices.Repeat([]impl.Token{other}, 5000)
		checkNotParsed(t, list)
		for _, c := range []impl.Command{plainCommand(impl.KdNoop), fullCommand(impl.KdNotify), fullCommand(impl.KdStore), fullCommand(impl.KdAppend)} {
			checkNotParsed(t, append(commandTokensOf(c), list...))
		}
	}
}

// Case folding beyond the letters a to z would take a long s for an s, and the sign of kelvin for a k.
func TestParseFoldsNoOtherLetters(t *testing.T) {
	folded := strings.NewReplacer("s", "\u017f", "S", "\u017f", "k", "\u212a", "K", "\u212a")
	for _, line := range []string{"a close", "a SELECT inbox", "a store 1 + (seen)", "a store 1 + (answered)", "a NOTIFY SET (SELECTED (NEW))", "a notify set (personal (new))", "a notify set (boxes (a) (flags))"} {
		list := looseTokens(line)
		for i := range list {
			if other := folded.Replace(list[i].Text); other != list[i].Text {
				changed := slices.Clone(list)
				changed[i].Text = other
				checkNotParsed(t, changed)
			}
		}
	}
	checkNotParsed(t, []impl.Token{atom("a"), atom("no\uff4fp")})
	checkNotParsed(t, []impl.Token{atom("a"), atom("u\u0131d"), atom("fetch"), atom("1")})
}

// Only keywords are case-insensitive: a tag is kept as it is, and a name has no upper-case letters.
func TestParseKeepsTagsAndNames(t *testing.T) {
	for _, tag := range goodTags {
		for _, other := range []string{tag, strings.ToUpper(tag), strings.ToLower(tag)} {
			checkLine(t, other+" NOOP", impl.Command{Tag: other, Kind: impl.KdNoop})
			checkLine(t, other+" UID FETCH 1", impl.Command{Tag: other, Kind: impl.KdFetch, Uid: true, Set: []impl.Span{span(1, 1)}})
		}
	}
	for _, tag := range badTags {
		checkNotParsed(t, []impl.Token{atom(tag), atom("noop")})
		checkNoLine(t, tag+" noop")
	}
	for _, name := range goodNames {
		for _, word := range []string{"select", "CREATE", "Delete"} {
			kind := slices.Index(kindWords, strings.ToLower(word)) + 1
			checkLine(t, "a "+word+" "+name, impl.Command{Tag: "a", Kind: kind, Box: name})
			checkNoLine(t, "a "+word+" "+strings.ToUpper(name))
			checkNoLine(t, "a "+word+" "+strings.ToUpper(name[:1])+name[1:])
		}
		checkNoLine(t, "a rename a "+strings.ToUpper(name))
		checkNoLine(t, "a copy 1 "+strings.ToUpper(name))
		checkNoLine(t, "a append "+strings.ToUpper(name)+" () \"\"")
	}
	for _, name := range noNames {
		for _, list := range [][]impl.Token{{atom("a"), atom("select"), atom(name)}, {atom("a"), atom("rename"), atom("a"), atom(name)}, {atom("a"), atom("rename"), atom(name), atom("a")}, {atom("a"), atom("copy"), atom("1"), atom(name)}, {atom("a"), atom("append"), atom(name), opening(), closing(), text("")}} {
			checkNotParsed(t, list)
		}
	}
}

// The limits of a line and of the tokens: a set of more than 40 bytes is in no line, but may be a token.
func TestParseLimits(t *testing.T) {
	for n := range 60 {
		body := strings.Repeat("a", n)
		want := impl.Command{Tag: "a", Kind: impl.KdAppend, Box: "b", Text: body}
		list := []impl.Token{atom("a"), atom("append"), atom("b"), opening(), closing(), text(body)}
		if n <= 40 {
			checkParsed(t, list, want)
			checkLine(t, "a append b () \""+body+"\"", want)
			checkLine(t, "a append b () "+literalOf(body), want)
			continue
		}
		checkNotParsed(t, list)
		checkNoLine(t, "a append b () \""+body+"\"")
		checkNoLine(t, "a append b () "+literalOf(body))
	}
	for _, c := range []struct {
		set  string
		last int
	}{
		{"999999999:999999998,999999999:9999999,12", 12}, {"999999999:999999998,999999999:9999999,123", 123},
	} {
		want := impl.Command{Tag: "a", Kind: impl.KdFetch, Uid: true, Set: []impl.Span{span(999999999, 999999998), span(999999999, 9999999), span(c.last, c.last)}}
		checkParsed(t, []impl.Token{atom("a"), atom("UID"), atom("FETCH"), atom(c.set)}, want)
		if len(c.set) <= 40 {
			checkLine(t, "a UID FETCH "+c.set, want)
		} else {
			checkNoLine(t, "a UID FETCH "+c.set)
		}
	}
	// Many words may be longer than MaxLine, which is no limit of Parse.
	name := "abcdefghijkl"
	scopes := []impl.Scope{scope(3, 15, "abcdefghijka", "abcdefghijkb", name), scope(4, 15, "abcdefghijka", "abcdefghijkb", name), scope(4, 15, "abcdefghijka", "abcdefghijkb", name)}
	long := impl.Command{Tag: "12345678", Kind: impl.KdNotify, Filter: filter(scopes...)}
	if line := impl.CommandText(long); len(line) <= impl.MaxLine {
		t.Errorf("%q has only %d bytes", line, len(line))
	} else {
		checkLine(t, line, long)
	}
}

var (
	plainAtom   = regexp.MustCompile(`^[a-zA-Z0-9/*:,+=-]+$`)
	nameForm    = `[a-z]+(?:/[a-z]+)*`
	flagForm    = `\((?: (?i:seen|answered|flagged|deleted|draft))* \)`
	numbersForm = strings.Trim(setForm.String(), "^$")
	commandForm = regexp.MustCompile(`^[a-zA-Z0-9]{1,8} (?:` + strings.Join([]string{
		`(?i:login|close|noop|idle|expunge|logout)`,
		`(?i:select|create|delete) (?P<name>` + nameForm + `)`,
		`(?i:rename) (?P<name>` + nameForm + `) (?P<name>` + nameForm + `)`,
		`(?i:append) (?P<name>` + nameForm + `) (?P<flags>` + flagForm + `) "text"`,
		`(?:(?i:uid) )?(?i:fetch) (?P<set>` + numbersForm + `)`,
		`(?:(?i:uid) )?(?i:copy) (?P<set>` + numbersForm + `) (?P<name>` + nameForm + `)`,
		`(?:(?i:uid) )?(?i:store) (?P<set>` + numbersForm + `) [-+=] (?P<flags>` + flagForm + `)`,
		`(?i:notify) .*`,
	}, "|") + `)$`)
)

// plainly is the list as one text, with "?" for each token that occurs in no command.
func plainly(list []impl.Token) string {
	var texts []string
	for _, t := range list {
		switch {
		case t == opening():
			texts = append(texts, "(")
		case t == closing():
			texts = append(texts, ")")
		case t.Kind == impl.TkAtom && plainAtom.MatchString(t.Text):
			texts = append(texts, t.Text)
		case t.Kind == impl.TkText && len(t.Text) <= 40:
			texts = append(texts, `"text"`)
		default:
			texts = append(texts, "?")
		}
	}
	return strings.Join(texts, " ")
}

// isCommand reports whether the document has a command with these tokens.
func isCommand(list []impl.Token) bool {
	parts := commandForm.FindStringSubmatch(plainly(list))
	if parts == nil {
		return false
	}
	for i, part := range parts {
		switch commandForm.SubexpNames()[i] {
		case "name":
			if len(part) > 12 {
				return false
			}
		case "set":
			if part != "" && !readable(part) {
				return false
			}
		case "flags":
			words := strings.Fields(strings.ToLower(strings.Trim(part, "()")))
			slices.Sort(words)
			if !slices.Equal(words, slices.Compact(slices.Clone(words))) {
				return false
			}
		}
	}
	return strings.ToLower(list[1].Text) != "notify" || isFilter(list[2:])
}

// ordered is the list with the keywords in lower case and the flags in the document's order; what else has letters is in lower case anyway.
func ordered(list []impl.Token) []impl.Token {
	out := slices.Clone(list)
	for i, t := range out {
		if i > 0 && t.Kind == impl.TkAtom {
			out[i].Text = strings.ToLower(t.Text)
		}
	}
	slices.SortFunc(flagsIn(out), func(a, b impl.Token) int {
		return slices.Index(flagNames, a.Text) - slices.Index(flagNames, b.Text)
	})
	return out
}

// checkParseTokens checks the result for any list, and reports whether it is that of a command.
func checkParseTokens(t *testing.T, list []impl.Token) bool {
	t.Helper()
	if !isCommand(list) {
		checkNotParsed(t, list)
		return false
	}
	got, ok := impl.ParseTokens(list)
	if !ok || !impl.CommandOk(got) || !slices.Equal(commandTokensOf(got), ordered(list)) {
		t.Fatalf("ParseTokens(%+v) = %+v, %v", list, got, ok)
	}
	return true
}

// damagedCommands are commands that a change may make another command of, or none.
func damagedCommands() []impl.Command {
	set := []impl.Span{span(1, 3), span(0, 0)}
	list := []impl.Command{
		{Tag: "uid", Kind: impl.KdFetch, Set: set}, {Tag: "a", Kind: impl.KdFetch, Uid: true, Set: set}, {Tag: "a", Kind: impl.KdCopy, Uid: true, Set: set, Box: "copy"},
		{Tag: "a", Kind: impl.KdStore, Set: set, Op: impl.OpDrop, Flags: 31}, {Tag: "a", Kind: impl.KdStore, Uid: true, Set: set, Op: impl.OpSet}, {Tag: "a", Kind: impl.KdAppend, Box: "append", Flags: 31, Text: "seen"}, {Tag: "a", Kind: impl.KdAppend, Box: "a"},
		{Tag: "a", Kind: impl.KdNotify, Filter: filter(scope(3, 9, "a", "a/b"), scope(2, 2))}, {Tag: "select", Kind: impl.KdSelect, Box: "noop"}, {Tag: "a", Kind: impl.KdRename, Box: "rename", To: "b"},
	}
	for kind := 1; kind <= 15; kind++ {
		list = append(list, plainCommand(kind), fullCommand(kind))
	}
	return list
}

// P8: a list with one token removed, added, changed or moved is read exactly.
func TestParseTokensOfDamagedLists(t *testing.T) {
	tokens := []impl.Token{
		opening(), closing(), atom("a"), atom("A"), atom("inbox"), atom("a/"), atom("abcdefghijklm"), atom("1"), atom("0"), atom("*"), atom("2:2"), atom("1:*,3"), atom("+"), atom("-"), atom("="), atom("+-"), atom("uid"), atom("UID"), atom("seen"), atom("SEEN"), atom("Draft"), atom("new"), atom("none"), atom("NONE"), atom("set"),
		atom("hm"), atom(""), atom(" "), atom("("), atom("\u017feen"), atom("noop "), text("a"), text("1"), text("+"), text("noop"), text("uid"), text("seen"), text("none"), text(""), text("\r\n"), text(strings.Repeat("x", 40)), text(strings.Repeat("x", 41)), {}, {Kind: 5}, {Kind: -1}, {Kind: impl.TkOpen, Text: "("}, {Kind: impl.TkClose, Text: ")"}, {Kind: 1<<32 + 1, Text: "noop"}, {Kind: 1<<32 + 2, Text: "a"},
	}
	for i, word := range kindWords {
		tokens = append(tokens, atom(word), atom(strings.ToUpper(word)), atom(mixed(rand.New(rand.NewSource(int64(i))), word)))
	}
	accepted := 0
	check := func(list []impl.Token) {
		if checkParseTokens(t, list) {
			accepted++
		}
	}
	for _, c := range damagedCommands() {
		list := commandTokensOf(c)
		check(list)
		for i := range len(list) + 1 {
			check(list[:i])
			check(list[i:])
			check(slices.Concat(list[:i], list[max(i-1, 0):]))
			for _, other := range tokens {
				check(slices.Insert(slices.Clone(list), i, other))
				if i < len(list) {
					changed := slices.Clone(list)
					changed[i] = other
					check(changed)
				}
			}
			for j := range i {
				check(slices.Delete(slices.Clone(list), j, i))
				if i < len(list) {
					moved := slices.Clone(list)
					moved[i], moved[j] = moved[j], moved[i]
					check(moved)
				}
			}
		}
	}
	if accepted < 1000 {
		t.Errorf("only %d lists were accepted", accepted)
	}
}

// A string given as an atom, or an atom given as a string, is a different token, and so is one of another kind; a parenthesis has no text.
func TestParseTokensOfOtherKinds(t *testing.T) {
	for _, c := range damagedCommands() {
		list := commandTokensOf(c)
		for i := range list {
			for _, kind := range []int{0, -1, 1, 2, 3, 4, 5, 1<<32 + 1, 1<<32 + 2, 1<<32 + 3, math.MaxInt64, math.MinInt64} {
				for _, s := range []string{list[i].Text, "", "(", ")", " ", list[i].Text + " ", " " + list[i].Text, list[i].Text + "\x00", list[i].Text + "s", strings.ToUpper(list[i].Text)} {
					changed := slices.Clone(list)
					changed[i] = impl.Token{Kind: kind, Text: s}
					checkParseTokens(t, changed)
				}
			}
			other := slices.Clone(list)
			switch other[i].Kind {
			case impl.TkAtom:
				other[i].Kind = impl.TkText
			case impl.TkText:
				other[i].Kind = impl.TkAtom
			default:
				other[i].Text = impl.TokenText(other[i])
			}
			checkNotParsed(t, other)
		}
	}
}

// randomLine joins pieces of commands that often belong together.
func randomLine(random *rand.Rand) string {
	pick := func(list ...string) string { return list[random.Intn(len(list))] }
	set := pick("1", "*", "2:*,5", "1:1", "0", "1,2,3,4,5,6", "\"1\"")
	name := pick("a", "inbox", "a/b", "Inbox", "uid", "\"a\"", "abcdefghijklm", "1")
	flags := pick("()", "(seen)", "(Draft SEEN)", "(answered FLAGGED deleted)", "(seen Seen)", "(hm)", "(", "seen", "(\"seen\")", "(deleted draft seen answered flagged)")
	op := pick("+", "-", "=", "++", "seen", "\"+\"")
	body := pick("\"\"", "\"a b\"", "{2}\r\n\r\n", "{1}\r\nx", "x", "{40}\r\n"+strings.Repeat("\n", 40), "{41}\r\n"+strings.Repeat("\n", 41), "\"\\\"\"")
	scopes := pick("none", "NONE", "set (selected (new))", "SET (Boxes (a b) (GONE flags)) (personal (names))", "set", "set (boxes (b a) (new))", "set (subtree (A) (new))", "none none")
	list := []string{
		pick("LOGIN", "close", "Noop", "idle", "EXPUNGE", "logout", "hm"), pick("SELECT", "create", "Delete") + " " + name, pick("rename", "RENAME") + " " + name + " " + pick("b", "B", name), pick("append", "Append", "APPEND") + " " + name + " " + flags + " " + body,
		pick("fetch", "FETCH", "Fetch") + " " + set, pick("copy", "COPY") + " " + set + " " + name, pick("store", "STORE", "stORE") + " " + set + " " + op + " " + flags, pick("notify", "NOTIFY") + " " + scopes,
	}
	line := pick("a", "A1", "uid", "12345678", "123456789", "a-", "noop") + " " + pick("", "", "", "uid ", "UID ", "uid uid ") + pick(list...)
	return line + pick("", "", "", "", "", "", " ", " x", " ()", " "+name, " "+flags, "\r\n")
}

// P8: Parse accepts a line if and only if Lex does and the document has a command with its tokens.
func TestParseIsExact(t *testing.T) {
	random := rand.New(rand.NewSource(16))
	accepted := 0
	for range 100000 {
		line := randomLine(random)
		list, lexed := lexWant(line)
		if !lexed || !checkParseTokens(t, list) {
			checkNoLine(t, line)
			continue
		}
		c, _ := impl.ParseTokens(list)
		checkLine(t, line, c)
		accepted++
	}
	if accepted < 5000 {
		t.Errorf("only %d lines were accepted", accepted)
	}
}

// A line with one byte removed, added or changed is read exactly too.
func TestParseOfDamagedLines(t *testing.T) {
	for _, c := range damagedCommands() {
		line := impl.LineOf(commandTokensOf(c))
		check := func(s string) {
			list, lexed := lexWant(s)
			if !lexed || !isCommand(list) {
				checkNoLine(t, s)
				return
			}
			if got, ok := impl.Parse(s); !ok || !slices.Equal(commandTokensOf(got), ordered(list)) {
				t.Fatalf("Parse(%q) = %+v, %v", s, got, ok)
			}
		}
		for i := range len(line) {
			check(line[:i])
			check(line[i:])
			check(line[:i] + line[i+1:])
			for _, b := range []byte("aAsSuU0159 ()\"\\{}*:,+-=/\r\n\x00\x7f\xff") {
				check(line[:i] + oneByte(int(b)) + line[i:])
				check(line[:i] + oneByte(int(b)) + line[i+1:])
			}
		}
	}
}

func TestTagIn(t *testing.T) {
	cases := map[string]string{
		"a1 noop": "a1", "a1": "a1", "z": "z", "a1 ": "a1", "a1  noop": "a1", "A1 hm": "A1", "a b c": "a", "uid uid fetch 1": "uid", "12345678 x": "12345678", "done": "done", "DONE": "DONE",
		"a \"": "a", "a {5}\r\n": "a", "a \r\n": "a", "a \xff": "a", "a \x00": "a",
		"": "*", " ": "*", " a1": "*", "  a1 noop": "*", "123456789 x": "*", "123456789": "*", "a-b x": "*", "* noop": "*", "*": "*", "+": "*", "a\tnoop": "*", "a1\r\n": "*", "a1\r\n noop": "*", "(a) noop": "*", "a(b": "*", "\"a\" noop": "*", "{1}\r\na noop": "*", "caf\u00e9 noop": "*", "a\x00 noop": "*", "\xff noop": "*", "a\u00a0noop": "*",
	}
	for line, want := range cases {
		if got := impl.TagIn(line); got != want {
			t.Errorf("TagIn(%q) = %q, want %q", line, got, want)
		}
	}
	for _, end := range []string{"", " ", " noop", "  ", " \"", " \r\n", " a b", strings.Repeat(" ", 1000)} {
		for _, tag := range goodTags {
			if got := impl.TagIn(tag + end); got != tag {
				t.Errorf("TagIn(%q) = %q", tag+end, got)
			}
		}
		for _, tag := range badTags {
			if got, isTwo := impl.TagIn(tag+end), strings.HasPrefix(tag, "a "); !isTwo && got != "*" || isTwo && got != "a" {
				t.Errorf("TagIn(%q) = %q", tag+end, got)
			}
		}
	}
}

// A command that is read has the tag of its line, whether the rest of the line can be read or not.
func TestTagInOfCommands(t *testing.T) {
	random := rand.New(rand.NewSource(17))
	for range 20000 {
		line := randomLine(random)
		c, ok := impl.Parse(line)
		if tag := impl.TagIn(line); ok && tag != c.Tag || tag != "*" && (!impl.TagOk(tag) || !strings.HasPrefix(line+" ", tag+" ")) {
			t.Fatalf("TagIn(%q) = %q", line, tag)
		}
	}
}

// Normal writes a literal as a quoted string if it can, keywords in lower case, and flags in their order.
func TestNormal(t *testing.T) {
	for line, want := range map[string]string{
		"a1 UID Store 1:*,2 - (DRAFT Answered seen)":          "a1 uid store 1:*,2 - (seen answered draft)",
		"B APPEND inbox () {3}\r\na\"b":                       "B append inbox () \"a\\\"b\"",
		"b append a (deleted SEEN) {0}\r\n":                   "b append a (seen deleted) \"\"",
		"b append a () {2}\r\n\r\n":                           "b append a () {2}\r\n\r\n",
		"b append a () {40}\r\n" + strings.Repeat("\"", 40):   "b append a () \"" + strings.Repeat("\\\"", 40) + "\"",
		"c NOTIFY SET (PERSONAL (NAMES)) (Boxes (a b) (New))": "c notify set (personal (names)) (boxes (a b) (new))",
		"c notify NONE": "c notify none",
		"D NOOP":        "D noop",
		"e rename a b":  "e rename a b",
	} {
		if got, ok := impl.Normal(line); !ok || got != want {
			t.Errorf("Normal(%q) = %q, %v, want %q", line, got, ok, want)
		}
		if got, ok := impl.Normal(want); !ok || got != want {
			t.Errorf("Normal(%q) = %q, %v", want, got, ok)
		}
	}
}

func TestParsingLeavesItsArguments(t *testing.T) {
	for _, c := range damagedCommands() {
		list := append(otherCase(c, strings.ToUpper), atom("more"), text("more"))
		kept := slices.Clone(list)
		own := list[: len(list)-2 : len(list)]
		first, ok := impl.ParseTokens(own)
		second, _ := impl.ParseTokens(own)
		if !ok || !equalCommands(first, c) || !equalCommands(second, c) {
			t.Fatalf("ParseTokens(%+v) = %+v, %v", own, first, ok)
		}
		impl.ParseTokens(list)
		if !slices.Equal(list, kept) {
			t.Fatalf("an argument was changed: %+v", list)
		}
		// A result is new memory: what is done to one shows neither in another nor in the argument.
		for i := range first.Set {
			first.Set[i] = span(-1, -1)
		}
		for i := range first.Filter.Scopes {
			for j := range first.Filter.Scopes[i].Names {
				first.Filter.Scopes[i].Names[j] = "changed"
			}
			first.Filter.Scopes[i] = impl.Scope{}
		}
		again, _ := impl.ParseTokens(own)
		if !equalCommands(second, c) || !equalCommands(again, c) || !slices.Equal(list, kept) {
			t.Fatalf("%+v has changed to %+v and %+v", c, second, again)
		}
	}
}
