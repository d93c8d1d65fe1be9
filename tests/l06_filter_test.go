package tests

import (
	"math"
	"math/rand"
	"regexp"
	"slices"
	"strings"
	"testing"

	"loop.example/g00501/impl"
)

// scopeWords and eventNames are the keywords of the document, in its order: those of the kinds from 1 on, and those of the bits.
var (
	scopeWords = []string{"selected", "personal", "subtree", "boxes"}
	eventNames = []string{"new", "gone", "flags", "names"}
)

var (
	noKinds  = []int{0, -1, -2, -3, -4, 5, 6, 15, 1 << 32, 1<<32 + 1, 1<<32 + 3, math.MaxInt64, math.MinInt64, math.MinInt64 + 4}
	noEvents = []int{0, -1, -8, -15, -16, 16, 17, 31, 1 << 31, 1 << 32, 1<<32 + 1, -1 << 32, math.MaxInt64, math.MinInt64, math.MinInt64 + 1}
	// noNames are not NameOk.
	noNames = []string{"", "/", "/a", "a/", "a//b", "A", "a b", "a1", "a.b", "inbox\n", "a\x00", "\xff", "caf\u00e9", "abcdefghijklm", "abcdef/ghijkl", "(", "\"a\"", "*"}
	// nameLists are lists that a scope with names may have. A name may be a keyword, and may be below another one.
	nameLists = [][]string{
		{"a"}, {"inbox"}, {"a/b"}, {"abcdefghijkl"}, {"a/b/c/d/e/fg"}, {"a", "b"}, {"a", "a/b"}, {"a/b", "ab"}, {"a", "a/b", "ab"}, {"a/a", "a/b", "b"}, {"a", "aa", "aaa"}, {"a/z", "aa", "b"},
		{"new"}, {"flags", "gone", "new"}, {"names"}, {"none"}, {"set"}, {"boxes", "selected", "subtree"}, {"personal"},
	}
	// noNameLists have wrong names, a wrong order, a name twice, or too many or too few names.
	noNameLists = [][]string{
		nil, {}, {"b", "a"}, {"a", "a"}, {"a/b", "a"}, {"ab", "a/b"}, {"a", "c", "b"}, {"b", "a", "c"}, {"a", "b", "b"}, {"a", "a", "b"}, {"a", "b", "a"}, {"c", "b", "a"},
		{"a", "b", "c", "d"}, {"a", "b", "c", "d", "e"}, {"a", "b", "c", "c"},
	}
)

func scope(kind int, events int, names ...string) impl.Scope {
	return impl.Scope{Kind: kind, Names: names, Events: events}
}

func filter(scopes ...impl.Scope) impl.Filter { return impl.Filter{On: true, Scopes: scopes} }

// goodScopes are valid scopes: every kind with every set of events, and every list of names.
func goodScopes() []impl.Scope {
	var list []impl.Scope
	for events := 1; events <= 15; events++ {
		list = append(list, scope(1, events), scope(2, events))
		for _, names := range nameLists {
			list = append(list, scope(3, events, names...), scope(4, events, names...))
		}
	}
	return list
}

// goodFilters are valid filters of one scope, and, at random, of two and three.
func goodFilters() []impl.Filter {
	scopes := goodScopes()
	list := []impl.Filter{{}}
	for _, s := range scopes {
		list = append(list, filter(s))
	}
	random := rand.New(rand.NewSource(9))
	pick := func() impl.Scope { return scopes[random.Intn(len(scopes))] }
	for range 2000 {
		list = append(list, filter(pick(), pick()), filter(pick(), pick(), pick()))
	}
	return list
}

// copyOf shares no memory with f, so that a change of one does not show in the other.
func copyOf(f impl.Filter) impl.Filter {
	scopes := slices.Clone(f.Scopes)
	for i := range scopes {
		scopes[i].Names = slices.Clone(scopes[i].Names)
	}
	return impl.Filter{On: f.On, Scopes: scopes}
}

// equalFilters compares field by field, so that no other test needs SameFilter.
func equalFilters(a impl.Filter, b impl.Filter) bool {
	if a.On != b.On || len(a.Scopes) != len(b.Scopes) {
		return false
	}
	for i, s := range a.Scopes {
		other := b.Scopes[i]
		if s.Kind != other.Kind || s.Events != other.Events || !slices.Equal(s.Names, other.Names) {
			return false
		}
	}
	return true
}

func checkFilter(t *testing.T, list []impl.Token, want impl.Filter) {
	t.Helper()
	if got, ok := impl.ReadFilter(list); !ok || !equalFilters(got, want) {
		t.Fatalf("ReadFilter(%+v) = %+v, %v, want %+v", list, got, ok, want)
	}
}

func checkNoFilter(t *testing.T, list []impl.Token) {
	t.Helper()
	if got, ok := impl.ReadFilter(list); ok || !equalFilters(got, impl.Filter{}) {
		t.Fatalf("ReadFilter(%+v) = %+v, %v", list, got, ok)
	}
}

func checkFilterLine(t *testing.T, line string, want impl.Filter) {
	t.Helper()
	list, ok := impl.Lex(line)
	if !ok {
		t.Fatalf("%q has no tokens", line)
	}
	checkFilter(t, list, want)
}

func checkNoFilterLine(t *testing.T, line string) {
	t.Helper()
	list, ok := impl.Lex(line)
	if !ok {
		t.Fatalf("%q has no tokens", line)
	}
	checkNoFilter(t, list)
}

func checkCovers(t *testing.T, s impl.Scope, selected string, name string, want bool) {
	t.Helper()
	if got := impl.Covers(s, selected, name); got != want {
		t.Fatalf("Covers(%+v, %q, %q) is %v", s, selected, name, got)
	}
}

func checkAdmits(t *testing.T, f impl.Filter, selected string, name string, event int, want bool) {
	t.Helper()
	if got := impl.Admits(f, selected, name, event); got != want {
		t.Fatalf("Admits(%+v, %q, %q, %d) is %v", f, selected, name, event, got)
	}
}

func TestFilterConstants(t *testing.T) {
	if impl.ScSelected != 1 || impl.ScPersonal != 2 || impl.ScSubtree != 3 || impl.ScBoxes != 4 {
		t.Error("the kinds of scopes are wrong")
	}
	if impl.EvNew != 1 || impl.EvGone != 2 || impl.EvFlags != 4 || impl.EvName != 8 || impl.EvAll != 15 {
		t.Error("the events are wrong")
	}
	if impl.MaxScopes != 3 {
		t.Errorf("MaxScopes is %d", impl.MaxScopes)
	}
}

func TestScopeOk(t *testing.T) {
	for _, s := range goodScopes() {
		if !impl.ScopeOk(s) {
			t.Errorf("%+v is not ok", s)
		}
		for _, events := range noEvents {
			if wrong := scope(s.Kind, events, s.Names...); impl.ScopeOk(wrong) {
				t.Errorf("%+v is ok", wrong)
			}
		}
		for _, kind := range noKinds {
			if wrong := scope(kind, s.Events, s.Names...); impl.ScopeOk(wrong) {
				t.Errorf("%+v is ok", wrong)
			}
		}
	}
}

func TestScopeOkNames(t *testing.T) {
	for _, kind := range []int{1, 2} {
		if !impl.ScopeOk(impl.Scope{Kind: kind, Names: []string{}, Events: 1}) {
			t.Errorf("kind %d needs nil names", kind)
		}
		for _, names := range nameLists {
			if s := scope(kind, 1, names...); impl.ScopeOk(s) {
				t.Errorf("%+v is ok", s)
			}
		}
		if s := scope(kind, 1, ""); impl.ScopeOk(s) {
			t.Errorf("%+v is ok", s)
		}
	}
	for _, kind := range []int{3, 4} {
		for _, names := range noNameLists {
			if s := scope(kind, 1, names...); impl.ScopeOk(s) {
				t.Errorf("%+v is ok", s)
			}
		}
		for _, wrong := range noNames {
			lists := [][]string{{wrong}, {wrong, "b"}, {"b", wrong}, {wrong, "b", "c"}, {"a", wrong, "c"}, {"a", "b", wrong}}
			for _, names := range lists {
				// In either order, so that a name is not left out only because of its place.
				for _, list := range [][]string{names, slices.Sorted(slices.Values(names))} {
					if s := scope(kind, 1, list...); impl.ScopeOk(s) {
						t.Errorf("%+v is ok", s)
					}
				}
			}
		}
	}
}

func TestFilterOk(t *testing.T) {
	random := rand.New(rand.NewSource(10))
	scopes := goodScopes()
	wrong := []impl.Scope{{}, scope(5, 1), scope(1, 0), scope(1, 16), scope(1, 1, "a"), scope(3, 1), scope(4, 1, "b", "a"), scope(3, 1, "A")}
	for n := range 7 {
		for range 50 {
			var list []impl.Scope
			for range n {
				list = append(list, scopes[random.Intn(len(scopes))])
			}
			if impl.FilterOk(filter(list...)) != (n >= 1 && n <= 3) {
				t.Fatalf("FilterOk is wrong for the scopes %+v", list)
			}
			if impl.FilterOk(impl.Filter{Scopes: list}) != (n == 0) {
				t.Fatalf("FilterOk is wrong without On for the scopes %+v", list)
			}
			for i := range list {
				for _, w := range wrong {
					damaged := slices.Clone(list)
					damaged[i] = w
					for _, on := range []bool{true, false} {
						if f := (impl.Filter{On: on, Scopes: damaged}); impl.FilterOk(f) || len(impl.FilterTokens(f)) != 0 {
							t.Fatalf("%+v is ok", f)
						}
					}
				}
			}
		}
	}
	if !impl.FilterOk(impl.Filter{Scopes: []impl.Scope{}}) || impl.FilterOk(impl.Filter{On: true, Scopes: []impl.Scope{}}) {
		t.Error("FilterOk is wrong for an empty slice")
	}
	same := scope(2, 15)
	if !impl.FilterOk(filter(same, same, same)) || impl.FilterOk(filter(same, same, same, same)) {
		t.Error("FilterOk is wrong for the same scope again")
	}
}

func TestCovers(t *testing.T) {
	selected, personal := scope(1, 15), scope(2, 15)
	checkCovers(t, selected, "q", "q", true)
	checkCovers(t, selected, "q", "q/a", false)
	checkCovers(t, selected, "q/a", "q", false)
	checkCovers(t, selected, "q", "", false)
	checkCovers(t, selected, "", "q", false)
	checkCovers(t, selected, "", "", false)
	checkCovers(t, personal, "", "q", true)
	checkCovers(t, personal, "q", "a/b/c", true)
	checkCovers(t, personal, "q", "", false)
	checkCovers(t, personal, "Q", "Q", false)
	// Nothing but the comparison is required of a selected mailbox.
	checkCovers(t, selected, "Q", "Q", true)
	for _, wrong := range noNames {
		checkCovers(t, selected, wrong, wrong, wrong != "")
		checkCovers(t, personal, wrong, wrong, false)
	}
}

func TestCoversNamesBelow(t *testing.T) {
	tree, boxes := scope(3, 15, "a", "b/c"), scope(4, 15, "a", "b/c")
	cases := []struct {
		name        string
		tree, boxes bool
	}{
		{"a", true, true}, {"a/b", true, false}, {"a/b/c", true, false}, {"a/a", true, false}, {"b/c", true, true}, {"b/c/d", true, false}, {"b/c/a", true, false},
		{"aa", false, false}, {"ab", false, false}, {"aa/a", false, false}, {"b", false, false}, {"b/a", false, false}, {"b/cd", false, false}, {"c", false, false}, {"c/a", false, false}, {"x/a", false, false},
		{"", false, false}, {"a/", false, false}, {"a//b", false, false}, {"/a", false, false}, {"A", false, false}, {"a/B", false, false}, {"a b", false, false},
		{"a/bcdefghijk", true, false}, {"a/bcdefghijkl", false, false},
	}
	for _, c := range cases {
		for _, selected := range []string{"", "a", c.name} {
			checkCovers(t, tree, selected, c.name, c.tree)
			checkCovers(t, boxes, selected, c.name, c.boxes)
		}
	}
	// The name below, or the name above, may be listed, too.
	both := scope(3, 15, "a", "a/b")
	checkCovers(t, both, "", "a/c", true)
	checkCovers(t, both, "", "a/b/c", true)
	below := scope(3, 15, "a/b")
	checkCovers(t, below, "", "a", false)
	checkCovers(t, below, "", "a/b", true)
	checkCovers(t, below, "", "a/bb", false)
}

// coversWant is what the document requires of Covers, with the names above a name written out.
func coversWant(s impl.Scope, selected string, name string) bool {
	switch s.Kind {
	case 1:
		return name == selected && name != ""
	case 2:
		return impl.NameOk(name)
	case 3:
		parts := strings.Split(name, "/")
		for n := range parts {
			above := strings.Join(parts[:n+1], "/")
			if impl.NameOk(name) && impl.NameOk(above) && slices.Contains(s.Names, above) {
				return true
			}
		}
	case 4:
		return slices.Contains(s.Names, name)
	}
	return false
}

// P6: for all kinds, valid or not, and for all short names.
func TestCoversIsExact(t *testing.T) {
	names := textsOver("ab/", 4)
	lists := [][]string{nil, {""}, {"/"}, {"a/"}, {"a", ""}, {"b", "a"}, {"", "/a"}, {"a", "a"}, {"ab", "b", "a/b", "b/a"}, {"a//", "a//b"}, {"aa", "ab", "ba", "bb", "b/b"}}
	for _, name := range names {
		lists = append(lists, []string{name}, []string{name, "b/a"}, []string{"a", "b", name})
	}
	for _, list := range lists {
		for kind := -1; kind <= 6; kind++ {
			s := scope(kind, 1, list...)
			for _, name := range names {
				for _, selected := range []string{"", "a", name} {
					checkCovers(t, s, selected, name, coversWant(s, selected, name))
				}
			}
		}
	}
	for _, kind := range noKinds {
		for _, name := range names {
			checkCovers(t, scope(kind, 15, name), name, name, false)
		}
	}
}

// The events of a scope do not matter to Covers, even if they are invalid.
func TestCoversIgnoresEvents(t *testing.T) {
	for _, s := range goodScopes() {
		for _, name := range []string{"", "a", "a/b", "ab", "inbox", "new"} {
			want := coversWant(s, "a", name)
			checkCovers(t, s, "a", name, want)
			for _, events := range noEvents {
				checkCovers(t, scope(s.Kind, events, s.Names...), "a", name, want)
			}
		}
	}
}

func TestAdmits(t *testing.T) {
	f := filter(scope(1, 7), scope(3, 9, "a", "b"))
	checkAdmits(t, f, "q", "q", 4, true)
	checkAdmits(t, f, "q", "q", 8, false)
	checkAdmits(t, f, "q", "a/x", 4, false)
	checkAdmits(t, f, "q", "a/x", 1, true)
	checkAdmits(t, f, "q", "a/x", 8, true)
	checkAdmits(t, f, "q", "ax", 1, false)
	checkAdmits(t, f, "", "q", 1, false)
	checkAdmits(t, f, "", "", 1, false)
	checkAdmits(t, f, "a", "a", 2, true)
	checkAdmits(t, f, "a", "a", 8, true)
	checkAdmits(t, f, "a", "b", 2, false)
	// One bit of the event is enough; without any bit, nothing is admitted.
	checkAdmits(t, f, "q", "q", 9, true)
	checkAdmits(t, f, "q", "q", 24, false)
	checkAdmits(t, f, "q", "q", 0, false)
	checkAdmits(t, f, "q", "q", 16, false)
	checkAdmits(t, f, "q", "q", -1, true)
	checkAdmits(t, f, "q", "q", -8, false)
	checkAdmits(t, f, "q", "q", math.MinInt64, false)
	// No scope has both the name and the event.
	checkAdmits(t, filter(scope(4, 1, "a"), scope(4, 2, "b")), "", "a", 2, false)
	checkAdmits(t, filter(scope(4, 1, "a"), scope(4, 2, "b")), "", "b", 1, false)
	checkAdmits(t, filter(), "a", "a", 1, false)
	checkAdmits(t, impl.Filter{}, "a", "a", 1, false)
}

// admitsWant is what the document requires of Admits, event by event.
func admitsWant(f impl.Filter, selected string, name string, event int) bool {
	for _, s := range f.Scopes {
		for bit := range 64 {
			if f.On && coversWant(s, selected, name) && s.Events>>bit&1 == 1 && event>>bit&1 == 1 {
				return true
			}
		}
	}
	return false
}

// P6: a filter admits what one of its scopes covers, with an event that this scope has.
func TestAdmitsIsExact(t *testing.T) {
	names := []string{"", "a", "a/b", "ab", "b", "A"}
	admitted := 0
	for i, f := range goodFilters() {
		if i%5 != 0 && len(f.Scopes) > 1 {
			continue
		}
		off := impl.Filter{Scopes: f.Scopes}
		for _, name := range names {
			for _, selected := range []string{"", "a"} {
				for event := range 18 {
					want := admitsWant(f, selected, name, event)
					checkAdmits(t, f, selected, name, event, want)
					checkAdmits(t, off, selected, name, event, false)
					if want {
						admitted++
					}
				}
			}
		}
	}
	if admitted < 10000 {
		t.Errorf("only %d were admitted", admitted)
	}
}

// Admits does not require a valid filter.
func TestAdmitsOfInvalidFilters(t *testing.T) {
	a := scope(4, 1, "a")
	filters := []impl.Filter{
		filter(a, a, a, scope(4, 2, "b")), filter(scope(4, 16, "a"), scope(2, -1)), filter(scope(1, 0), scope(4, 3, "b", "a")), filter(scope(9, 15, "a"), scope(1, 2, "b")),
		filter(scope(3, 15), scope(4, 15)), filter(scope(4, 15, "", "A")), filter(scope(3, 15, "", "A")), filter(scope(0, 15)), {Scopes: []impl.Scope{a}},
	}
	for _, f := range filters {
		for _, name := range []string{"", "a", "b", "A", "a/b"} {
			for _, selected := range []string{"", "a", name} {
				for _, event := range []int{0, 1, 2, 3, 8, 15, 16, -1, math.MaxInt64, math.MinInt64} {
					checkAdmits(t, f, selected, name, event, admitsWant(f, selected, name, event))
				}
			}
		}
	}
	checkAdmits(t, filters[0], "", "b", 2, true)
	checkAdmits(t, filters[1], "", "a", 16, true)
	checkAdmits(t, filters[2], "", "a", 2, true)
	checkAdmits(t, filters[3], "a", "a", 2, true)
	checkAdmits(t, filters[5], "", "A", 8, true)
}

// tokensOf writes the tokens of a valid filter as the document describes them.
func tokensOf(f impl.Filter) []impl.Token {
	if !f.On {
		return []impl.Token{atom("none")}
	}
	list := []impl.Token{atom("set")}
	for _, s := range f.Scopes {
		list = append(list, opening(), atom(scopeWords[s.Kind-1]))
		if s.Kind >= 3 {
			list = append(list, opening())
			for _, name := range s.Names {
				list = append(list, atom(name))
			}
			list = append(list, closing())
		}
		list = append(list, opening())
		for i, name := range eventNames {
			if s.Events>>i%2 == 1 {
				list = append(list, atom(name))
			}
		}
		list = append(list, closing(), closing())
	}
	return list
}

func TestFilterTokens(t *testing.T) {
	cases := []struct {
		f    impl.Filter
		line string
	}{
		{impl.Filter{}, "none"},
		{impl.Filter{Scopes: []impl.Scope{}}, "none"},
		{filter(scope(1, 1)), "set (selected (new))"},
		{filter(scope(2, 15)), "set (personal (new gone flags names))"},
		{filter(scope(3, 10, "a/b")), "set (subtree (a/b) (gone names))"},
		{filter(scope(4, 4, "a", "a/b", "ab")), "set (boxes (a a/b ab) (flags))"},
		{filter(scope(1, 7), scope(3, 9, "a", "b")), "set (selected (new gone flags)) (subtree (a b) (new names))"},
		{filter(scope(4, 1, "new"), scope(4, 1, "new"), scope(1, 8)), "set (boxes (new) (new)) (boxes (new) (new)) (selected (names))"},
	}
	for _, c := range cases {
		list := impl.FilterTokens(c.f)
		if got := impl.LineOf(list); got != c.line {
			t.Errorf("FilterTokens(%+v) is %q, want %q", c.f, got, c.line)
		}
		checkFilterLine(t, c.line, c.f)
	}
	for _, f := range goodFilters() {
		if got := impl.FilterTokens(f); !slices.Equal(got, tokensOf(f)) {
			t.Fatalf("FilterTokens(%+v) = %+v", f, got)
		}
	}
	wrong := []impl.Filter{filter(), {Scopes: []impl.Scope{scope(1, 1)}}, filter(scope(1, 0)), filter(scope(0, 1)), filter(scope(1, 1), scope(3, 1)), filter(scope(2, 1), scope(2, 1), scope(2, 1), scope(2, 1)), filter(scope(4, 1, "A")), filter(scope(2, 1, "a"))}
	for _, f := range wrong {
		if got := impl.FilterTokens(f); len(got) != 0 {
			t.Errorf("FilterTokens(%+v) = %+v", f, got)
		}
	}
}

// keywordsAs writes each keyword of the list as change does. An atom stands for a name, not a keyword, exactly in the group after subtree or boxes.
func keywordsAs(list []impl.Token, change func(word string) string) []impl.Token {
	out := slices.Clone(list)
	inNames := false
	for i, t := range list {
		if t.Kind == impl.TkOpen && i > 1 && list[i-2].Kind == impl.TkOpen {
			inNames = list[i-1].Text == "subtree" || list[i-1].Text == "boxes"
		}
		if t.Kind == impl.TkClose {
			inNames = false
		}
		if t.Kind == impl.TkAtom && !inNames {
			out[i].Text = change(t.Text)
		}
	}
	return out
}

// recased writes each keyword of the list in mixed case.
func recased(random *rand.Rand, list []impl.Token) []impl.Token {
	return keywordsAs(list, func(word string) string { return mixed(random, word) })
}

// P6: valid filters round-trip, as tokens and as a line, in whatever case their keywords are.
func TestReadFilterReadsFilterTokens(t *testing.T) {
	random := rand.New(rand.NewSource(11))
	for _, f := range goodFilters() {
		list := impl.FilterTokens(f)
		checkFilter(t, list, f)
		checkFilterLine(t, impl.LineOf(list), f)
		again := recased(random, list)
		checkFilter(t, again, f)
		got, _ := impl.ReadFilter(again)
		if !impl.FilterOk(got) || !impl.SameFilter(got, f) || !slices.Equal(impl.FilterTokens(got), list) {
			t.Fatalf("%+v does not round-trip", f)
		}
	}
}

func TestReadFilterIgnoresCase(t *testing.T) {
	checkFilterLine(t, "NONE", impl.Filter{})
	checkFilterLine(t, "nOnE", impl.Filter{})
	checkFilterLine(t, "SET (Selected (new GONE flags)) (subtree (a b) (new names))", filter(scope(1, 7), scope(3, 9, "a", "b")))
	checkFilterLine(t, "Set (PERSONAL (NEW Gone fLAGS naMes)) (BOXES (names new) (NAMES)) (SubTree (a) (nEw))", filter(scope(2, 15), scope(4, 8, "names", "new"), scope(3, 1, "a")))
	for _, line := range []string{"set (boxes (A) (new))", "set (subtree (a B) (new))", "set (boxes (New) (new))", "set (boxes (INBOX) (new))", "set (subtree (a/B) (new))", "SET (BOXES (A) (NEW))"} {
		checkNoFilterLine(t, line)
	}
	// Case folding beyond the letters a to z would take a long s for an s.
	for _, s := range []string{"\u017fet", "SE\uff34", "n\u00f6ne", "non\u0113"} {
		checkNoFilter(t, []impl.Token{atom(s)})
		checkNoFilter(t, []impl.Token{atom(s), opening(), atom("selected"), opening(), atom("new"), closing(), closing()})
	}
	checkNoFilter(t, []impl.Token{atom("set"), opening(), atom("\u017felected"), opening(), atom("new"), closing(), closing()})
	checkNoFilter(t, []impl.Token{atom("set"), opening(), atom("selected"), opening(), atom("flag\u017f"), closing(), closing()})
	checkNoFilter(t, []impl.Token{atom("set"), opening(), atom("boxes"), opening(), atom("\u017fet"), closing(), opening(), atom("new"), closing(), closing()})
}

func TestReadFilterRejects(t *testing.T) {
	lines := []string{
		"", "hm", "set", "SET", "on", "off", "all", "selected", "(none)", "none none", "none x", "none set", "none ()", "none (selected (new))", "set none", "set set (selected (new))", "(set (selected (new)))",
		"set ()", "set (selected)", "set (selected ())", "set (selected new)", "set selected (new)", "set (selected (new)", "set (selected (new)))", "set (selected (new)) x", "x set (selected (new))", "set x (selected (new))",
		"set (selected (new) (new))", "set (selected () (new))", "set (selected (a) (new))", "set (personal (a) (new))", "set (personal () (new))", "set (selected ((new)))", "set ((selected) (new))", "set ((selected (new)))", "set (selected (new)) ()", "set (selected (new)) (", "set (", "set (selected", "set (selected (", "set (selected (new",
		"set (selected (gone new))", "set (selected (new new))", "set (selected (names flags gone new))", "set (selected (new flags gone))", "set (selected (flags new))", "set (selected (new gone flags names new))", "set (selected (new NEW))", "set (selected (new hm))", "set (selected (hm))", "set (selected (hm new))", "set (selected (name))", "set (selected (flag))", "set (selected (all))", "set (selected (1))", "set (selected (a new))",
		"set (subtree (new))", "set (subtree (a))", "set (subtree () (new))", "set (boxes () (new))", "set (boxes (a) ())", "set (boxes a (new))", "set (boxes (a) new)", "set (boxes (new) (a))", "set (boxes (a))", "set (boxes (a) (new) (new))", "set (boxes (a) (b) (new))", "set (boxes (a) (b))", "set (boxes ((a)) (new))", "set (boxes (a (b)) (new))",
		"set (subtree (b a) (new))", "set (subtree (a a) (new))", "set (boxes (ab a/b) (new))", "set (boxes (a b c d) (new))", "set (boxes (a/) (new))", "set (boxes (/a) (new))", "set (boxes (a//b) (new))", "set (boxes (a1) (new))", "set (boxes (*) (new))", "set (boxes (abcdefghijklm) (new))", "set (boxes (a B) (new))",
		"set (selected (new)) (hm (new))", "set (hm (new))", "set (hm (a) (new))", "set (select (new))", "set (selecteds (new))", "set (box (a) (new))", "set (mailboxes (a) (new))", "set (names (new))", "set (new)",
		"set (selected (new)) (selected (new)) (selected (new)) (selected (new))", "set (selected (new)) none", "set (selected (new)) set (selected (new))", "set (selected (new)) (selected (gone new))",
		`"none"`, `"set" (selected (new))`, `set ("selected" (new))`, `set (selected ("new"))`, `set (boxes ("a") (new))`, `set (boxes ("") (new))`, `set (boxes (a "b") (new))`, "{4}\r\nnone",
	}
	for _, line := range lines {
		checkNoFilterLine(t, line)
	}
	checkNoFilter(t, nil)
	checkNoFilter(t, []impl.Token{})
	checkNoFilter(t, []impl.Token{{}})
	checkNoFilter(t, slices.Repeat([]impl.Token{opening()}, 1000))
	checkNoFilter(t, append([]impl.Token{atom("set")}, slices.Repeat(tokensOf(filter(scope(2, 15)))[1:], 1000)...))
	checkNoFilter(t, slices.Repeat([]impl.Token{atom("set")}, 1000))
	checkNoFilter(t, slices.Repeat([]impl.Token{atom("none")}, 2))
}

// written is the list as one text, with "?" for each token that occurs in no filter.
func written(list []impl.Token) string {
	var texts []string
	for _, t := range list {
		switch {
		case t == opening():
			texts = append(texts, "(")
		case t == closing():
			texts = append(texts, ")")
		case t.Kind == impl.TkAtom && letters.MatchString(t.Text):
			texts = append(texts, t.Text)
		default:
			texts = append(texts, "?")
		}
	}
	return strings.Join(texts, " ")
}

var (
	letters   = regexp.MustCompile(`^[a-zA-Z/]+$`)
	namesForm = regexp.MustCompile(`\( (?i:subtree|boxes) \( ([^()]*) \)`)
	scopeForm = `\( (?:(?i:selected|personal)|(?i:subtree|boxes) \( [a-z/]+(?: [a-z/]+){0,2} \)) \( (?i:` + strings.Join(eventLists(), "|") + `) \) \)`
	wholeForm = regexp.MustCompile(`^(?:(?i:none)|(?i:set)(?: ` + scopeForm + `){1,3})$`)
)

// eventLists are the 15 lists of events that a scope may have.
func eventLists() []string {
	lists := []string{""}
	for _, name := range eventNames {
		for _, list := range lists {
			lists = append(lists, strings.TrimSpace(list+" "+name))
		}
	}
	return lists[1:]
}

// isFilter reports whether the document has a filter with these tokens.
func isFilter(list []impl.Token) bool {
	line := written(list)
	for _, m := range namesForm.FindAllStringSubmatch(line, -1) {
		names := strings.Split(m[1], " ")
		for i, name := range names {
			if !impl.NameOk(name) || i > 0 && strings.Compare(names[i-1], name) >= 0 {
				return false
			}
		}
	}
	return wholeForm.MatchString(line)
}

// checkReadFilter checks the result for any list, and reports whether it is that of a filter.
func checkReadFilter(t *testing.T, list []impl.Token) bool {
	t.Helper()
	if !isFilter(list) {
		checkNoFilter(t, list)
		return false
	}
	lower := slices.Clone(list)
	for i := range lower {
		lower[i].Text = strings.ToLower(lower[i].Text)
	}
	got, ok := impl.ReadFilter(list)
	if !ok || !impl.FilterOk(got) || !slices.Equal(tokensOf(got), lower) {
		t.Fatalf("ReadFilter(%+v) = %+v, %v", list, got, ok)
	}
	return true
}

// damagedFrom are lists that a change may make of a filter: another one, or none.
func damagedFrom() [][]impl.Token {
	return [][]impl.Token{
		tokensOf(impl.Filter{}), tokensOf(filter(scope(1, 15))), tokensOf(filter(scope(4, 5, "a", "a/b", "b"))),
		tokensOf(filter(scope(3, 9, "a", "a/b"), scope(2, 2), scope(4, 4, "b"))), tokensOf(filter(scope(4, 8, "new"), scope(1, 3), scope(3, 1, "none", "set"))),
	}
}

// A list with one token removed, added, changed or moved is read exactly.
func TestReadFilterOfDamagedLists(t *testing.T) {
	tokens := []impl.Token{
		opening(), closing(), atom("a"), atom("A"), atom("aa"), atom("c"), atom("a/"), atom("set"), atom("SET"), atom("none"), atom("selected"), atom("Personal"), atom("subtree"), atom("BOXES"), atom("new"), atom("Gone"), atom("flags"), atom("NAMES"),
		atom("hm"), atom(""), atom("("), atom("\u017fet"), text("a"), text("new"), text("set"), text("none"), text(""), {}, {Kind: 5}, {Kind: -1}, {Kind: impl.TkOpen, Text: "("}, {Kind: impl.TkClose, Text: ")"}, {Kind: impl.TkOpen, Text: "new"}, {Kind: 1<<32 + 1, Text: "new"},
	}
	accepted := 0
	check := func(list []impl.Token) {
		if checkReadFilter(t, list) {
			accepted++
		}
	}
	for _, list := range damagedFrom() {
		check(list)
		for i := range len(list) + 1 {
			check(list[:i])
			check(list[i:])
			for _, other := range tokens {
				check(slices.Insert(slices.Clone(list), i, other))
				if i < len(list) {
					changed := slices.Clone(list)
					changed[i] = other
					check(changed)
				}
			}
			for j := range i {
				check(slices.Delete(slices.Clone(list), j, i))
				if i < len(list) {
					moved := slices.Clone(list)
					moved[i], moved[j] = moved[j], moved[i]
					check(moved)
				}
			}
		}
	}
	if accepted < 50 {
		t.Errorf("only %d lists were accepted", accepted)
	}
}

// Each token is itself in its kind and its text; a parenthesis has no text.
func TestReadFilterOfOtherKinds(t *testing.T) {
	for _, list := range damagedFrom() {
		for i := range list {
			for _, kind := range []int{0, -1, 1, 2, 3, 4, 5, 1<<32 + 1, 1<<32 + 3, math.MaxInt64, math.MinInt64} {
				for _, s := range []string{list[i].Text, "", "(", ")", " ", list[i].Text + " ", " " + list[i].Text, list[i].Text + "\x00", list[i].Text + "s"} {
					changed := slices.Clone(list)
					changed[i] = impl.Token{Kind: kind, Text: s}
					checkReadFilter(t, changed)
				}
			}
		}
	}
}

// ReadFilter accepts a list if and only if the document has a filter with these tokens.
func TestReadFilterIsExact(t *testing.T) {
	starts := []string{"set", "set", "set", "set", "Set", "none", "", "hm"}
	kinds := []string{"(selected", "(personal", "(SELECTED", "(subtree (a)", "(subtree (a a/b)", "(subtree (a b ab)", "(boxes (a ab b)", "(Boxes (new)", "(boxes (a b c d)", "(boxes ()", "(boxes (b a)", "(boxes", "(selected (a)", "(boxes (A)", "(boxes (a) (b)", "selected", "(hm"}
	events := []string{"(new))", "(gone))", "(new gone))", "(NEW flags))", "(gone flags))", "(new gone flags names))", "(names))", "(flags names))", "(new))", "())", ")", "(gone new))", "(new new))", "(hm))", "(new)", "((new)))", "(new gone flags names new))", "new)"}
	random := rand.New(rand.NewSource(12))
	accepted := 0
	for range 100000 {
		var line strings.Builder
		line.WriteString(starts[random.Intn(len(starts))])
		for range random.Intn(5) {
			line.WriteString(" " + kinds[random.Intn(len(kinds))] + " " + events[random.Intn(len(events))])
		}
		if checkReadFilter(t, looseTokens(line.String())) {
			accepted++
		}
	}
	if accepted < 2000 {
		t.Errorf("only %d lists were accepted", accepted)
	}
}

// looseTokens are the words and parentheses of a line, however they are separated.
func looseTokens(line string) []impl.Token {
	var list []impl.Token
	for _, word := range strings.Fields(strings.NewReplacer("(", " ( ", ")", " ) ").Replace(line)) {
		switch word {
		case "(":
			list = append(list, opening())
		case ")":
			list = append(list, closing())
		default:
			list = append(list, atom(word))
		}
	}
	return list
}

func checkSame(t *testing.T, a impl.Filter, b impl.Filter, want bool) {
	t.Helper()
	if impl.SameFilter(a, b) != want || impl.SameFilter(b, a) != want {
		t.Fatalf("SameFilter(%+v, %+v) is not %v", a, b, want)
	}
}

func TestSameFilter(t *testing.T) {
	filters := append(goodFilters()[:200], filter(), impl.Filter{Scopes: []impl.Scope{{}}}, filter(impl.Scope{}), filter(scope(-1, -1, "", "\xff")), filter(slices.Repeat([]impl.Scope{scope(2, 1)}, 9)...))
	for _, a := range filters {
		checkSame(t, a, copyOf(a), true)
		for _, b := range filters {
			checkSame(t, a, b, equalFilters(a, b))
		}
	}
	base := filter(scope(3, 9, "a", "b"), scope(1, 7))
	changes := []func(f *impl.Filter){
		func(f *impl.Filter) { f.On = false },
		func(f *impl.Filter) { f.Scopes = nil },
		func(f *impl.Filter) { f.Scopes = f.Scopes[:1] },
		func(f *impl.Filter) { f.Scopes = append(f.Scopes, scope(2, 1)) },
		func(f *impl.Filter) { f.Scopes[0], f.Scopes[1] = f.Scopes[1], f.Scopes[0] },
		func(f *impl.Filter) { f.Scopes[0].Kind = 4 },
		func(f *impl.Filter) { f.Scopes[1].Kind = 2 },
		func(f *impl.Filter) { f.Scopes[0].Events = 8 },
		func(f *impl.Filter) { f.Scopes[1].Events = 15 },
		func(f *impl.Filter) { f.Scopes[0].Names = []string{"a"} },
		func(f *impl.Filter) { f.Scopes[0].Names = []string{"b", "a"} },
		func(f *impl.Filter) { f.Scopes[0].Names = []string{"a", "b", "c"} },
		func(f *impl.Filter) { f.Scopes[0].Names[1] = "B" },
		func(f *impl.Filter) { f.Scopes[0].Names[0] = "" },
		func(f *impl.Filter) { f.Scopes[1].Names = []string{""} },
	}
	for _, change := range changes {
		other := copyOf(base)
		change(&other)
		checkSame(t, base, other, false)
	}
	empty := impl.Filter{Scopes: []impl.Scope{}}
	checkSame(t, impl.Filter{}, empty, true)
	checkSame(t, filter(), impl.Filter{On: true, Scopes: []impl.Scope{}}, true)
	checkSame(t, filter(impl.Scope{Kind: 1, Events: 1}), filter(impl.Scope{Kind: 1, Names: []string{}, Events: 1}), true)
	// Invalid filters without On are equal or different like others.
	checkSame(t, impl.Filter{Scopes: []impl.Scope{scope(1, 1)}}, impl.Filter{}, false)
}

func TestFiltersLeaveTheirArguments(t *testing.T) {
	names := []string{"a", "b", "c", "z", "y"}
	scopes := []impl.Scope{{Kind: 3, Names: names[:2:4], Events: 9}, {Kind: 4, Names: names[2:3:5], Events: 3}, {Kind: 9, Names: names, Events: 99}}
	f := impl.Filter{On: true, Scopes: scopes[:2:3]}
	keptNames, kept := slices.Clone(names), copyOf(impl.Filter{On: true, Scopes: scopes})
	list := append(impl.FilterTokens(f), atom("rest"), opening())
	tokens := list[: len(list)-2 : len(list)-1]
	keptList := slices.Clone(list)
	got, ok := impl.ReadFilter(tokens)
	if !ok || !impl.SameFilter(f, got) || !impl.FilterOk(f) || !impl.Admits(f, "", "a/x", 8) || impl.Admits(f, "", "b/x", 2) || !impl.Covers(scopes[1], "", "c") {
		t.Errorf("%+v was read as %+v", f, got)
	}
	// A result is new memory: what is done to one does not show in another, or in the argument.
	for i := range got.Scopes {
		_ = append(got.Scopes[i].Names, "more")
		got.Scopes[i].Names[0] = "changed"
	}
	if got.Scopes[0].Names[1] != "b" || got.Scopes[1].Names[0] != "changed" || len(got.Scopes) != 2 {
		t.Errorf("the scopes share memory: %+v", got)
	}
	checkFilter(t, tokens, f)
	if !slices.Equal(names, keptNames) || !equalFilters(impl.Filter{On: true, Scopes: scopes}, kept) || !slices.Equal(list, keptList) {
		t.Errorf("an argument was changed: %q, %+v, %+v", names, scopes, list)
	}
}
