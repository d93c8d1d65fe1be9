package tests

import (
	"math"
	"math/rand"
	"regexp"
	"slices"
	"strings"
	"testing"

	"loop.example/g00501/impl"
)

// noIds are neither a Validity nor a Next.
var noIds = []int{0, -1, -2, -999999999, 1000000000, 1000000001, 1 << 31, 1 << 32, 1<<32 + 1, -1 << 32, -1<<32 + 1, math.MaxInt64, math.MinInt64, math.MinInt64 + 1}

func message(uid int) impl.Msg { return impl.Msg{Uid: uid} }

func mailbox(name string, validity int, next int, msgs ...impl.Msg) impl.Box {
	return impl.Box{Name: name, Validity: validity, Next: next, Msgs: msgs}
}

// withUids is a mailbox whose messages have these Uids.
func withUids(next int, uids ...int) impl.Box {
	b := mailbox("inbox", 1, next)
	for _, uid := range uids {
		b.Msgs = append(b.Msgs, message(uid))
	}
	return b
}

// fullBox has as many messages as there may be, and has lost others; the last Uid is 11.
func fullBox() impl.Box {
	return mailbox("a/b", 7, 14, impl.Msg{Uid: 1, Flags: 31, Text: "x"}, message(2), impl.Msg{Uid: 4, Flags: 8, Text: strings.Repeat("\n", 40)}, impl.Msg{Uid: 5, Text: "a b"}, impl.Msg{Uid: 9, Flags: 1}, message(11))
}

// fullBoxes are as many as there may be. Their Validities are in another order than their names.
func fullBoxes() []impl.Box {
	return []impl.Box{mailbox("a", 9, 1), fullBox(), mailbox("ab", 999999999, 3, message(2)), mailbox("inbox", 1, 999999999, message(999999998))}
}

func clonedBox(b impl.Box) impl.Box {
	b.Msgs = slices.Clone(b.Msgs)
	return b
}

func clonedBoxes(list []impl.Box) []impl.Box {
	var copies []impl.Box
	for _, b := range list {
		copies = append(copies, clonedBox(b))
	}
	return copies
}

// equalBoxes compares field by field, so that no other test needs SameBox.
func equalBoxes(a impl.Box, b impl.Box) bool {
	return a.Name == b.Name && a.Validity == b.Validity && a.Next == b.Next && slices.Equal(a.Msgs, b.Msgs)
}

// checkBox also asks for the mailbox as the only one, which is valid if and only if the mailbox is.
func checkBox(t *testing.T, b impl.Box, want bool) {
	t.Helper()
	if impl.BoxOk(b) != want {
		t.Fatalf("BoxOk(%+v) is not %v", b, want)
	}
	if impl.BoxesOk([]impl.Box{b}) != want {
		t.Fatalf("BoxesOk of %+v alone is not %v", b, want)
	}
}

func checkBoxes(t *testing.T, list []impl.Box, want bool) {
	t.Helper()
	if impl.BoxesOk(list) != want {
		t.Fatalf("BoxesOk(%+v) is not %v", list, want)
	}
}

func checkNamed(t *testing.T, list []impl.Box, name string, want int) {
	t.Helper()
	if got := impl.BoxNamed(list, name); got != want {
		t.Fatalf("BoxNamed(%+v, %q) = %d, want %d", list, name, got, want)
	}
}

func checkWith(t *testing.T, list []impl.Box, validity int, want int) {
	t.Helper()
	if got := impl.BoxWith(list, validity); got != want {
		t.Fatalf("BoxWith(%+v, %d) = %d, want %d", list, validity, got, want)
	}
}

func checkPlace(t *testing.T, b impl.Box, uid int, want int) {
	t.Helper()
	if got := impl.PlaceOf(b, uid); got != want {
		t.Fatalf("PlaceOf(%+v, %d) = %d, want %d", b, uid, got, want)
	}
}

func checkUids(t *testing.T, b impl.Box, want ...int) {
	t.Helper()
	if got := impl.UidsOf(b); !slices.Equal(got, want) {
		t.Fatalf("UidsOf(%+v) = %v, want %v", b, got, want)
	}
}

func TestBoxConstants(t *testing.T) {
	if impl.MaxBoxes != 4 || impl.MaxMsgs != 6 {
		t.Errorf("the limits are %d and %d", impl.MaxBoxes, impl.MaxMsgs)
	}
}

func TestBoxOk(t *testing.T) {
	checkBox(t, impl.Box{}, false)
	checkBox(t, mailbox("inbox", 1, 1), true)
	checkBox(t, impl.Box{Name: "inbox", Validity: 1, Next: 1, Msgs: []impl.Msg{}}, true)
	checkBox(t, fullBox(), true)
	checkBox(t, mailbox("inbox", 999999999, 999999999), true)
	for _, change := range []func(b *impl.Box){
		func(b *impl.Box) { b.Name = "" },
		func(b *impl.Box) { b.Validity = 0 },
		func(b *impl.Box) { b.Next = 0 },
	} {
		for _, b := range []impl.Box{mailbox("inbox", 1, 1), fullBox()} {
			change(&b)
			checkBox(t, b, false)
		}
	}
}

// P9: what identifies a mailbox is valid.
func TestBoxOkOfNamesAndIds(t *testing.T) {
	for _, plain := range []impl.Box{mailbox("inbox", 1, 1), fullBox()} {
		for _, name := range goodNames {
			b := plain
			b.Name = name
			checkBox(t, b, true)
		}
		for _, name := range noNames {
			b := plain
			b.Name = name
			checkBox(t, b, false)
		}
		for _, id := range noIds {
			b := plain
			b.Validity = id
			checkBox(t, b, false)
			b = plain
			b.Next = id
			checkBox(t, b, false)
		}
		for _, id := range []int{12, 100, 999999998, 999999999} {
			b := plain
			b.Validity = id
			checkBox(t, b, true)
			b.Next, b.Validity = id, 1
			checkBox(t, b, true)
		}
	}
}

// P9: Uids ascend, and none of them is to be given again: Next is above all.
func TestBoxOkOfUids(t *testing.T) {
	good := []impl.Box{
		withUids(1), withUids(2, 1), withUids(3, 1), withUids(3, 2), withUids(3, 1, 2), withUids(9, 3, 8), withUids(7, 1, 2, 3, 4, 5, 6), withUids(100, 7, 8, 20, 21, 50, 99),
		withUids(999999999, 999999998), withUids(999999999, 1, 999999998), withUids(999999999, 1, 2, 3, 4, 5, 999999998), withUids(999999999),
	}
	for _, b := range good {
		checkBox(t, b, true)
	}
	bad := []impl.Box{
		withUids(1, 1), withUids(1, 0), withUids(2, 0), withUids(2, 2), withUids(2, 3), withUids(2, 1, 2), withUids(2, 0, 1), withUids(9, 8, 9), withUids(9, 1, 10), withUids(9, -1), withUids(9, -1, 1), withUids(9, -2, -1),
		withUids(9, 2, 1), withUids(9, 1, 1), withUids(9, 1, 3, 2), withUids(9, 2, 1, 3), withUids(9, 1, 2, 2), withUids(9, 1, 1, 2), withUids(9, 1, 2, 1), withUids(9, 1, 2, 3, 4, 5, 5), withUids(9, 3, 9, 8),
		withUids(7, 1, 2, 3, 4, 5, 7), withUids(6, 1, 2, 3, 4, 5, 6), withUids(9, 1, 2, 3, 4, 5, 6, 7), withUids(9, 0, 1, 2, 3, 4, 5, 6), withUids(9, 1, 2, 3, 4, 5, 6, 0),
		withUids(999999999, 999999999), withUids(1000000000, 999999999), withUids(1000000000, 1), withUids(999999999, 1, 1000000000), withUids(0, -1), withUids(-1, -2), withUids(0), withUids(math.MinInt64, math.MaxInt64), withUids(999999999, math.MaxInt64), withUids(9, math.MinInt64), withUids(9, math.MinInt64, 1), withUids(9, 1<<32+1),
	}
	for _, b := range bad {
		checkBox(t, b, false)
	}
	for next := range 20 {
		b := fullBox()
		b.Next = next
		checkBox(t, b, next >= 12)
	}
}

func TestBoxOkOfMessages(t *testing.T) {
	for at := range fullBox().Msgs {
		with := func(change func(m *impl.Msg)) impl.Box {
			b := fullBox()
			change(&b.Msgs[at])
			return b
		}
		for bits := range 32 {
			checkBox(t, with(func(m *impl.Msg) { m.Flags = bits }), true)
		}
		for _, bits := range noFlags {
			checkBox(t, with(func(m *impl.Msg) { m.Flags = bits }), false)
		}
		for _, s := range goodTexts() {
			checkBox(t, with(func(m *impl.Msg) { m.Text = s }), true)
		}
		for _, s := range badTexts() {
			checkBox(t, with(func(m *impl.Msg) { m.Text = s }), false)
		}
		for _, uid := range append(slices.Clone(noIds), 999999999) {
			checkBox(t, with(func(m *impl.Msg) { m.Uid = uid }), false)
		}
		checkBox(t, with(func(m *impl.Msg) { *m = impl.Msg{} }), false)
	}
	for n := range 30 {
		b := mailbox("inbox", 1, 999)
		for uid := 1; uid <= n; uid++ {
			b.Msgs = append(b.Msgs, message(uid))
		}
		checkBox(t, b, n <= 6)
	}
	checkBox(t, mailbox("inbox", 1, 999, slices.Repeat([]impl.Msg{message(1)}, 5000)...), false)
}

var namePattern = regexp.MustCompile(`^[a-z]+(/[a-z]+)*$`)

func nameWant(s string) bool { return len(s) <= 12 && namePattern.MatchString(s) }

// boxWant follows the document's words; it counts where the program compares neighbours.
func boxWant(b impl.Box) bool {
	inRange := func(n int) bool { return 1 <= n && n <= 999999999 }
	for i, m := range b.Msgs {
		for _, later := range b.Msgs[i+1:] {
			if later.Uid <= m.Uid {
				return false
			}
		}
		if m.Uid < 1 || m.Uid > b.Next-1 || m.Flags < 0 || m.Flags > 31 || len(m.Text) > 40 {
			return false
		}
	}
	return nameWant(b.Name) && inRange(b.Validity) && inRange(b.Next) && len(b.Msgs) <= 6
}

// randomBox is mostly valid: damage is one in so many.
func randomBox(random *rand.Rand, damage int) impl.Box {
	damaged := func() bool { return random.Intn(damage) == 0 }
	b := mailbox(goodNames[random.Intn(len(goodNames))], 1+random.Intn(9), 1)
	for range random.Intn(7) {
		b.Msgs = append(b.Msgs, impl.Msg{Uid: b.Next, Flags: random.Intn(32), Text: strings.Repeat("a", random.Intn(41))})
		b.Next += 1 + random.Intn(3)
	}
	for i := range b.Msgs {
		if damaged() {
			b.Msgs[i].Uid += random.Intn(5) - 2
		}
		if damaged() {
			b.Msgs[i].Flags += random.Intn(33) - 16
		}
		if damaged() {
			b.Msgs[i].Text += "bb"
		}
	}
	if damaged() {
		b.Next -= random.Intn(5)
	}
	if damaged() {
		b.Name = noNames[random.Intn(len(noNames))]
	}
	if damaged() {
		b.Validity = noIds[random.Intn(len(noIds))]
	}
	return b
}

func TestBoxOkIsExact(t *testing.T) {
	random := rand.New(rand.NewSource(16))
	counts := map[bool]int{}
	for range 20000 {
		b := randomBox(random, 20)
		want := boxWant(b)
		checkBox(t, b, want)
		counts[want]++
	}
	if counts[true] < 3000 || counts[false] < 3000 {
		t.Errorf("the mailboxes are one-sided: %v", counts)
	}
}

func TestUidsOf(t *testing.T) {
	checkUids(t, impl.Box{})
	checkUids(t, mailbox("inbox", 1, 1))
	checkUids(t, impl.Box{Name: "inbox", Validity: 1, Next: 1, Msgs: []impl.Msg{}})
	checkUids(t, fullBox(), 1, 2, 4, 5, 9, 11)
	checkUids(t, withUids(999999999, 999999998), 999999998)
	// Whatever the messages of an invalid mailbox are, their Uids are in their order.
	for _, uids := range [][]int{{3, 1, 2}, {2, 2}, {0}, {-1, 5, -1}, {7, 6, 5, 4, 3, 2, 1}, {math.MaxInt64, math.MinInt64}, slices.Repeat([]int{5, 3}, 1000)} {
		checkUids(t, withUids(1, uids...), uids...)
		checkUids(t, withUids(0, uids...), uids...)
	}
}

// P9: a message is found by its Uid, and a Uid that was given to a message that is gone, or is yet to be given, finds none.
func TestPlaceOf(t *testing.T) {
	places := map[int]int{1: 0, 2: 1, 4: 2, 5: 3, 9: 4, 11: 5}
	for uid := -20; uid <= 20; uid++ {
		want, found := places[uid]
		if !found {
			want = -1
		}
		checkPlace(t, fullBox(), uid, want)
	}
	for _, id := range append(slices.Clone(noIds), 999999998, 999999999) {
		checkPlace(t, fullBox(), id, -1)
		checkPlace(t, impl.Box{}, id, -1)
		checkPlace(t, impl.Box{Msgs: []impl.Msg{}}, id, -1)
		// The Uids of an invalid mailbox are found, too.
		checkPlace(t, withUids(1, 3, id, id, 1), id, 1)
	}
	b := withUids(9, 5, 3, 5, 3, 4, 0)
	checkPlace(t, b, 5, 0)
	checkPlace(t, b, 3, 1)
	checkPlace(t, b, 4, 4)
	checkPlace(t, b, 0, 5)
	checkPlace(t, b, 1, -1)
	checkPlace(t, withUids(9, slices.Repeat([]int{1, 2}, 1000)...), 2, 1)
	// Only the Uid counts.
	b = mailbox("inbox", 3, 9, impl.Msg{Uid: 1, Flags: 3, Text: "3"}, impl.Msg{Uid: 3, Flags: 1})
	checkPlace(t, b, 3, 1)
	checkPlace(t, b, 9, -1)
}

func TestPlacesAreThoseOfTheUids(t *testing.T) {
	random := rand.New(rand.NewSource(17))
	for range 2000 {
		b := randomBox(random, 5)
		uids := impl.UidsOf(b)
		for uid := -3; uid <= 25; uid++ {
			checkPlace(t, b, uid, slices.Index(uids, uid))
		}
	}
}

func TestBoxesOk(t *testing.T) {
	checkBoxes(t, nil, true)
	checkBoxes(t, []impl.Box{}, true)
	full := fullBoxes()
	checkBoxes(t, full, true)
	// Each choice of the mailboxes is in order, too.
	for choice := range 16 {
		var list []impl.Box
		for i := range full {
			if choice>>i&1 == 1 {
				list = append(list, full[i])
			}
		}
		checkBoxes(t, list, true)
	}
	// Every other order is wrong.
	valid := 0
	for order := range 256 {
		places := []int{order & 3, order >> 2 & 3, order >> 4 & 3, order >> 6}
		var list []impl.Box
		for _, place := range places {
			list = append(list, full[place])
		}
		want := slices.Equal(places, []int{0, 1, 2, 3})
		checkBoxes(t, list, want)
		if want {
			valid++
		}
	}
	if valid != 1 {
		t.Errorf("%d orders are right", valid)
	}
}

func TestBoxesOkLimit(t *testing.T) {
	var list []impl.Box
	for n := range 30 {
		checkBoxes(t, list, n <= 4)
		list = append(list, mailbox(strings.Repeat("a", 1+n%12)+strings.Repeat("/a", n/12), n+1, 1))
		slices.SortFunc(list, func(a impl.Box, b impl.Box) int { return strings.Compare(a.Name, b.Name) })
	}
	for n := range 12 {
		checkBoxes(t, slices.Repeat([]impl.Box{mailbox("a", 1, 1)}, n), n <= 1)
		checkBoxes(t, make([]impl.Box, n), n == 0)
	}
	checkBoxes(t, slices.Repeat([]impl.Box{fullBox()}, 5000), false)
}

// The order of names is that of their bytes, in which '/' is before every letter.
func TestBoxesOkNames(t *testing.T) {
	named := func(names ...string) []impl.Box {
		var list []impl.Box
		for i, name := range names {
			list = append(list, mailbox(name, i+1, 1))
		}
		return list
	}
	for _, names := range nameLists {
		checkBoxes(t, named(names...), true)
	}
	for _, names := range [][]string{{"b", "a"}, {"a", "a"}, {"a/b", "a"}, {"ab", "a/b"}, {"a", "c", "b"}, {"b", "a", "c"}, {"a", "b", "b"}, {"a", "a", "b"}, {"a", "b", "a"}, {"c", "b", "a"}} {
		checkBoxes(t, named(names...), false)
	}
	checkBoxes(t, named("a", "b", "c", "d"), true)
	checkBoxes(t, named("a", "b", "c", "d", "e"), false)
	checkBoxes(t, named("a", "a/b", "a/b/c", "ab"), true)
	checkBoxes(t, named("a", "a/b", "ab", "ab/c"), true)
	checkBoxes(t, named("a", "ab", "a/b", "b"), false)
	checkBoxes(t, named("a", "b", "c", "c"), false)
	checkBoxes(t, named("a", "a", "b", "c"), false)
	checkBoxes(t, named("a", "b", "b", "c"), false)
	checkBoxes(t, named("a", "b", "a", "c"), false)
	checkBoxes(t, named("b", "c", "d", "a"), false)
	checkBoxes(t, named("a", "b", "d", "c"), false)
	checkBoxes(t, named("z", "zz", "zzz", "zzzzzzzzzzzz"), true)
	checkBoxes(t, named("A", "a"), false)
}

// P9: no Validity is used twice, whatever the two mailboxes are and wherever they stand.
func TestBoxesOkValidities(t *testing.T) {
	for i := range 4 {
		for j := range 4 {
			for _, validity := range []int{1, 2, 9, 1000, 999999998, 999999999} {
				list := fullBoxes()
				for at := range list {
					list[at].Validity = 100 + at
				}
				list[i].Validity, list[j].Validity = validity, validity
				checkBoxes(t, list, i == j)
			}
		}
	}
	validities := func(numbers ...int) []impl.Box {
		list := fullBoxes()[:len(numbers)]
		for at, validity := range numbers {
			list[at].Validity = validity
		}
		return list
	}
	// In any order, and with gaps.
	for _, numbers := range [][]int{{1, 2, 3, 4}, {4, 3, 2, 1}, {999999999, 1, 999999998, 2}, {5, 1, 9, 3}, {2, 1}, {1, 999999999}} {
		checkBoxes(t, validities(numbers...), true)
	}
	for _, numbers := range [][]int{{1, 1}, {1, 2, 1}, {1, 1, 2}, {2, 1, 1}, {1, 1, 1}, {1, 2, 1, 2}, {1, 1, 2, 2}, {1, 2, 2, 1}, {7, 7, 7, 7}, {0, 1}, {1, 0}, {-1, 1}, {1, 2, 3, 1000000000}} {
		checkBoxes(t, validities(numbers...), false)
	}
	// What a mailbox contains and what its Next is may be the same as elsewhere.
	checkBoxes(t, []impl.Box{mailbox("a", 1, 9, fullBox().Msgs[:2]...), mailbox("b", 2, 9, fullBox().Msgs[:2]...)}, true)
}

// A single invalid mailbox, at any place, makes the list invalid.
func TestBoxesOkOfInvalidBoxes(t *testing.T) {
	changes := []func(b *impl.Box){
		func(b *impl.Box) { *b = impl.Box{} },
		func(b *impl.Box) { b.Name += "/" },
		func(b *impl.Box) { b.Name += "A" },
		func(b *impl.Box) { b.Name += "aaaaaaaaaaaa" },
		func(b *impl.Box) { b.Validity = 0 },
		func(b *impl.Box) { b.Validity = -b.Validity },
		func(b *impl.Box) { b.Validity = 1000000000 },
		func(b *impl.Box) { b.Next = 0 },
		func(b *impl.Box) { b.Next = 1000000000 },
		func(b *impl.Box) { b.Msgs = append(b.Msgs, message(b.Next)) },
		func(b *impl.Box) { b.Msgs = append([]impl.Msg{message(0)}, b.Msgs...) },
		func(b *impl.Box) { b.Next, b.Msgs = 9, []impl.Msg{message(2), message(2)} },
		func(b *impl.Box) { b.Next, b.Msgs = 9, []impl.Msg{{Uid: 2, Flags: 32}} },
		func(b *impl.Box) { b.Next, b.Msgs = 9, []impl.Msg{{Uid: 2, Text: strings.Repeat("a", 41)}} },
		func(b *impl.Box) { b.Next, b.Msgs = 9, withUids(9, 1, 2, 3, 4, 5, 6, 7).Msgs },
	}
	for at := range 4 {
		for _, change := range changes {
			list := fullBoxes()
			change(&list[at])
			checkBoxes(t, list, false)
		}
	}
}

func boxesWant(list []impl.Box) bool {
	for i, b := range list {
		for _, later := range list[i+1:] {
			if later.Name <= b.Name || later.Validity == b.Validity {
				return false
			}
		}
		if !boxWant(b) {
			return false
		}
	}
	return len(list) <= 4
}

// randomBoxes are mostly in order.
func randomBoxes(random *rand.Rand) []impl.Box {
	var list []impl.Box
	for range random.Intn(6) {
		list = append(list, randomBox(random, 200))
	}
	if random.Intn(10) > 0 {
		slices.SortFunc(list, func(a impl.Box, b impl.Box) int { return strings.Compare(a.Name, b.Name) })
	}
	return list
}

func TestBoxesOkIsExact(t *testing.T) {
	random := rand.New(rand.NewSource(18))
	counts := map[bool]int{}
	for range 20000 {
		list := randomBoxes(random)
		want := boxesWant(list)
		checkBoxes(t, list, want)
		counts[want]++
	}
	if counts[true] < 3000 || counts[false] < 3000 {
		t.Errorf("the lists are one-sided: %v", counts)
	}
}

// P9: every mailbox of a valid list is found by its name and by its Validity, and nothing else is found.
func TestBoxesAreFound(t *testing.T) {
	list := fullBoxes()
	// Again and again, because the order of a map may differ from time to time.
	for range 50 {
		for i, b := range list {
			checkNamed(t, list, b.Name, i)
			checkWith(t, list, b.Validity, i)
			checkNamed(t, list[:i], b.Name, -1)
			checkWith(t, list[:i], b.Validity, -1)
			checkNamed(t, list[i:], b.Name, 0)
			checkWith(t, list[i:], b.Validity, 0)
			checkNamed(t, list[i+1:], b.Name, -1)
			checkWith(t, list[i+1:], b.Validity, -1)
		}
	}
	for _, name := range append(slices.Clone(noNames), "b", "aa", "abc", "a/", "a/b/c", "a/c", "in", "inboxx", "INBOX", "A", "a ", "x") {
		checkNamed(t, list, name, -1)
		checkNamed(t, nil, name, -1)
		checkNamed(t, []impl.Box{}, name, -1)
	}
	// 2, 3, 11, 14 and 999999998 identify messages, or are yet to be given to one, but no mailbox.
	for _, validity := range append(slices.Clone(noIds), 2, 3, 4, 5, 8, 11, 14, 999999998) {
		checkWith(t, list, validity, -1)
		checkWith(t, nil, validity, -1)
		checkWith(t, []impl.Box{}, validity, -1)
	}
}

// P9: a Validity stays with its mailbox: it finds it under another name, and not another mailbox that has taken over the old name.
func TestValidityStaysWithItsBox(t *testing.T) {
	before := []impl.Box{mailbox("a", 1, 1), mailbox("b", 2, 1), mailbox("c", 3, 1)}
	after := []impl.Box{mailbox("a", 1, 1), mailbox("b", 4, 1), mailbox("z", 2, 1)}
	checkBoxes(t, before, true)
	checkBoxes(t, after, true)
	checkNamed(t, before, "b", 1)
	checkNamed(t, after, "b", 1)
	checkWith(t, before, 2, 1)
	checkWith(t, after, 2, 2)
	checkWith(t, after, 4, 1)
	checkWith(t, after, 3, -1)
	checkNamed(t, after, "c", -1)
}

// In an invalid list, too, the first mailbox with the name or the Validity is found, whether these are valid or not.
func TestBoxesAreFoundInInvalidLists(t *testing.T) {
	list := []impl.Box{mailbox("b", 5, 1), mailbox("a", 5, 0), mailbox("b", 0, 1), mailbox("", 0, 1), mailbox("", -1, 1), mailbox("A", 7, 1), mailbox("a", 7, 1), {}, mailbox("z", math.MinInt64, 1), mailbox("\xff", math.MaxInt64, 1)}
	for name, want := range map[string]int{"b": 0, "a": 1, "": 3, "A": 5, "z": 8, "\xff": 9, "c": -1, "B": -1, "\ufffd": -1} {
		checkNamed(t, list, name, want)
	}
	for validity, want := range map[int]int{5: 0, 0: 2, -1: 4, 7: 5, math.MinInt64: 8, math.MaxInt64: 9, 1: -1, 2: -1, -5: -1} {
		checkWith(t, list, validity, want)
	}
	same := slices.Repeat([]impl.Box{mailbox("a", 1, 1), mailbox("b", 2, 1)}, 3000)
	checkNamed(t, same, "a", 0)
	checkNamed(t, same, "b", 1)
	checkNamed(t, same, "c", -1)
	checkWith(t, same, 1, 0)
	checkWith(t, same, 2, 1)
	checkWith(t, same, 3, -1)
}

func TestBoxesAreFoundExactly(t *testing.T) {
	random := rand.New(rand.NewSource(19))
	for range 3000 {
		list := randomBoxes(random)
		for _, name := range slices.Concat(goodNames, noNames) {
			checkNamed(t, list, name, slices.IndexFunc(list, func(b impl.Box) bool { return b.Name == name }))
		}
		for _, validity := range append([]int{1, 2, 3, 4, 5, 6, 7, 8, 9, 10}, noIds...) {
			checkWith(t, list, validity, slices.IndexFunc(list, func(b impl.Box) bool { return b.Validity == validity }))
		}
	}
}

func checkSameBox(t *testing.T, a impl.Box, b impl.Box, want bool) {
	t.Helper()
	if impl.SameBox(a, b) != want || impl.SameBox(b, a) != want {
		t.Fatalf("SameBox(%+v, %+v) is not %v", a, b, want)
	}
	for _, before := range [][]impl.Box{nil, {fullBox()}, fullBoxes(), {{}}} {
		checkSameBoxes(t, append(clonedBoxes(before), a), append(clonedBoxes(before), b), want)
		checkSameBoxes(t, append([]impl.Box{a}, before...), append([]impl.Box{b}, before...), want)
	}
}

func checkSameBoxes(t *testing.T, a []impl.Box, b []impl.Box, want bool) {
	t.Helper()
	if impl.SameBoxes(a, b) != want || impl.SameBoxes(b, a) != want {
		t.Fatalf("SameBoxes(%+v, %+v) is not %v", a, b, want)
	}
}

// Each field counts by itself, in valid mailboxes and in others.
func TestSameBox(t *testing.T) {
	changes := []func(b *impl.Box){
		func(b *impl.Box) { b.Name = "a/c" },
		func(b *impl.Box) { b.Name = "A/b" },
		func(b *impl.Box) { b.Name = "" },
		func(b *impl.Box) { b.Validity = 8 },
		func(b *impl.Box) { b.Validity = -7 },
		func(b *impl.Box) { b.Validity, b.Next = b.Next, b.Validity },
		func(b *impl.Box) { b.Next = 15 },
		func(b *impl.Box) { b.Next = 0 },
		func(b *impl.Box) { b.Msgs = nil },
		func(b *impl.Box) { b.Msgs = b.Msgs[:5] },
		func(b *impl.Box) { b.Msgs = b.Msgs[1:] },
		func(b *impl.Box) { b.Msgs = append(b.Msgs, impl.Msg{}) },
		func(b *impl.Box) { b.Msgs = append(b.Msgs, message(12)) },
		func(b *impl.Box) { b.Msgs[0], b.Msgs[1] = b.Msgs[1], b.Msgs[0] },
		func(b *impl.Box) { *b = impl.Box{} },
	}
	for at := range fullBox().Msgs {
		changes = append(changes,
			func(b *impl.Box) { b.Msgs[at].Uid += 100 },
			func(b *impl.Box) { b.Msgs[at].Uid -= 1 << 32 },
			func(b *impl.Box) { b.Msgs[at].Flags += 64 },
			func(b *impl.Box) { b.Msgs[at].Flags ^= 1 },
			func(b *impl.Box) { b.Msgs[at].Text += "x" },
			func(b *impl.Box) { b.Msgs[at].Text += "\x00" },
			func(b *impl.Box) { b.Msgs[at] = impl.Msg{} },
		)
	}
	checkSameBox(t, fullBox(), fullBox(), true)
	for _, change := range changes {
		other := fullBox()
		change(&other)
		checkSameBox(t, fullBox(), other, false)
		checkSameBox(t, other, clonedBox(other), true)
	}
	// A nil slice and an empty slice are equivalent.
	checkSameBox(t, impl.Box{}, impl.Box{Msgs: []impl.Msg{}}, true)
	checkSameBox(t, mailbox("a", 1, 1), impl.Box{Name: "a", Validity: 1, Next: 1, Msgs: fullBox().Msgs[:0]}, true)
	checkSameBox(t, impl.Box{}, impl.Box{Msgs: []impl.Msg{{}}}, false)
}

func TestSameBoxes(t *testing.T) {
	full := fullBoxes()
	checkSameBoxes(t, nil, nil, true)
	checkSameBoxes(t, nil, []impl.Box{}, true)
	checkSameBoxes(t, nil, []impl.Box{{}}, false)
	checkSameBoxes(t, []impl.Box{{}}, []impl.Box{{}, {}}, false)
	checkSameBoxes(t, full, clonedBoxes(full), true)
	for i := range full {
		checkSameBoxes(t, full, full[:i], false)
		checkSameBoxes(t, full, slices.Delete(clonedBoxes(full), i, i+1), false)
		checkSameBoxes(t, full, append(clonedBoxes(full), full[i]), false)
		for j := range i {
			other := clonedBoxes(full)
			other[i], other[j] = other[j], other[i]
			checkSameBoxes(t, full, other, false)
			checkSameBoxes(t, other, clonedBoxes(other), true)
		}
	}
	random := rand.New(rand.NewSource(20))
	var lists [][]impl.Box
	for range 150 {
		lists = append(lists, randomBoxes(random))
	}
	for _, a := range lists {
		checkSameBoxes(t, a, clonedBoxes(a), true)
		for _, b := range lists {
			checkSameBoxes(t, a, b, slices.EqualFunc(a, b, equalBoxes))
		}
	}
}

// roomy copies mailboxes into a list with room behind it and behind the messages, which is not to be written to either, and returns a function that reports whether all is as it was.
func roomy(list []impl.Box) ([]impl.Box, func() bool) {
	room := append(clonedBoxes(list), mailbox("x", 5, 3, message(2)), impl.Box{})
	behind := []impl.Msg{message(77), message(78)}
	var longer [][]impl.Msg
	for i, b := range room {
		longer = append(longer, slices.Concat(b.Msgs, behind))
		room[i].Msgs = longer[i][:len(b.Msgs)]
	}
	kept := clonedBoxes(room)
	unchanged := func() bool {
		for _, msgs := range longer {
			if !slices.Equal(msgs[len(msgs)-len(behind):], behind) {
				return false
			}
		}
		return slices.EqualFunc(room, kept, equalBoxes)
	}
	return room[:len(list)], unchanged
}

func TestBoxesLeaveTheirArguments(t *testing.T) {
	backwards := clonedBoxes(fullBoxes())
	slices.Reverse(backwards)
	for _, list := range [][]impl.Box{fullBoxes(), backwards, slices.Concat(fullBoxes(), backwards)} {
		own, unchanged := roomy(list)
		for i := range own {
			uids := impl.UidsOf(own[i])
			want := slices.Clone(uids)
			// A result is new memory: what is done to one shows neither in another nor in the argument.
			for j := range uids {
				uids[j] = -1
			}
			_ = append(uids, -1)
			checkUids(t, own[i], want...)
			impl.BoxOk(own[i])
			impl.PlaceOf(own[i], 9)
			impl.SameBox(own[i], own[0])
		}
		impl.BoxesOk(own)
		impl.BoxNamed(own, "inbox")
		impl.BoxWith(own, 1)
		impl.SameBoxes(own, list)
		if !unchanged() {
			t.Errorf("an argument was changed: %+v", own)
		}
	}
}
