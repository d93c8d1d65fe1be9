package tests

import (
	"maps"
	"math"
	"math/rand"
	"slices"
	"strings"
	"testing"

	"loop.example/g00501/impl"
)

// noCommitKinds are not the kind of a commit; noUids no commit has, because a Next above them would be too great.
var (
	noCommitKinds = []int{0, -1, -2, -6, 7, 8, 15, 1 << 31, 1 << 32, 1<<32 + 1, 1<<32 + 6, math.MaxInt64, math.MinInt64, math.MinInt64 + 1}
	noUids        = append(slices.Clone(noIds), 999999999)
)

func creating(validity int, name string) impl.Commit {
	return impl.Commit{Kind: impl.CmCreate, Validity: validity, Name: name}
}

func deleting(validity int) impl.Commit {
	return impl.Commit{Kind: impl.CmDelete, Validity: validity}
}

func renaming(validity int, name string) impl.Commit {
	return impl.Commit{Kind: impl.CmRename, Validity: validity, Name: name}
}

func appending(validity int, uid int, flags int, text string) impl.Commit {
	return impl.Commit{Kind: impl.CmAppend, Validity: validity, Uid: uid, Flags: flags, Text: text}
}

func flagging(validity int, uid int, flags int) impl.Commit {
	return impl.Commit{Kind: impl.CmFlags, Validity: validity, Uid: uid, Flags: flags}
}

func expunging(validity int, uid int) impl.Commit {
	return impl.Commit{Kind: impl.CmExpunge, Validity: validity, Uid: uid}
}

// someCommits are one of each kind, all of which apply to someBoxes.
func someCommits() []impl.Commit {
	return []impl.Commit{creating(2, "inbox"), deleting(9), renaming(9, "uid"), appending(9, 1, 3, "x"), flagging(7, 4, 16), expunging(7, 11)}
}

// someBoxes leave room for one more.
func someBoxes() []impl.Box { return fullBoxes()[:3] }

// placed adds a mailbox before the first one with a greater name.
func placed(list []impl.Box, b impl.Box) []impl.Box {
	at := 0
	for at < len(list) && list[at].Name < b.Name {
		at++
	}
	return slices.Insert(clonedBoxes(list), at, clonedBox(b))
}

func without(list []impl.Box, at int) []impl.Box {
	return slices.Delete(clonedBoxes(list), at, at+1)
}

// with changes the mailbox at a place.
func with(list []impl.Box, at int, change func(b *impl.Box)) []impl.Box {
	copies := clonedBoxes(list)
	change(&copies[at])
	return copies
}

func sameBoxes(a []impl.Box, b []impl.Box) bool { return slices.EqualFunc(a, b, equalBoxes) }

// checkApplied also asks for a log with this commit alone.
func checkApplied(t *testing.T, list []impl.Box, m impl.Commit, want ...impl.Box) {
	t.Helper()
	if !impl.Applies(list, m) {
		t.Fatalf("%+v does not apply to %+v", m, list)
	}
	if got, ok := impl.Applied(list, m); !ok || !sameBoxes(got, want) {
		t.Fatalf("Applied(%+v, %+v) = %+v, %v, want %+v", list, m, got, ok, want)
	}
	if got, ok := impl.AppliedAll(list, []impl.Commit{m}); !ok || !sameBoxes(got, want) {
		t.Fatalf("AppliedAll(%+v, %+v) = %+v, %v, want %+v", list, m, got, ok, want)
	}
}

func checkNotApplied(t *testing.T, list []impl.Box, m impl.Commit) {
	t.Helper()
	if impl.Applies(list, m) {
		t.Fatalf("%+v applies to %+v", m, list)
	}
	if got, ok := impl.Applied(list, m); ok || !sameBoxes(got, list) {
		t.Fatalf("Applied(%+v, %+v) = %+v, %v", list, m, got, ok)
	}
	if got, ok := impl.AppliedAll(list, []impl.Commit{m}); ok || !sameBoxes(got, list) {
		t.Fatalf("AppliedAll(%+v, %+v) = %+v, %v", list, m, got, ok)
	}
}

// checkCommitOk also tries an invalid commit on mailboxes, where it must change nothing.
func checkCommitOk(t *testing.T, m impl.Commit, want bool) {
	t.Helper()
	if impl.CommitOk(m) != want {
		t.Fatalf("CommitOk(%+v) is not %v", m, want)
	}
	if !want {
		checkNotApplied(t, someBoxes(), m)
	}
}

func checkAll(t *testing.T, list []impl.Box, log []impl.Commit, wantOk bool, want ...impl.Box) {
	t.Helper()
	if got, ok := impl.AppliedAll(list, log); ok != wantOk || !sameBoxes(got, want) {
		t.Fatalf("AppliedAll(%+v, %+v) = %+v, %v, want %+v, %v", list, log, got, ok, want, wantOk)
	}
}

// fieldsOf are the fields that the commits of a kind have besides Kind and Validity; nil for an invalid kind.
func fieldsOf(kind int) []string {
	return map[int][]string{1: {"name"}, 2: {}, 3: {"name"}, 4: {"uid", "flags", "text"}, 5: {"uid", "flags"}, 6: {"uid"}}[kind]
}

// commitWant follows the document's words field by field.
func commitWant(m impl.Commit) bool {
	fields := fieldsOf(m.Kind)
	fits := func(field string, isValid bool, isZero bool) bool {
		if slices.Contains(fields, field) {
			return isValid
		}
		return isZero
	}
	return fields != nil && 1 <= m.Validity && m.Validity <= 999999999 &&
		fits("name", nameWant(m.Name), m.Name == "") &&
		fits("uid", 1 <= m.Uid && m.Uid <= 999999998, m.Uid == 0) &&
		fits("flags", 0 <= m.Flags && m.Flags <= 31, m.Flags == 0) &&
		fits("text", len(m.Text) <= 40, m.Text == "")
}

func TestCommitConstants(t *testing.T) {
	kinds := []int{impl.CmCreate, impl.CmDelete, impl.CmRename, impl.CmAppend, impl.CmFlags, impl.CmExpunge}
	if !slices.Equal(kinds, []int{1, 2, 3, 4, 5, 6}) {
		t.Errorf("the kinds are %v", kinds)
	}
}

func TestCommitOk(t *testing.T) {
	checkCommitOk(t, impl.Commit{}, false)
	for _, m := range someCommits() {
		checkCommitOk(t, m, true)
		for _, kind := range noCommitKinds {
			other := m
			other.Kind = kind
			checkCommitOk(t, other, false)
		}
		for _, id := range noIds {
			other := m
			other.Validity = id
			checkCommitOk(t, other, false)
		}
		for _, id := range []int{1, 2, 999999998, 999999999} {
			other := m
			other.Validity = id
			checkCommitOk(t, other, true)
		}
	}
	for _, m := range []impl.Commit{appending(1, 1, 0, ""), flagging(1, 1, 0), expunging(999999999, 999999998), flagging(999999999, 999999998, 31), appending(999999999, 999999998, 31, strings.Repeat("a", 40))} {
		checkCommitOk(t, m, true)
	}
}

// Each kind is tried with every value of each field, used or not.
func TestCommitOkOfFields(t *testing.T) {
	for _, m := range someCommits() {
		fields := fieldsOf(m.Kind)
		for _, name := range slices.Concat(goodNames, noNames) {
			other := m
			other.Name = name
			checkCommitOk(t, other, commitWant(other))
		}
		for _, uid := range append([]int{1, 2, 12, 999999997, 999999998}, noUids...) {
			other := m
			other.Uid = uid
			checkCommitOk(t, other, commitWant(other))
		}
		for _, bits := range append(allFlags(), noFlags...) {
			other := m
			other.Flags = bits
			checkCommitOk(t, other, commitWant(other))
		}
		for _, s := range goodTexts() {
			other := m
			other.Text = s
			checkCommitOk(t, other, s == "" || slices.Contains(fields, "text"))
		}
		for _, s := range badTexts() {
			other := m
			other.Text = s
			checkCommitOk(t, other, false)
		}
	}
}

func TestCommitOkIsExact(t *testing.T) {
	counts := map[bool]int{}
	for _, kind := range append([]int{1, 2, 3, 4, 5, 6}, noCommitKinds[:6]...) {
		for _, validity := range []int{-1, 0, 1, 999999999, 1000000000} {
			for _, uid := range []int{-1, 0, 1, 999999998, 999999999} {
				for _, flags := range []int{-1, 0, 1, 31, 32} {
					for _, name := range []string{"", "a", "a/b", "A"} {
						for _, length := range []int{0, 1, 40, 41} {
							m := impl.Commit{Kind: kind, Validity: validity, Uid: uid, Flags: flags, Name: name, Text: strings.Repeat("x", length)}
							want := commitWant(m)
							if impl.CommitOk(m) != want {
								t.Fatalf("CommitOk(%+v) is not %v", m, want)
							}
							counts[want]++
						}
					}
				}
			}
		}
	}
	// Two Validities; two names, nothing, two names, 2*3*3 appends, 2*3 changes of flags, two Uids.
	if counts[true] != 2*(2+1+2+18+6+2) {
		t.Errorf("%d commits are valid", counts[true])
	}
}

// P10: a new mailbox is empty and stands where its name belongs.
func TestCreate(t *testing.T) {
	checkApplied(t, nil, creating(1, "inbox"), mailbox("inbox", 1, 1))
	checkApplied(t, []impl.Box{}, creating(999999999, "abcdefghijkl"), mailbox("abcdefghijkl", 999999999, 1))
	for _, others := range [][]string{{"aa"}, {"aa", "n"}, {"aa", "n", "z"}, {"a/a", "aa", "n"}} {
		var list []impl.Box
		for i, other := range others {
			list = append(list, mailbox(other, 20-i, 9, message(i+1)))
		}
		for _, name := range []string{"a", "b", "a/b", "ab", "inbox", "zz"} {
			checkApplied(t, list, creating(3, name), placed(list, mailbox(name, 3, 1))...)
		}
	}
	// '/' is before every letter, so a mailbox is followed by those below it.
	list := []impl.Box{mailbox("a", 1, 1), mailbox("ab", 2, 1)}
	checkApplied(t, list, creating(3, "a/b"), list[0], mailbox("a/b", 3, 1), list[1])
}

// P10: a name that exists already and a Validity in use are rejected, each by itself and both together.
func TestCreateOfWhatExists(t *testing.T) {
	for _, list := range [][]impl.Box{someBoxes(), someBoxes()[:1], someBoxes()[1:], someBoxes()[2:]} {
		for _, b := range list {
			checkNotApplied(t, list, creating(5, b.Name))
			checkNotApplied(t, list, creating(b.Validity, "new"))
			checkNotApplied(t, list, creating(b.Validity, b.Name))
			checkNotApplied(t, list, creating(list[0].Validity, b.Name))
			checkNotApplied(t, list, creating(b.Validity, list[0].Name))
			// Names that only look alike are others.
			for _, name := range []string{b.Name + "x", b.Name + "/x", "x" + b.Name} {
				checkApplied(t, list, creating(5, name), placed(list, mailbox(name, 5, 1))...)
			}
		}
	}
}

func TestCreateLimit(t *testing.T) {
	full := fullBoxes()
	checkNotApplied(t, full, creating(5, "b"))
	for at, b := range full {
		checkNotApplied(t, full, creating(b.Validity, "b"))
		checkNotApplied(t, full, creating(5, b.Name))
		rest := without(full, at)
		checkApplied(t, rest, creating(5, b.Name), placed(rest, mailbox(b.Name, 5, 1))...)
		// What counts is which mailboxes there are now.
		checkApplied(t, rest, creating(b.Validity, "b"), placed(rest, mailbox("b", b.Validity, 1))...)
	}
}

func TestDelete(t *testing.T) {
	full := fullBoxes()
	for at, b := range full {
		checkApplied(t, full, deleting(b.Validity), without(full, at)...)
		checkApplied(t, []impl.Box{b}, deleting(b.Validity))
		checkNotApplied(t, without(full, at), deleting(b.Validity))
		// A mailbox is not deleted by its name.
		named := deleting(b.Validity)
		named.Name = b.Name
		checkNotApplied(t, full, named)
	}
	for _, validity := range []int{2, 8, 10, 11, 999999998} {
		checkNotApplied(t, full, deleting(validity))
	}
	checkNotApplied(t, nil, deleting(1))
}

// P10: a mailbox with a new name is the same one, in the place of that name.
func TestRename(t *testing.T) {
	full := fullBoxes()
	for at, b := range full {
		// These are before, between and after the others.
		for _, name := range []string{"a/a", "aa", "abcdefghijkl", "b", "inbox/a", "z"} {
			moved := clonedBox(b)
			moved.Name = name
			checkApplied(t, full, renaming(b.Validity, name), placed(without(full, at), moved)...)
			checkApplied(t, []impl.Box{b}, renaming(b.Validity, name), moved)
			checkNotApplied(t, without(full, at), renaming(b.Validity, name))
		}
	}
	for _, validity := range []int{2, 8, 10, 11, 999999998} {
		checkNotApplied(t, full, renaming(validity, "b"))
	}
	checkNotApplied(t, nil, renaming(1, "a"))
}

// P10: no mailbox gets a name that exists already, not even its own.
func TestRenameToWhatExists(t *testing.T) {
	full := fullBoxes()
	for at, b := range full {
		for _, other := range full {
			checkNotApplied(t, full, renaming(b.Validity, other.Name))
		}
		checkNotApplied(t, []impl.Box{b}, renaming(b.Validity, b.Name))
		// A name that is given up may be taken over.
		renamed, ok := impl.Applied(full, renaming(b.Validity, "z"))
		if !ok {
			t.Fatalf("%+v is not renamed", b)
		}
		other := clonedBox(full[(at+1)%4])
		checkNotApplied(t, renamed, renaming(other.Validity, "z"))
		want := with(renamed, impl.BoxWith(renamed, other.Validity), func(box *impl.Box) { box.Name = b.Name })
		slices.SortFunc(want, func(a impl.Box, b impl.Box) int { return strings.Compare(a.Name, b.Name) })
		checkApplied(t, renamed, renaming(other.Validity, b.Name), want...)
	}
}

// P10: a message gets the Next of its mailbox, whatever the Uids of others are.
func TestAppend(t *testing.T) {
	list := []impl.Box{mailbox("a", 4, 1), mailbox("b", 2, 9), mailbox("c", 3, 5, message(2), impl.Msg{Uid: 4, Flags: 1, Text: "4"})}
	for at, b := range list {
		for _, m := range []impl.Msg{{}, {Flags: 31, Text: strings.Repeat("\r", 40)}, {Flags: 8}, {Text: "{3}"}} {
			m.Uid = b.Next
			checkApplied(t, list, appending(b.Validity, b.Next, m.Flags, m.Text), with(list, at, func(b *impl.Box) {
				b.Msgs, b.Next = append(b.Msgs, m), b.Next+1
			})...)
		}
		for uid := -1; uid <= 20; uid++ {
			if uid != b.Next {
				checkNotApplied(t, list, appending(b.Validity, uid, 0, ""))
			}
		}
		checkNotApplied(t, list, appending(b.Validity+5, b.Next, 0, ""))
		checkNotApplied(t, list, appending(b.Validity, b.Next, 32, ""))
		checkNotApplied(t, list, appending(b.Validity, b.Next, 0, strings.Repeat("a", 41)))
	}
	checkNotApplied(t, nil, appending(1, 1, 0, ""))
}

func TestAppendLimits(t *testing.T) {
	full := fullBox()
	checkNotApplied(t, []impl.Box{full}, appending(7, 14, 0, ""))
	for at := range full.Msgs {
		b := clonedBox(full)
		b.Msgs = slices.Delete(b.Msgs, at, at+1)
		list := []impl.Box{b}
		checkApplied(t, list, appending(7, 14, 2, "y"), with(list, 0, func(b *impl.Box) {
			b.Msgs, b.Next = append(b.Msgs, impl.Msg{Uid: 14, Flags: 2, Text: "y"}), 15
		})...)
	}
	// The last Uid leaves one more number, which is a Next only.
	checkApplied(t, []impl.Box{mailbox("a", 1, 999999998)}, appending(1, 999999998, 0, ""), mailbox("a", 1, 999999999, message(999999998)))
	for _, b := range []impl.Box{mailbox("a", 1, 999999999), withUids(999999999, 999999998)} {
		checkNotApplied(t, []impl.Box{b}, appending(1, 999999999, 0, ""))
		checkNotApplied(t, []impl.Box{b}, appending(1, 999999998, 0, ""))
	}
}

// P10: a change of flags is one of a single message, and of its flags alone.
func TestFlagsCommit(t *testing.T) {
	list := []impl.Box{mailbox("a", 1, 14, fullBox().Msgs...), fullBox(), mailbox("b", 9, 2, message(1))}
	for at, b := range list {
		for uid := -1; uid <= 15; uid++ {
			place := slices.IndexFunc(b.Msgs, func(m impl.Msg) bool { return m.Uid == uid })
			for bits := range 32 {
				if place < 0 {
					checkNotApplied(t, list, flagging(b.Validity, uid, bits))
					continue
				}
				// Also where the flags are the same already.
				checkApplied(t, list, flagging(b.Validity, uid, bits), with(list, at, func(b *impl.Box) { b.Msgs[place].Flags = bits })...)
			}
			checkNotApplied(t, list, flagging(b.Validity, uid, 32))
			checkNotApplied(t, list, flagging(b.Validity, uid, -1))
			checkNotApplied(t, list, flagging(5, uid, 1))
		}
	}
	last := withUids(999999999, 1, 999999998)
	checkApplied(t, []impl.Box{last}, flagging(1, 999999998, 1), mailbox("inbox", 1, 999999999, message(1), impl.Msg{Uid: 999999998, Flags: 1}))
	checkNotApplied(t, nil, flagging(1, 1, 0))
}

// P10: a Uid that is gone does not come back: Next stays.
func TestExpunge(t *testing.T) {
	list := []impl.Box{mailbox("a", 1, 14, fullBox().Msgs...), fullBox(), mailbox("b", 9, 2, message(1))}
	for at, b := range list {
		for uid := -1; uid <= 15; uid++ {
			place := slices.IndexFunc(b.Msgs, func(m impl.Msg) bool { return m.Uid == uid })
			checkNotApplied(t, list, expunging(5, uid))
			if place < 0 {
				checkNotApplied(t, list, expunging(b.Validity, uid))
				continue
			}
			want := with(list, at, func(b *impl.Box) { b.Msgs = slices.Delete(b.Msgs, place, place+1) })
			checkApplied(t, list, expunging(b.Validity, uid), want...)
			checkNotApplied(t, want, expunging(b.Validity, uid))
			checkNotApplied(t, want, flagging(b.Validity, uid, 0))
			checkNotApplied(t, want, appending(b.Validity, uid, 0, ""))
		}
	}
	checkApplied(t, []impl.Box{withUids(999999999, 999999998)}, expunging(1, 999999998), mailbox("inbox", 1, 999999999))
	checkNotApplied(t, nil, expunging(1, 1))
}

// brokenBoxes are someBoxes with a fault each.
func brokenBoxes() [][]impl.Box {
	list := [][]impl.Box{
		{someBoxes()[1], someBoxes()[0], someBoxes()[2]}, append(someBoxes(), someBoxes()[2]), append(fullBoxes(), mailbox("z", 5, 1)), append(someBoxes(), mailbox("z", 9, 1)), append(someBoxes(), impl.Box{}),
		{{}}, {{}, {}}, slices.Repeat(someBoxes(), 1000),
	}
	for _, change := range []func(b *impl.Box){
		func(b *impl.Box) { b.Name = "a//b" },
		func(b *impl.Box) { b.Validity = 1000000000 },
		func(b *impl.Box) { b.Next = 11 },
		func(b *impl.Box) { b.Msgs[5].Flags = 32 },
		func(b *impl.Box) { b.Msgs[5].Text = strings.Repeat("a", 41) },
		func(b *impl.Box) { b.Msgs[5].Uid = 9 },
		func(b *impl.Box) { b.Msgs = append(b.Msgs, message(12)) },
	} {
		list = append(list, with(someBoxes(), 1, change))
	}
	return list
}

// P10: invalid mailboxes are returned as they are, even if the commit would be one of a valid mailbox among them or would remove the fault.
func TestCommitsToInvalidBoxes(t *testing.T) {
	for _, list := range brokenBoxes() {
		for _, m := range append(someCommits(), creating(5, "z"), deleting(7), renaming(7, "a/c"), expunging(7, 11), flagging(7, 11, 0), deleting(1000000000), deleting(0), impl.Commit{}) {
			checkNotApplied(t, list, m)
			checkAll(t, list, []impl.Commit{m, m}, false, list...)
		}
		// Without a commit there is none that fails.
		checkAll(t, list, nil, true, list...)
		checkAll(t, list, []impl.Commit{}, true, list...)
	}
}

func TestAppliedAll(t *testing.T) {
	log := []impl.Commit{
		creating(2, "b"), creating(1, "a"), appending(2, 1, 1, "x"), appending(1, 1, 0, "y"), appending(2, 2, 0, ""), flagging(2, 2, 8), expunging(2, 1),
		renaming(1, "c"), creating(3, "a"), deleting(2), appending(3, 1, 16, "z"), creating(4, "b"), appending(1, 2, 4, "w"), deleting(1),
	}
	want := []impl.Box{mailbox("a", 3, 2, impl.Msg{Uid: 1, Flags: 16, Text: "z"}), mailbox("b", 4, 1)}
	checkAll(t, nil, log, true, want...)
	checkAll(t, nil, nil, true)
	checkAll(t, fullBoxes(), nil, true, fullBoxes()...)
	checkAll(t, fullBoxes(), []impl.Commit{}, true, fullBoxes()...)
	// Every log is applied by its commits one by one, from wherever it is divided.
	var list []impl.Box
	for i, m := range log {
		checkAll(t, nil, log[:i], true, list...)
		checkAll(t, list, log[i:], true, want...)
		var ok bool
		if list, ok = impl.Applied(list, m); !ok {
			t.Fatalf("commit %d does not apply", i)
		}
	}
}

// P10: what comes before a commit that fails is done, the commit and what comes after it is not.
func TestAppliedAllFails(t *testing.T) {
	log := []impl.Commit{creating(2, "b"), appending(2, 1, 1, "x"), creating(5, "a"), flagging(2, 1, 2), renaming(5, "c"), appending(2, 2, 0, "y"), expunging(2, 1), deleting(5), deleting(2)}
	for i := range len(log) + 1 {
		before, _ := impl.AppliedAll(nil, log[:i])
		for _, m := range []impl.Commit{{}, creating(9, "A"), deleting(3), renaming(3, "d"), appending(2, 7, 0, ""), flagging(2, 3, 0), expunging(2, 3), {Kind: 7, Validity: 2}} {
			checkAll(t, nil, slices.Insert(slices.Clone(log), i, m), false, before...)
			checkAll(t, nil, append(slices.Clone(log[:i]), m), false, before...)
			checkAll(t, nil, append(slices.Clone(log[:i]), m, m), false, before...)
		}
	}
	// The same commit may fail the second time.
	for _, m := range []impl.Commit{creating(2, "b"), deleting(9), renaming(9, "z"), appending(9, 1, 3, "x"), expunging(7, 11)} {
		once, _ := impl.Applied(someBoxes(), m)
		checkAll(t, someBoxes(), []impl.Commit{m, m}, false, once...)
	}
	twice, _ := impl.Applied(someBoxes(), flagging(7, 4, 16))
	checkAll(t, someBoxes(), []impl.Commit{flagging(7, 4, 16), flagging(7, 4, 16)}, true, twice...)
}

func TestAppliedAllOfLongLogs(t *testing.T) {
	log := []impl.Commit{creating(1, "a")}
	for uid := 1; uid <= 3000; uid++ {
		log = append(log, appending(1, uid, uid%32, "x"), flagging(1, uid, 8), expunging(1, uid))
	}
	checkAll(t, nil, log, true, mailbox("a", 1, 3001))
	checkAll(t, nil, append(log, appending(1, 3000, 0, ""), deleting(1)), false, mailbox("a", 1, 3001))
	checkAll(t, nil, append(log, deleting(1)), true)
}

// appliesWant follows the document's words.
func appliesWant(list []impl.Box, m impl.Commit) bool {
	isNamed, own := false, impl.Box{}
	for _, b := range list {
		isNamed = isNamed || b.Name == m.Name
		if b.Validity == m.Validity {
			own = b
		}
	}
	exists, fits := own.Validity != 0, false
	switch m.Kind {
	case impl.CmCreate:
		fits = len(list) < 4 && !exists && !isNamed
	case impl.CmDelete:
		fits = exists
	case impl.CmRename:
		fits = exists && !isNamed
	case impl.CmAppend:
		fits = exists && m.Uid == own.Next && len(own.Msgs) < 6
	default:
		fits = exists && slices.ContainsFunc(own.Msgs, func(msg impl.Msg) bool { return msg.Uid == m.Uid })
	}
	return fits && boxesWant(list) && commitWant(m)
}

// appliedWant makes all mailboxes anew, where the program changes them in place.
func appliedWant(list []impl.Box, m impl.Commit) []impl.Box {
	byName := map[string]impl.Box{}
	for _, b := range list {
		if b.Validity != m.Validity {
			byName[b.Name] = b
		} else if m.Kind != impl.CmDelete {
			changed := changedWant(b, m)
			byName[changed.Name] = changed
		}
	}
	if m.Kind == impl.CmCreate {
		byName[m.Name] = mailbox(m.Name, m.Validity, 1)
	}
	var want []impl.Box
	for _, name := range slices.Sorted(maps.Keys(byName)) {
		want = append(want, byName[name])
	}
	return want
}

func changedWant(b impl.Box, m impl.Commit) impl.Box {
	changed := mailbox(b.Name, b.Validity, b.Next)
	for _, msg := range b.Msgs {
		if m.Kind == impl.CmFlags && msg.Uid == m.Uid {
			msg.Flags = m.Flags
		}
		if m.Kind != impl.CmExpunge || msg.Uid != m.Uid {
			changed.Msgs = append(changed.Msgs, msg)
		}
	}
	switch m.Kind {
	case impl.CmRename:
		changed.Name = m.Name
	case impl.CmAppend:
		changed.Msgs, changed.Next = append(changed.Msgs, impl.Msg{Uid: m.Uid, Flags: m.Flags, Text: m.Text}), m.Uid+1
	}
	return changed
}

// randomCommit is mostly one that applies.
func randomCommit(random *rand.Rand, list []impl.Box) impl.Commit {
	m := impl.Commit{Kind: 1 + random.Intn(6), Validity: 1 + random.Intn(9)}
	uid, next := 1+random.Intn(9), 1
	if len(list) > 0 && m.Kind != impl.CmCreate {
		b := list[random.Intn(len(list))]
		m.Validity, next = b.Validity, b.Next
		if len(b.Msgs) > 0 {
			uid = b.Msgs[random.Intn(len(b.Msgs))].Uid
		}
	}
	if m.Kind == impl.CmAppend {
		uid = next
	}
	fields := fieldsOf(m.Kind)
	isOdd := func() bool { return random.Intn(60) == 0 }
	if slices.Contains(fields, "name") != isOdd() {
		m.Name = goodNames[random.Intn(len(goodNames))]
	}
	if slices.Contains(fields, "uid") != isOdd() {
		m.Uid = uid
	}
	if slices.Contains(fields, "flags") != isOdd() {
		m.Flags = random.Intn(33)
	}
	if slices.Contains(fields, "text") != isOdd() {
		m.Text = strings.Repeat("a", random.Intn(42))
	}
	if isOdd() {
		m.Uid += random.Intn(3) - 1
	}
	return m
}

// checkStep is P10: a commit that applies leaves valid mailboxes, of which the others are as they were; one that does not changes nothing.
func checkStep(t *testing.T, list []impl.Box, m impl.Commit) []impl.Box {
	t.Helper()
	if !appliesWant(list, m) {
		checkNotApplied(t, list, m)
		return list
	}
	want := appliedWant(list, m)
	checkApplied(t, list, m, want...)
	next, _ := impl.Applied(list, m)
	checkBoxes(t, next, true)
	if !boxesWant(next) {
		t.Fatalf("%+v makes invalid mailboxes: %+v", m, next)
	}
	isOther := func(b impl.Box) bool { return b.Validity != m.Validity }
	if !sameBoxes(only(list, isOther), only(next, isOther)) {
		t.Fatalf("%+v changes other mailboxes: %+v, %+v", m, list, next)
	}
	return next
}

func only(list []impl.Box, isIn func(b impl.Box) bool) []impl.Box {
	var part []impl.Box
	for _, b := range list {
		if isIn(b) {
			part = append(part, b)
		}
	}
	return part
}

func TestCommitsKeepBoxesValid(t *testing.T) {
	random := rand.New(rand.NewSource(21))
	applied := map[int]int{}
	rejected := 0
	for range 300 {
		var list []impl.Box
		var log []impl.Commit
		for range 60 {
			m := randomCommit(random, list)
			if appliesWant(list, m) {
				applied[m.Kind]++
				log = append(log, m)
			} else {
				rejected++
			}
			list = checkStep(t, list, m)
		}
		checkAll(t, nil, log, true, list...)
	}
	for kind := 1; kind <= 6; kind++ {
		if applied[kind] < 300 {
			t.Errorf("only %d commits of kind %d apply", applied[kind], kind)
		}
	}
	if rejected < 1000 {
		t.Errorf("only %d commits are rejected", rejected)
	}
}

// Lists that no log leads to are valid or not, and commits apply accordingly.
func TestCommitsToRandomBoxes(t *testing.T) {
	random := rand.New(rand.NewSource(22))
	counts := map[bool]int{}
	for range 20000 {
		list := randomBoxes(random)
		m := randomCommit(random, list)
		counts[appliesWant(list, m)]++
		checkStep(t, list, m)
	}
	if counts[true] < 1000 || counts[false] < 1000 {
		t.Errorf("the commits are one-sided: %v", counts)
	}
}

// The kind alone decides, whether the commit is valid or not.
func TestEventOf(t *testing.T) {
	events := map[int]int{1: 8, 2: 8, 3: 8, 4: 1, 5: 4, 6: 2}
	for kind, want := range events {
		for _, m := range append(someCommits(), impl.Commit{}, impl.Commit{Validity: -1, Uid: -1, Flags: -1, Name: "A", Text: strings.Repeat("a", 41)}) {
			m.Kind = kind
			if got := impl.EventOf(m); got != want {
				t.Errorf("EventOf(%+v) = %d, want %d", m, got, want)
			}
			for _, noKind := range noCommitKinds {
				m.Kind = noKind
				if got := impl.EventOf(m); got != 0 {
					t.Errorf("EventOf(%+v) = %d, want 0", m, got)
				}
			}
		}
	}
}

// overwrite destroys a result, so that it shows in whatever shares its memory.
func overwrite(list []impl.Box) {
	for i := range list {
		for j := range list[i].Msgs {
			list[i].Msgs[j] = message(-1)
		}
		_ = append(list[i].Msgs, message(-2))
		list[i] = mailbox("", -1, -1)
	}
	_ = append(list, mailbox("", -2, -2))
}

func TestCommitsLeaveTheirArguments(t *testing.T) {
	for _, list := range append(brokenBoxes()[:6], someBoxes(), fullBoxes(), nil) {
		own, unchanged := roomy(list)
		for _, m := range append(someCommits(), creating(2, "aa"), deleting(7), renaming(999999999, "a/a"), appending(9, 2, 0, ""), expunging(7, 1), impl.Commit{}) {
			log := append([]impl.Commit{m, flagging(7, 5, 1)}, creating(3, "zz"), impl.Commit{})
			kept := slices.Clone(log)
			once, _ := impl.Applied(own, m)
			want := clonedBoxes(once)
			again, _ := impl.Applied(own, m)
			overwrite(again)
			all, _ := impl.AppliedAll(own, log[:3])
			overwrite(all)
			none, _ := impl.AppliedAll(own, log[:0])
			overwrite(none)
			impl.Applies(own, m)
			if !unchanged() || !slices.Equal(log, kept) {
				t.Fatalf("%+v changes an argument: %+v, %+v", m, own, log)
			}
			if !sameBoxes(once, want) {
				t.Fatalf("results of %+v share memory: %+v, want %+v", m, once, want)
			}
		}
	}
}

// A result shares no memory with itself either: each mailbox has messages of its own.
func TestAppliedBoxesAreApart(t *testing.T) {
	msgs := fullBox().Msgs[:5]
	list := []impl.Box{mailbox("a", 1, 20, msgs...), mailbox("b", 2, 20, msgs...)}
	for _, m := range []impl.Commit{flagging(1, 4, 16), appending(2, 20, 1, "z"), expunging(2, 1), renaming(1, "c"), creating(3, "ab"), deleting(9)} {
		next, _ := impl.Applied(list, m)
		for at := range next {
			want := with(next, at, func(b *impl.Box) {
				for i := range b.Msgs {
					b.Msgs[i] = impl.Msg{}
				}
			})
			got, _ := impl.Applied(list, m)
			for i := range got[at].Msgs {
				got[at].Msgs[i] = impl.Msg{}
			}
			got[at].Msgs = append(got[at].Msgs, message(77))[:len(got[at].Msgs)]
			if !sameBoxes(got, want) {
				t.Fatalf("the mailboxes after %+v share memory: %+v", m, got)
			}
		}
	}
}
