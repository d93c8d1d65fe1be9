package tests

import (
	"math"
	"math/rand"
	"slices"
	"strings"
	"testing"

	"loop.example/g00501/impl"
)

// noPlaces are before the first commit.
var noPlaces = []int{-1, -2, -300, -1 << 32, -1<<32 + 1, math.MinInt64 + 1, math.MinInt64}

// stateWant is the state after a log, by the second reading of the commits; the log ends where one does not apply.
func stateWant(log []impl.Commit) ([]impl.Box, bool) {
	var list []impl.Box
	for _, m := range log {
		if !appliesWant(list, m) {
			return list, false
		}
		list = appliedWant(list, m)
	}
	return list, true
}

// storeWith has what the log leads to.
func storeWith(given int, log ...impl.Commit) impl.Store {
	list, _ := stateWant(log)
	return impl.Store{Boxes: list, Log: slices.Clone(log), Given: given}
}

// someLog has commits of every kind, mailboxes that are gone, a name that is used again, and Validities that do not ascend.
func someLog() []impl.Commit {
	return []impl.Commit{
		creating(1, "inbox"), appending(1, 1, 0, "x"), flagging(1, 1, 4), creating(7, "a"), appending(7, 1, 1, "y"), creating(5, "a/b"),
		appending(1, 2, 8, ""), deleting(7), renaming(5, "a"), appending(5, 1, 16, "z"), expunging(1, 1), creating(3, "a/b"), appending(1, 3, 2, "w"), flagging(5, 1, 3), deleting(3),
	}
}

// misfits apply at no place of someLog; the last one would only at its beginning.
func misfits() []impl.Commit {
	return []impl.Commit{{}, creating(8, "A"), creating(0, "b"), deleting(2), renaming(1, "inbox"), appending(1, 5, 0, ""), flagging(1, 9, 0), expunging(1, 9), {Kind: 7, Validity: 1}, creating(1, "b")}
}

func someStore() impl.Store { return storeWith(9, someLog()...) }

// fullStore has as many commits as there may be.
func fullStore() impl.Store {
	log := someLog()
	for i := 0; len(log) < 300; i++ {
		log = append(log, flagging(1, 2, i%32))
	}
	return storeWith(9, log...)
}

func clonedStore(s impl.Store) impl.Store {
	return impl.Store{Boxes: clonedBoxes(s.Boxes), Log: slices.Clone(s.Log), Given: s.Given}
}

// storeBut is a store with a change that its original does not see.
func storeBut(s impl.Store, change func(s *impl.Store)) impl.Store {
	s = clonedStore(s)
	change(&s)
	return s
}

// equalStores compares field by field, so that no other test needs SameStore.
func equalStores(a impl.Store, b impl.Store) bool {
	return sameBoxes(a.Boxes, b.Boxes) && slices.Equal(a.Log, b.Log) && a.Given == b.Given
}

func checkStoreOk(t *testing.T, s impl.Store, want bool) {
	t.Helper()
	if impl.StoreOk(s) != want {
		t.Fatalf("StoreOk(%+v) is not %v", s, want)
	}
}

// checkAt also asks for each mailbox, and for the Validities of others.
func checkAt(t *testing.T, s impl.Store, i int, want ...impl.Box) {
	t.Helper()
	if got := impl.BoxesAt(s, i); !sameBoxes(got, want) {
		t.Fatalf("BoxesAt(%+v, %d) = %+v, want %+v", s, i, got, want)
	}
	validities := slices.Concat(noIds, []int{1, 2, 3, 4, 5, 6, 7, 8, 9, 10, 999999999})
	for _, b := range want {
		validities = append(validities, b.Validity)
	}
	for _, validity := range validities {
		at := slices.IndexFunc(want, func(b impl.Box) bool { return b.Validity == validity })
		var box impl.Box
		if at >= 0 {
			box = want[at]
		}
		if got, ok := impl.BoxAt(s, validity, i); ok != (at >= 0) || !equalBoxes(got, box) {
			t.Fatalf("BoxAt(%+v, %d, %d) = %+v, %v, want %+v, %v", s, validity, i, got, ok, box, at >= 0)
		}
	}
}

// checkStates asks for the states at every place, and at places where there is none.
func checkStates(t *testing.T, s impl.Store) {
	t.Helper()
	for i := range len(s.Log) + 1 {
		want, _ := stateWant(s.Log[:i])
		checkAt(t, s, i, want...)
	}
	for _, i := range noPlaces {
		checkAt(t, s, i)
	}
	want, _ := stateWant(s.Log)
	for _, i := range []int{len(s.Log) + 1, len(s.Log) + 2, 300, 301, 1 << 31, 1 << 32, 1<<32 + 1, math.MaxInt64} {
		if i > len(s.Log) {
			checkAt(t, s, i, want...)
		}
	}
}

func checkCommitted(t *testing.T, s impl.Store, m impl.Commit, want impl.Store) impl.Store {
	t.Helper()
	got, ok := impl.Committed(s, m)
	if !ok || !equalStores(got, want) {
		t.Fatalf("Committed(%+v, %+v) = %+v, %v, want %+v", s, m, got, ok, want)
	}
	return got
}

func checkNotCommitted(t *testing.T, s impl.Store, m impl.Commit) {
	t.Helper()
	if got, ok := impl.Committed(s, m); ok || !equalStores(got, s) {
		t.Fatalf("Committed(%+v, %+v) = %+v, %v", s, m, got, ok)
	}
}

func TestMaxLog(t *testing.T) {
	if impl.MaxLog != 300 {
		t.Errorf("the limit is %d", impl.MaxLog)
	}
}

func TestStoreNew(t *testing.T) {
	want := impl.Store{Boxes: []impl.Box{mailbox("inbox", 1, 1)}, Log: []impl.Commit{creating(1, "inbox")}, Given: 1}
	for range 3 {
		s := impl.StoreNew()
		if !equalStores(s, want) {
			t.Fatalf("StoreNew() = %+v", s)
		}
		checkStoreOk(t, s, true)
		checkStates(t, s)
		// Each new store has memory of its own.
		s.Boxes[0], s.Log[0] = impl.Box{}, impl.Commit{}
	}
}

func TestStoreOk(t *testing.T) {
	checkStoreOk(t, impl.Store{}, true)
	checkStoreOk(t, impl.Store{Boxes: []impl.Box{}, Log: []impl.Commit{}}, true)
	checkStoreOk(t, impl.Store{Given: 999999999}, true)
	for _, s := range []impl.Store{someStore(), fullStore(), storeWith(1, creating(1, "inbox")), storeWith(2, creating(2, "a"), deleting(2)), storeWith(999999999, creating(999999999, "x"))} {
		checkStoreOk(t, s, true)
		empty := slices.Clone(s.Boxes)
		for i := range empty {
			if len(empty[i].Msgs) == 0 {
				empty[i].Msgs = []impl.Msg{}
			}
		}
		checkStoreOk(t, impl.Store{Boxes: empty, Log: s.Log, Given: s.Given}, true)
		// A state that is over is not the current one.
		for i := range len(someLog()) {
			earlier, _ := stateWant(s.Log[:min(i, len(s.Log))])
			checkStoreOk(t, impl.Store{Boxes: earlier, Log: s.Log, Given: s.Given}, sameBoxes(earlier, s.Boxes))
		}
	}
}

// The mailboxes are those of the log, in all that they have.
func TestStoreOkBoxes(t *testing.T) {
	for _, s := range []impl.Store{someStore(), fullStore()} {
		for at, b := range s.Boxes {
			for _, change := range []func(b *impl.Box){
				func(b *impl.Box) { b.Name += "x" },
				func(b *impl.Box) { b.Validity += 11 },
				func(b *impl.Box) { b.Next++ },
				func(b *impl.Box) { b.Next-- },
				func(b *impl.Box) { b.Msgs = b.Msgs[1:] },
				func(b *impl.Box) { b.Msgs = append(b.Msgs, b.Msgs[0]) },
				func(b *impl.Box) { b.Msgs[0].Uid += 2 },
				func(b *impl.Box) { b.Msgs[0].Flags ^= 2 },
				func(b *impl.Box) { b.Msgs[0].Text += "x" },
				func(b *impl.Box) { *b = impl.Box{} },
			} {
				checkStoreOk(t, storeBut(s, func(s *impl.Store) { change(&s.Boxes[at]) }), false)
			}
			checkStoreOk(t, storeBut(s, func(s *impl.Store) { s.Boxes = slices.Delete(s.Boxes, at, at+1) }), false)
			checkStoreOk(t, storeBut(s, func(s *impl.Store) { s.Boxes = append(s.Boxes, b) }), false)
		}
		checkStoreOk(t, storeBut(s, func(s *impl.Store) { s.Boxes = nil }), false)
		checkStoreOk(t, storeBut(s, func(s *impl.Store) { slices.Reverse(s.Boxes) }), false)
		checkStoreOk(t, storeBut(s, func(s *impl.Store) { s.Boxes = append(s.Boxes, mailbox("z", 2, 1)) }), false)
	}
	checkStoreOk(t, impl.Store{Boxes: []impl.Box{mailbox("inbox", 1, 1)}, Given: 1}, false)
	checkStoreOk(t, impl.Store{Boxes: []impl.Box{{}}}, false)
}

// A log that fails makes a store invalid, even if the mailboxes are those before the commit that fails.
func TestStoreOkLog(t *testing.T) {
	log := someLog()
	for i := range len(log) + 1 {
		for _, m := range misfits() {
			checkStoreOk(t, storeWith(9, slices.Insert(slices.Clone(log), i, m)...), false)
			if i > 0 || m != creating(1, "b") {
				checkStoreOk(t, storeWith(9, append(slices.Clone(log[:i]), m)...), false)
			}
		}
	}
	for i := range log {
		s := storeBut(someStore(), func(s *impl.Store) { s.Log = slices.Delete(s.Log, i, i+1) })
		checkStoreOk(t, s, storeOkWant(s))
	}
}

func TestStoreOkLimit(t *testing.T) {
	s := fullStore()
	for _, n := range []int{1, 2, 100, 1000} {
		log := append(slices.Clone(s.Log), slices.Repeat([]impl.Commit{flagging(1, 2, 1)}, n)...)
		checkStoreOk(t, storeWith(9, log...), false)
	}
	checkStoreOk(t, storeWith(9, s.Log...), true)
	checkStoreOk(t, storeWith(9, s.Log[:299]...), true)
}

// P11: a Validity that has been assigned is not assigned again, not even after its mailbox is gone.
func TestStoreOkValidities(t *testing.T) {
	twice := [][]impl.Commit{
		{creating(1, "inbox"), creating(2, "a"), deleting(2), creating(2, "a")},
		{creating(1, "inbox"), creating(2, "a"), deleting(2), creating(2, "b"), deleting(2)},
		{creating(2, "a"), deleting(2), creating(1, "inbox"), creating(4, "x"), creating(2, "a")},
		{creating(1, "inbox"), deleting(1), creating(1, "inbox")},
		{creating(3, "a"), deleting(3), creating(2, "a"), deleting(2), creating(1, "a"), deleting(1), creating(3, "a")},
		{creating(999999999, "a"), deleting(999999999), creating(999999999, "a")},
	}
	for _, log := range twice {
		for _, given := range []int{3, 4, 5, 999999999} {
			s := storeWith(given, log...)
			if _, ok := impl.AppliedAll(nil, log); !ok {
				t.Fatalf("the log fails: %+v", log)
			}
			checkStoreOk(t, s, false)
		}
	}
	// The other kinds have the same Validity as often as they need it, and a name may be used again.
	checkStoreOk(t, storeWith(9, creating(4, "a"), creating(3, "b"), renaming(4, "c"), renaming(4, "a"), deleting(4), creating(2, "a"), deleting(2), creating(9, "a"), deleting(9)), true)
	checkStoreOk(t, storeWith(3, creating(3, "a"), creating(2, "b"), creating(1, "c")), true)
}

// Given counts the mailboxes that are gone, too.
func TestStoreOkGiven(t *testing.T) {
	for _, log := range [][]impl.Commit{
		nil, {creating(1, "inbox")}, {creating(5, "a"), creating(2, "b")}, {creating(2, "b"), creating(5, "a")}, {creating(5, "a"), deleting(5), creating(2, "b")}, {creating(2, "a"), deleting(2)}, {creating(3, "a"), creating(7, "b"), deleting(7), creating(6, "b")},
	} {
		most := 0
		for _, m := range log {
			if m.Kind == impl.CmCreate {
				most = max(most, m.Validity)
			}
		}
		for given := -2; given <= 12; given++ {
			checkStoreOk(t, storeWith(given, log...), given >= most)
		}
		for _, given := range []int{999999998, 999999999} {
			checkStoreOk(t, storeWith(given, log...), true)
		}
		for _, given := range noIds {
			checkStoreOk(t, storeWith(given, log...), given == 0 && most == 0)
		}
	}
	checkStoreOk(t, storeWith(999999998, creating(999999999, "a")), false)
}

// storeOkWant follows the document's words.
func storeOkWant(s impl.Store) bool {
	list, ok := stateWant(s.Log)
	var validities []int
	for _, m := range s.Log {
		if m.Kind == impl.CmCreate {
			validities = append(validities, m.Validity)
		}
	}
	slices.Sort(validities)
	differ := len(slices.Compact(slices.Clone(validities))) == len(validities)
	enough := len(validities) == 0 || validities[len(validities)-1] <= s.Given
	return len(s.Log) <= 300 && ok && sameBoxes(list, s.Boxes) && differ && enough && 0 <= s.Given && s.Given <= 999999999
}

func TestStates(t *testing.T) {
	checkStates(t, impl.Store{})
	checkStates(t, someStore())
	checkStates(t, fullStore())
	s := storeWith(2, creating(2, "b"), appending(2, 1, 1, "x"), flagging(2, 1, 9), expunging(2, 1), renaming(2, "a"), deleting(2))
	checkAt(t, s, 0)
	checkAt(t, s, 1, mailbox("b", 2, 1))
	checkAt(t, s, 2, mailbox("b", 2, 2, impl.Msg{Uid: 1, Flags: 1, Text: "x"}))
	checkAt(t, s, 3, mailbox("b", 2, 2, impl.Msg{Uid: 1, Flags: 9, Text: "x"}))
	checkAt(t, s, 4, mailbox("b", 2, 2))
	checkAt(t, s, 5, mailbox("a", 2, 2))
	checkAt(t, s, 6)
	checkAt(t, s, 7)
}

// The states are those of the log alone, whatever else the store has.
func TestStatesOfInvalidStores(t *testing.T) {
	for _, list := range append(brokenBoxes(), nil, someBoxes()) {
		for _, given := range []int{0, -1, 1000000000, math.MinInt64, math.MaxInt64} {
			s := impl.Store{Boxes: list, Log: someLog()[:6], Given: given}
			checkStates(t, s)
			checkAt(t, impl.Store{Boxes: list, Given: given}, 7)
		}
	}
	log := someLog()
	for i := range len(log) + 1 {
		before, _ := stateWant(log[:i])
		for _, m := range misfits() {
			s := impl.Store{Log: slices.Insert(slices.Clone(log), i, m)}
			checkStates(t, s)
			if i == 0 && m == creating(1, "b") {
				continue
			}
			// Nothing is done after a commit that does not apply, even if it would apply again.
			for at := i; at <= len(s.Log)+1; at++ {
				checkAt(t, s, at, before...)
			}
		}
	}
}

// A log that is too long, or that assigns a Validity twice, is applied nevertheless.
func TestStatesOfOddLogs(t *testing.T) {
	log := slices.Concat(fullStore().Log, []impl.Commit{flagging(1, 2, 1), flagging(1, 2, 16), deleting(1)})
	s := impl.Store{Log: log}
	for i := 298; i <= 305; i++ {
		want, _ := stateWant(log[:min(i, 303)])
		checkAt(t, s, i, want...)
	}
	twice := impl.Store{Log: []impl.Commit{creating(2, "a"), appending(2, 1, 0, "x"), deleting(2), creating(2, "b"), appending(2, 1, 1, "")}}
	checkStates(t, twice)
	checkAt(t, twice, 5, mailbox("b", 2, 2, impl.Msg{Uid: 1, Flags: 1}))
}

func TestCommitted(t *testing.T) {
	s := storeWith(9, creating(9, "a"), creating(7, "a/b"), appending(7, 1, 0, "x"))
	for _, m := range []impl.Commit{creating(10, "inbox"), creating(999999999, "b"), deleting(9), deleting(7), renaming(9, "uid"), appending(9, 1, 3, "x"), appending(7, 2, 31, strings.Repeat("a", 40)), flagging(7, 1, 16), flagging(7, 1, 0), expunging(7, 1)} {
		want := storeWith(max(9, m.Validity), append(slices.Clone(s.Log), m)...)
		next := checkCommitted(t, s, m, want)
		checkStoreOk(t, next, true)
	}
	// Each commit has its turn, and the next one applies to what it leaves.
	s = impl.Store{}
	for i, m := range someLog()[:5] {
		s = checkCommitted(t, s, m, storeWith(max(s.Given, m.Validity), someLog()[:i+1]...))
	}
	checkCommitted(t, impl.Store{}, creating(4, "a"), storeWith(4, creating(4, "a")))
}

func TestCommittedOfWhatDoesNotApply(t *testing.T) {
	for _, s := range []impl.Store{{}, impl.StoreNew(), someStore()} {
		for _, m := range []impl.Commit{{}, creating(20, "inbox/"), creating(0, "b"), creating(-1, "b"), creating(1000000000, "b"), deleting(7), renaming(2, "c"), renaming(1, "inbox"), renaming(1, "a//b"), appending(2, 1, 0, ""), appending(1, 5, 0, ""), appending(1, 4, 32, ""), appending(1, 4, 0, strings.Repeat("a", 41)), flagging(1, 1, 0), flagging(1, 2, 32), expunging(1, 1), expunging(2, 2), {Kind: 7, Validity: 1}, {Kind: impl.CmDelete, Validity: 1, Uid: 1}} {
			checkNotCommitted(t, s, m)
		}
	}
	for _, name := range []string{"inbox", "a"} {
		checkNotCommitted(t, someStore(), creating(20, name))
	}
	full := storeWith(4, creating(1, "a"), creating(2, "b"), creating(3, "c"), creating(4, "d"))
	checkNotCommitted(t, full, creating(5, "e"))
}

// P11: a Validity that may have been assigned is rejected, whether the mailbox is there, is gone, or has never been.
func TestCommittedValidities(t *testing.T) {
	for _, s := range []impl.Store{someStore(), storeWith(9), storeWith(9, creating(9, "a")), storeWith(9, creating(9, "a"), deleting(9)), storeWith(9, creating(1, "inbox"))} {
		for validity := -1; validity <= 9; validity++ {
			checkNotCommitted(t, s, creating(validity, "x"))
		}
		for _, validity := range []int{10, 11, 999999998, 999999999} {
			next := checkCommitted(t, s, creating(validity, "x"), storeWith(validity, append(slices.Clone(s.Log), creating(validity, "x"))...))
			checkNotCommitted(t, next, creating(validity, "y"))
			gone := checkCommitted(t, next, deleting(validity), storeWith(validity, append(slices.Clone(next.Log), deleting(validity))...))
			checkNotCommitted(t, gone, creating(validity, "x"))
			checkNotCommitted(t, gone, creating(validity-1, "x"))
		}
	}
	last := storeWith(999999999, creating(1, "inbox"))
	for _, validity := range append([]int{2, 999999998, 999999999}, noIds...) {
		checkNotCommitted(t, last, creating(validity, "x"))
	}
	// Given stays as it is with the other kinds.
	checkCommitted(t, last, appending(1, 1, 0, ""), storeWith(999999999, creating(1, "inbox"), appending(1, 1, 0, "")))
}

func TestCommittedLimit(t *testing.T) {
	full := fullStore()
	commits := []impl.Commit{creating(10, "x"), deleting(1), renaming(1, "x"), appending(1, 4, 0, ""), flagging(1, 2, 0), expunging(1, 2)}
	for _, m := range commits {
		almost := storeWith(9, full.Log[:299]...)
		next := checkCommitted(t, almost, m, storeWith(max(9, m.Validity), append(slices.Clone(almost.Log), m)...))
		checkStoreOk(t, next, true)
		for _, other := range append(commits, deleting(10)) {
			checkNotCommitted(t, next, other)
			checkNotCommitted(t, full, other)
			checkNotCommitted(t, storeBut(full, func(s *impl.Store) { s.Log = append(s.Log, flagging(1, 2, 1)) }), other)
		}
	}
}

// A commit applies to the mailboxes, whether they are those of the log or not.
func TestCommittedToInvalidStores(t *testing.T) {
	for _, m := range someCommits() {
		for _, given := range []int{math.MinInt64, -1, 0, 1, 5, 8, 9, 12, 1000000000, math.MaxInt64} {
			s := impl.Store{Boxes: someBoxes(), Log: []impl.Commit{{}, deleting(4)}, Given: given}
			if m.Kind == impl.CmCreate && m.Validity <= given {
				checkNotCommitted(t, s, m)
				continue
			}
			checkCommitted(t, s, m, impl.Store{Boxes: appliedWant(someBoxes(), m), Log: append(slices.Clone(s.Log), m), Given: max(given, m.Validity)})
		}
		for _, list := range brokenBoxes() {
			for _, log := range [][]impl.Commit{nil, someLog()} {
				checkNotCommitted(t, impl.Store{Boxes: list, Log: log, Given: 1}, m)
			}
		}
	}
}

// checkKept is P11: the states up to the last one of s are the same in next.
func checkKept(t *testing.T, s impl.Store, next impl.Store) {
	t.Helper()
	for i := -1; i <= len(s.Log); i++ {
		before, after := impl.BoxesAt(s, i), impl.BoxesAt(next, i)
		if !sameBoxes(before, after) {
			t.Fatalf("the state at %d of %+v was %+v, and is %+v", i, s, before, after)
		}
		for _, b := range before {
			if got, ok := impl.BoxAt(next, b.Validity, i); !ok || !equalBoxes(got, b) {
				t.Fatalf("the mailbox %d at %d was %+v, and is %+v", b.Validity, i, b, got)
			}
		}
	}
	if !sameBoxes(impl.BoxesAt(s, len(s.Log)), s.Boxes) || !sameBoxes(impl.BoxesAt(next, len(next.Log)), next.Boxes) {
		t.Fatalf("the current mailboxes are not those after the log: %+v, %+v", s, next)
	}
}

func TestEarlierStatesAreKept(t *testing.T) {
	s := impl.Store{}
	for _, m := range []impl.Commit{
		creating(1, "inbox"), creating(4, "a"), appending(4, 1, 3, "x"), appending(1, 1, 0, "y"), flagging(4, 1, 16), renaming(4, "z/a"), appending(4, 2, 0, ""), expunging(4, 1), creating(5, "a"), deleting(4), creating(6, "z/a"), deleting(1), deleting(5), deleting(6),
	} {
		next, ok := impl.Committed(s, m)
		if !ok {
			t.Fatalf("%+v does not apply to %+v", m, s)
		}
		checkKept(t, s, next)
		checkStates(t, next)
		// Nor does what is done to the new store show in the states of the old one.
		kept := clonedStore(s)
		overwrite(next.Boxes)
		next.Log[0] = impl.Commit{}
		if !equalStores(s, kept) {
			t.Fatalf("the stores share memory: %+v, want %+v", s, kept)
		}
		s, _ = impl.Committed(s, m)
	}
}

func TestRandomStores(t *testing.T) {
	random := rand.New(rand.NewSource(23))
	committed, rejected := 0, 0
	for range 60 {
		s := impl.StoreNew()
		for range 80 {
			m := randomCommit(random, s.Boxes)
			if m.Kind == impl.CmCreate && random.Intn(3) > 0 {
				m.Validity = s.Given + random.Intn(3)
			}
			if !appliesWant(s.Boxes, m) || m.Kind == impl.CmCreate && m.Validity <= s.Given {
				checkNotCommitted(t, s, m)
				rejected++
				continue
			}
			next := checkCommitted(t, s, m, storeWith(max(s.Given, m.Validity), append(slices.Clone(s.Log), m)...))
			checkStoreOk(t, next, true)
			checkKept(t, s, next)
			s = next
			committed++
		}
	}
	if committed < 1000 || rejected < 1000 {
		t.Errorf("%d commits are made, %d are rejected", committed, rejected)
	}
}

func TestStoreOkIsExact(t *testing.T) {
	random := rand.New(rand.NewSource(24))
	counts := map[bool]int{}
	for range 4000 {
		var list []impl.Box
		var log []impl.Commit
		for range random.Intn(40) {
			m := randomCommit(random, list)
			if m.Kind == impl.CmCreate {
				m.Validity = 1 + random.Intn(60)
			}
			if appliesWant(list, m) {
				list = appliedWant(list, m)
				log = append(log, m)
			} else if random.Intn(200) == 0 {
				log = append(log, m)
			}
		}
		s := impl.Store{Boxes: list, Log: log, Given: random.Intn(20) + 50}
		if random.Intn(10) == 0 {
			s.Boxes, _ = impl.AppliedAll(list, []impl.Commit{flagging(1, 1, random.Intn(32))})
		}
		want := storeOkWant(s)
		checkStoreOk(t, s, want)
		counts[want]++
		if len(log) <= 12 {
			checkStates(t, s)
		}
	}
	if counts[true] < 500 || counts[false] < 500 {
		t.Errorf("the stores are one-sided: %v", counts)
	}
}

func checkCommitsOf(t *testing.T, s impl.Store, validity int, from int, want ...int) {
	t.Helper()
	if got := impl.CommitsOf(s, validity, from); !slices.Equal(got, want) {
		t.Fatalf("CommitsOf(%+v, %d, %d) = %v, want %v", s, validity, from, got, want)
	}
}

func TestCommitsOf(t *testing.T) {
	s := someStore()
	indices := map[int][]int{1: {1, 2, 6, 10, 12}, 7: {4}, 5: {9, 13}}
	for validity := -1; validity <= 12; validity++ {
		all := indices[validity]
		for from := -3; from <= 20; from++ {
			want := all
			for len(want) > 0 && want[0] < from {
				want = want[1:]
			}
			checkCommitsOf(t, s, validity, from, want...)
			checkCommitsOf(t, impl.Store{}, validity, from)
		}
		for _, from := range noPlaces {
			checkCommitsOf(t, s, validity, from, all...)
		}
		for _, from := range []int{300, 301, 1 << 31, 1 << 32, 1<<32 + 1, math.MaxInt64} {
			checkCommitsOf(t, s, validity, from)
		}
	}
}

// The kind and the Validity decide alone, in valid logs and in others.
func TestCommitsOfAnyLog(t *testing.T) {
	for kind := -2; kind <= 9; kind++ {
		for _, validity := range append([]int{1, 2, 999999999}, noIds...) {
			m := impl.Commit{Kind: kind, Validity: validity, Uid: -1, Flags: 77, Name: "A", Text: strings.Repeat("a", 41)}
			s := impl.Store{Log: []impl.Commit{{}, m, deleting(validity), m, {}}}
			if kind == 4 || kind == 5 || kind == 6 {
				checkCommitsOf(t, s, validity, 0, 1, 3)
				checkCommitsOf(t, s, validity, 1, 1, 3)
				checkCommitsOf(t, s, validity, 2, 3)
				checkCommitsOf(t, s, validity, 3, 3)
			} else {
				checkCommitsOf(t, s, validity, 0)
			}
			checkCommitsOf(t, s, validity, 4)
			checkCommitsOf(t, s, 3, 0)
		}
	}
	// Beyond the limit, too.
	log := slices.Repeat([]impl.Commit{expunging(2, 1)}, 1000)
	want := make([]int, 1000)
	for i := range want {
		want[i] = i
	}
	checkCommitsOf(t, impl.Store{Log: log}, 2, 0, want...)
	checkCommitsOf(t, impl.Store{Log: log}, 2, 998, 998, 999)
}

// The commits of a mailbox are those that change its messages, one after the other.
func TestCommitsOfLeadToTheBox(t *testing.T) {
	s := fullStore()
	for _, validity := range []int{1, 3, 5, 7, 8} {
		for i, m := range s.Log {
			before, _ := impl.BoxAt(s, validity, i)
			after, _ := impl.BoxAt(s, validity, i+1)
			isOf := slices.Contains(impl.CommitsOf(s, validity, i), i)
			if isOf != (m.Validity == validity && m.Kind >= 4) || !isOf && before.Validity == after.Validity && !slices.Equal(before.Msgs, after.Msgs) {
				t.Fatalf("commit %d, %+v, makes %+v of %+v", i, m, after, before)
			}
		}
	}
}

func checkSameStore(t *testing.T, a impl.Store, b impl.Store, want bool) {
	t.Helper()
	if impl.SameStore(a, b) != want || impl.SameStore(b, a) != want {
		t.Fatalf("SameStore(%+v, %+v) is not %v", a, b, want)
	}
}

func TestSameStore(t *testing.T) {
	checkSameStore(t, impl.Store{}, impl.Store{Boxes: []impl.Box{}, Log: []impl.Commit{}}, true)
	checkSameStore(t, impl.Store{}, impl.StoreNew(), false)
	odd := impl.Store{Boxes: []impl.Box{{}, mailbox("A", -1, -1, impl.Msg{Uid: -1, Flags: -1, Text: "\x00"})}, Log: []impl.Commit{{}, {Kind: -1, Validity: -2, Uid: -3, Flags: -4, Name: "B", Text: "C"}}, Given: -5}
	for _, s := range []impl.Store{odd, someStore(), fullStore()} {
		checkSameStore(t, s, clonedStore(s), true)
		for _, change := range []func(s *impl.Store){
			func(s *impl.Store) { s.Given++ },
			func(s *impl.Store) { s.Given -= 1 << 32 },
			func(s *impl.Store) { s.Boxes = s.Boxes[:1] },
			func(s *impl.Store) { s.Boxes = append(s.Boxes, impl.Box{}) },
			func(s *impl.Store) { s.Boxes = nil },
			func(s *impl.Store) { slices.Reverse(s.Boxes) },
			func(s *impl.Store) { s.Boxes[1].Name += "x" },
			func(s *impl.Store) { s.Boxes[1].Validity++ },
			func(s *impl.Store) { s.Boxes[1].Next++ },
			func(s *impl.Store) { s.Boxes[1].Msgs[0].Uid++ },
			func(s *impl.Store) { s.Boxes[1].Msgs[0].Flags++ },
			func(s *impl.Store) { s.Boxes[1].Msgs[0].Text += "x" },
			func(s *impl.Store) { s.Boxes[1].Msgs = nil },
			func(s *impl.Store) { s.Log = s.Log[:1] },
			func(s *impl.Store) { s.Log = append(s.Log, impl.Commit{}) },
			func(s *impl.Store) { s.Log = nil },
			func(s *impl.Store) { slices.Reverse(s.Log) },
			func(s *impl.Store) { s.Log[1].Kind++ },
			func(s *impl.Store) { s.Log[1].Validity++ },
			func(s *impl.Store) { s.Log[1].Uid++ },
			func(s *impl.Store) { s.Log[1].Flags++ },
			func(s *impl.Store) { s.Log[1].Name += "x" },
			func(s *impl.Store) { s.Log[1].Text += "x" },
			func(s *impl.Store) { s.Log[len(s.Log)-1].Flags++ },
		} {
			checkSameStore(t, s, storeBut(s, change), false)
		}
	}
}

// roomyStore has room behind its slices, and tells whether anything has been written, there or in them.
func roomyStore(s impl.Store) (impl.Store, func() bool) {
	boxes, unchanged := roomy(s.Boxes)
	log := append(slices.Clone(s.Log), deleting(77), impl.Commit{})
	kept := slices.Clone(log)
	own := impl.Store{Boxes: boxes, Log: log[:len(s.Log)], Given: s.Given}
	return own, func() bool { return unchanged() && slices.Equal(log, kept) }
}

// overwriteStore destroys a result, so that it shows in whatever shares its memory.
func overwriteStore(s impl.Store) {
	overwrite(s.Boxes)
	for i := range s.Log {
		s.Log[i] = impl.Commit{}
	}
	_ = append(s.Log, deleting(78))
}

func TestStoresLeaveTheirArguments(t *testing.T) {
	invalid := impl.Store{Boxes: brokenBoxes()[0], Log: []impl.Commit{creating(1, "a"), {}}, Given: -1}
	for _, s := range []impl.Store{{}, impl.StoreNew(), someStore(), fullStore(), {Boxes: someBoxes(), Log: someLog(), Given: 1}, invalid} {
		own, unchanged := roomyStore(s)
		impl.StoreOk(own)
		impl.SameStore(own, own)
		for _, m := range append(someCommits(), creating(20, "x"), deleting(1), renaming(1, "x"), appending(1, 4, 0, "y"), flagging(1, 2, 4), expunging(1, 2), impl.Commit{}) {
			first, _ := impl.Committed(own, m)
			want := clonedStore(first)
			second, _ := impl.Committed(own, m)
			overwriteStore(second)
			if !unchanged() || !equalStores(first, want) {
				t.Fatalf("Committed(%+v, %+v) changes an argument or an earlier result", s, m)
			}
		}
		for i := range len(s.Log) + 2 {
			overwrite(impl.BoxesAt(own, i))
			for _, validity := range []int{1, 5, 7} {
				b, _ := impl.BoxAt(own, validity, i)
				overwrite([]impl.Box{b})
				indices := impl.CommitsOf(own, validity, i)
				for j := range indices {
					indices[j] = -1
				}
				_ = append(indices, -1)
			}
			if !unchanged() {
				t.Fatalf("the state at %d shares memory with the store: %+v, want %+v", i, own, s)
			}
		}
	}
}

// A result shares no memory with itself either.
func TestStoreBoxesAreApart(t *testing.T) {
	msgs := fullBox().Msgs[:5]
	s := impl.Store{Boxes: []impl.Box{mailbox("a", 1, 20, msgs...), mailbox("b", 2, 20, msgs...)}, Given: 2}
	for _, m := range []impl.Commit{flagging(1, 4, 16), appending(2, 20, 1, "z"), expunging(2, 1), renaming(1, "c"), creating(3, "ab"), deleting(9)} {
		next, _ := impl.Committed(s, m)
		for at := range next.Boxes {
			want := clonedBoxes(next.Boxes)
			overwrite(next.Boxes[at : at+1 : at+1])
			next.Boxes[at] = want[at]
			if !sameBoxes(next.Boxes[:at], want[:at]) || !sameBoxes(next.Boxes[at+1:], want[at+1:]) {
				t.Fatalf("the mailboxes after %+v share memory: %+v", m, next.Boxes)
			}
		}
	}
}
