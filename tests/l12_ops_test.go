package tests

import (
	"fmt"
	"math/rand"
	"slices"
	"strings"
	"testing"

	"loop.example/g00501/impl"
)

// operation is a call of a function of the chapter. The plan is what the document says of it for a valid store: the commits, or the code.
type operation struct {
	text string
	run  func(s impl.Store) (impl.Store, int)
	plan func(s impl.Store) ([]impl.Commit, int)
}

// rule is a condition of the document with its code.
type rule struct {
	holds bool
	code  int
}

// ruled makes the commits unless a rule holds; the first one counts.
func ruled(commits []impl.Commit, rules ...rule) ([]impl.Commit, int) {
	for _, r := range rules {
		if r.holds {
			return nil, r.code
		}
	}
	return commits, 0
}

func boxNamed(s impl.Store, name string) (impl.Box, bool) {
	for _, b := range s.Boxes {
		if b.Name == name {
			return b, true
		}
	}
	return impl.Box{}, false
}

func boxWith(list []impl.Box, validity int) (impl.Box, bool) {
	for _, b := range list {
		if b.Validity == validity {
			return b, true
		}
	}
	return impl.Box{}, false
}

func msgOf(b impl.Box, uid int) (impl.Msg, bool) {
	for _, msg := range b.Msgs {
		if msg.Uid == uid {
			return msg, true
		}
	}
	return impl.Msg{}, false
}

func making(name string) operation {
	return operation{
		text: fmt.Sprintf("MakeBox(%q)", name),
		run:  func(s impl.Store) (impl.Store, int) { return impl.MakeBox(s, name) },
		plan: func(s impl.Store) ([]impl.Commit, int) {
			_, exists := boxNamed(s, name)
			return ruled([]impl.Commit{creating(s.Given+1, name)}, rule{!nameWant(name) || s.Given == 999999999, 4}, rule{exists, 3}, rule{len(s.Boxes) >= 4 || len(s.Log) >= 300, 2})
		},
	}
}

func dropping(name string) operation {
	return operation{
		text: fmt.Sprintf("DropBox(%q)", name),
		run:  func(s impl.Store) (impl.Store, int) { return impl.DropBox(s, name) },
		plan: func(s impl.Store) ([]impl.Commit, int) {
			b, exists := boxNamed(s, name)
			return ruled([]impl.Commit{deleting(b.Validity)}, rule{name == "inbox", 5}, rule{!exists, 1}, rule{len(s.Log) >= 300, 2})
		},
	}
}

func naming(name string, to string) operation {
	return operation{
		text: fmt.Sprintf("NameBox(%q, %q)", name, to),
		run:  func(s impl.Store) (impl.Store, int) { return impl.NameBox(s, name, to) },
		plan: func(s impl.Store) ([]impl.Commit, int) {
			b, exists := boxNamed(s, name)
			_, twice := boxNamed(s, to)
			return ruled([]impl.Commit{renaming(b.Validity, to)}, rule{!nameWant(to), 4}, rule{name == "inbox", 5}, rule{!exists, 1}, rule{twice, 3}, rule{len(s.Log) >= 300, 2})
		},
	}
}

func putting(name string, flags int, text string) operation {
	return operation{
		text: fmt.Sprintf("PutMsg(%q, %d, %q)", name, flags, text),
		run:  func(s impl.Store) (impl.Store, int) { return impl.PutMsg(s, name, flags, text) },
		plan: func(s impl.Store) ([]impl.Commit, int) {
			b, exists := boxNamed(s, name)
			isFull := len(b.Msgs) >= 6 || b.Next == 999999999 || len(s.Log) >= 300
			return ruled([]impl.Commit{appending(b.Validity, b.Next, flags, text)}, rule{flags < 0 || flags > 31 || len(text) > 40, 4}, rule{!exists, 1}, rule{isFull, 2})
		},
	}
}

// flagsAfter is what an op makes of the flags of a message, flag by flag.
func flagsAfter(op int, old int, bits int) int {
	after := 0
	for _, flag := range flagValues {
		was, is := hasFlag(old, flag), hasFlag(bits, flag)
		if op == 1 && (was || is) || op == 2 && was && !is || op == 3 && is {
			after += flag
		}
	}
	return after
}

// eachInTurn lets every message decide in the state that the commits before it have led to.
func eachInTurn(s impl.Store, validity int, uids []int, decide func(msg impl.Msg) (impl.Commit, bool)) []impl.Commit {
	var commits []impl.Commit
	list := s.Boxes
	for _, uid := range uids {
		b, _ := boxWith(list, validity)
		msg, found := msgOf(b, uid)
		if !found {
			continue
		}
		if m, needed := decide(msg); needed {
			commits = append(commits, m)
			list = appliedWant(list, m)
		}
	}
	return commits
}

func setting(validity int, uids []int, op int, bits int) operation {
	return operation{
		text: fmt.Sprintf("SetFlags(%d, %v, %d, %d)", validity, uids, op, bits),
		run:  func(s impl.Store) (impl.Store, int) { return impl.SetFlags(s, validity, uids, op, bits) },
		plan: func(s impl.Store) ([]impl.Commit, int) {
			_, exists := boxWith(s.Boxes, validity)
			commits := eachInTurn(s, validity, uids, func(msg impl.Msg) (impl.Commit, bool) {
				after := flagsAfter(op, msg.Flags, bits)
				return flagging(validity, msg.Uid, after), after != msg.Flags
			})
			return ruled(commits, rule{op < 1 || op > 3 || bits < 0 || bits > 31, 4}, rule{!exists, 1}, rule{len(s.Log)+len(commits) > 300, 2})
		},
	}
}

func purging(validity int, uids ...int) operation {
	return operation{
		text: fmt.Sprintf("Purge(%d, %v)", validity, uids),
		run:  func(s impl.Store) (impl.Store, int) { return impl.Purge(s, validity, uids) },
		plan: func(s impl.Store) ([]impl.Commit, int) {
			_, exists := boxWith(s.Boxes, validity)
			commits := eachInTurn(s, validity, uids, func(msg impl.Msg) (impl.Commit, bool) {
				return expunging(validity, msg.Uid), hasFlag(msg.Flags, 8)
			})
			return ruled(commits, rule{!exists, 1}, rule{len(s.Log)+len(commits) > 300, 2})
		},
	}
}

func copying(validity int, uids []int, name string) operation {
	return operation{
		text: fmt.Sprintf("CopyMsgs(%d, %v, %q)", validity, uids, name),
		run:  func(s impl.Store) (impl.Store, int) { return impl.CopyMsgs(s, validity, uids, name) },
		plan: func(s impl.Store) ([]impl.Commit, int) {
			from, exists := boxWith(s.Boxes, validity)
			to, isThere := boxNamed(s, name)
			var commits []impl.Commit
			for _, uid := range uids {
				if msg, found := msgOf(from, uid); found {
					commits = append(commits, appending(to.Validity, to.Next+len(commits), msg.Flags, msg.Text))
				}
			}
			n := len(commits)
			isFull := len(to.Msgs)+n > 6 || to.Next+n > 999999999 || len(s.Log)+n > 300
			return ruled(commits, rule{!exists || !isThere, 1}, rule{isFull, 2})
		},
	}
}

// grown is a store with more commits, all of which apply.
func grown(s impl.Store, commits ...impl.Commit) impl.Store {
	next := impl.Store{Boxes: clonedBoxes(s.Boxes), Log: slices.Concat(s.Log, commits), Given: s.Given}
	for _, m := range commits {
		next.Boxes = appliedWant(next.Boxes, m)
		if m.Kind == impl.CmCreate {
			next.Given = max(next.Given, m.Validity)
		}
	}
	return next
}

// checkRun also checks that the operation leaves its argument.
func checkRun(t *testing.T, s impl.Store, o operation, code int, want impl.Store) impl.Store {
	t.Helper()
	own, unchanged := roomyStore(s)
	got, gotCode := o.run(own)
	if gotCode != code || !equalStores(got, want) {
		t.Fatalf("%s of %+v is %+v, %d, want %+v, %d", o.text, s, got, gotCode, want, code)
	}
	if !unchanged() {
		t.Fatalf("%s changes its argument: %+v, which was %+v", o.text, own, s)
	}
	return got
}

// checkDone also checks the plan of the operation, so that a mistake in it is seen.
func checkDone(t *testing.T, s impl.Store, o operation, commits ...impl.Commit) impl.Store {
	t.Helper()
	if plan, code := o.plan(s); code != 0 || !slices.Equal(plan, commits) {
		t.Fatalf("the plan of %s of %+v is %+v, %d, want %+v", o.text, s, plan, code, commits)
	}
	next := checkRun(t, s, o, 0, grown(s, commits...))
	checkStoreOk(t, next, true)
	return next
}

// checkRejected is P12: a rejected operation returns the store as it was.
func checkRejected(t *testing.T, s impl.Store, o operation, code int) {
	t.Helper()
	if _, plan := o.plan(s); plan != code && storeOkWant(s) {
		t.Fatalf("the plan of %s of %+v is %d, want %d", o.text, s, plan, code)
	}
	checkRun(t, s, o, code, s)
}

// checkPlanned checks an operation of a store that is valid if isOk.
func checkPlanned(t *testing.T, s impl.Store, isOk bool, o operation) impl.Store {
	t.Helper()
	commits, code := o.plan(s)
	if !isOk {
		commits, code = nil, 4
	}
	return checkRun(t, s, o, code, grown(s, commits...))
}

// after is a valid store with these commits after the one that creates the inbox.
func after(commits ...impl.Commit) impl.Store { return grown(impl.StoreNew(), commits...) }

// mailStore has deleted and other messages with the same Uids in two mailboxes, the first of which has lost some.
func mailStore() impl.Store {
	return after(creating(2, "a"), appending(1, 1, 8, "v"), appending(1, 2, 0, "w"), appending(1, 3, 9, "x"), appending(1, 4, 4, "y"), expunging(1, 1), appending(2, 1, 24, "p"), appending(2, 2, 8, "q"), appending(2, 3, 1, "r"))
}

// filled has n commits in all; the last ones change the flags of a message of the inbox and back.
func filled(s impl.Store, n int) impl.Store {
	b, _ := boxWith(s.Boxes, 1)
	for i := 0; len(s.Log) < n; i++ {
		// The last commit sets the flags that the message has had before.
		s = grown(s, flagging(1, b.Msgs[0].Uid, (b.Msgs[0].Flags+(n-1-len(s.Log)))%32))
	}
	return s
}

// fourBoxes are as many as there may be.
func fourBoxes() impl.Store {
	return after(appending(1, 1, 0, ""), creating(2, "c"), creating(3, "b/x"), creating(4, "b"), appending(3, 1, 8, "x"))
}

// sixMsgs fill the inbox; the mailbox a has one less.
func sixMsgs() impl.Store {
	s := after(creating(2, "a"))
	for uid := 1; uid <= 6; uid++ {
		s = grown(s, appending(1, uid, uid+7, strings.Repeat("x", uid)))
		if uid < 6 {
			s = grown(s, appending(2, uid, uid, ""))
		}
	}
	return s
}

// noInbox has lost the inbox, which no operation can remove.
func noInbox() impl.Store {
	return after(creating(2, "a"), appending(2, 1, 8, "x"), deleting(1))
}

func withGiven(s impl.Store, given int) impl.Store {
	return storeBut(s, func(s *impl.Store) { s.Given = given })
}

// invalidStores differ little from valid ones.
func invalidStores() []impl.Store {
	list := []impl.Store{
		{Given: -1}, {Given: 1000000000}, {Log: []impl.Commit{{}}}, {Boxes: []impl.Box{mailbox("inbox", 1, 1)}, Given: 1}, {Boxes: []impl.Box{mailbox("inbox", 1, 999999999)}, Given: 1},
		{Boxes: someBoxes(), Log: someLog(), Given: 9}, withGiven(mailStore(), 1), withGiven(mailStore(), -1), withGiven(mailStore(), 1000000000),
		filled(mailStore(), 301), storeWith(3, creating(1, "inbox"), creating(2, "a"), deleting(2), creating(2, "a"), appending(2, 1, 8, "x")),
	}
	for _, change := range []func(s *impl.Store){
		func(s *impl.Store) { s.Boxes = nil },
		func(s *impl.Store) { s.Log = nil },
		func(s *impl.Store) { s.Boxes[0].Validity++ },
		func(s *impl.Store) { s.Boxes[0].Next++ },
		func(s *impl.Store) { s.Boxes[0].Name = "aa" },
		func(s *impl.Store) { s.Boxes[1].Msgs[0].Flags = 8 },
		func(s *impl.Store) { s.Boxes[1].Msgs[0].Text = "" },
		func(s *impl.Store) { s.Boxes[1].Msgs = s.Boxes[1].Msgs[1:] },
		func(s *impl.Store) { s.Log = s.Log[:len(s.Log)-1] },
		func(s *impl.Store) { s.Log[3].Text = "" },
		func(s *impl.Store) { s.Log = append(s.Log, impl.Commit{}) },
		func(s *impl.Store) { slices.Reverse(s.Boxes) },
	} {
		list = append(list, storeBut(mailStore(), change))
	}
	return list
}

func TestStoreCodes(t *testing.T) {
	codes := []int{impl.StNone, impl.StFull, impl.StTwice, impl.StWrong, impl.StFixed}
	if !slices.Equal(codes, []int{1, 2, 3, 4, 5}) {
		t.Errorf("the codes are %v", codes)
	}
}

// committedAllWant follows the document's words, commit by commit.
func committedAllWant(s impl.Store, log []impl.Commit) (impl.Store, bool) {
	next := s
	for _, m := range log {
		if !appliesWant(next.Boxes, m) || len(next.Log) >= 300 || m.Kind == impl.CmCreate && m.Validity <= next.Given {
			return s, false
		}
		next = impl.Store{Boxes: appliedWant(next.Boxes, m), Log: append(slices.Clone(next.Log), m), Given: max(next.Given, m.Validity)}
	}
	return next, true
}

func checkCommitAll(t *testing.T, s impl.Store, log []impl.Commit, want bool) impl.Store {
	t.Helper()
	own, unchanged := roomyStore(s)
	room := append(slices.Clone(log), deleting(78), impl.Commit{})
	kept := slices.Clone(room)
	wantStore, wantOk := committedAllWant(s, log)
	got, ok := impl.CommitAll(own, room[:len(log)])
	if ok != want || wantOk != want || !equalStores(got, wantStore) {
		t.Fatalf("CommitAll(%+v, %+v) = %+v, %v, want %+v, %v", s, log, got, ok, wantStore, want)
	}
	if !unchanged() || !slices.Equal(room, kept) {
		t.Fatalf("CommitAll(%+v, %+v) changes an argument", s, log)
	}
	return got
}

// newLog has commits of every kind that follow the first one of a new store.
func newLog() []impl.Commit {
	return []impl.Commit{
		creating(2, "b"), appending(1, 1, 8, "x"), appending(2, 1, 0, "y"), flagging(1, 1, 9), renaming(2, "a"), expunging(1, 1), appending(2, 2, 31, ""), deleting(2), creating(4, "b"), appending(4, 1, 16, ""), appending(1, 2, 0, "z"),
	}
}

func TestCommitAll(t *testing.T) {
	log := newLog()
	want := checkCommitAll(t, impl.StoreNew(), log, true)
	for i := range len(log) + 1 {
		s := checkCommitAll(t, impl.StoreNew(), log[:i], true)
		checkStoreOk(t, s, true)
		if got := checkCommitAll(t, s, log[i:], true); !equalStores(got, want) {
			t.Fatalf("%+v, then %+v, lead to %+v, want %+v", log[:i], log[i:], got, want)
		}
	}
	s := impl.StoreNew()
	for _, m := range log {
		s, _ = impl.Committed(s, m)
	}
	if !equalStores(s, want) {
		t.Fatalf("Committed leads to %+v, want %+v", s, want)
	}
	checkCommitAll(t, impl.Store{}, append([]impl.Commit{creating(1, "inbox")}, log...), true)
}

// P12: nothing is left of the commits before the one that fails, wherever that is.
func TestCommitAllFails(t *testing.T) {
	log := newLog()
	bad := append(misfits(), creating(1, "x"), creating(2, "x"), creating(-1, "x"), deleting(9), appending(1, 9, 0, ""), appending(1, 1, 32, ""), flagging(4, 2, 0), expunging(1, 0))
	for i := range len(log) + 1 {
		for _, m := range bad {
			checkCommitAll(t, impl.StoreNew(), slices.Insert(slices.Clone(log), i, m), false)
			if !appliesWant(mailStore().Boxes, m) {
				checkCommitAll(t, mailStore(), append(slices.Repeat([]impl.Commit{flagging(1, 2, 1)}, i), m), false)
			}
		}
	}
	// Without one of its commits the log does not apply, either.
	for i := range 3 {
		checkCommitAll(t, impl.StoreNew(), slices.Delete(slices.Clone(log), i, i+1), false)
	}
	// A Validity that is assigned within the log is not assigned again.
	checkCommitAll(t, impl.StoreNew(), []impl.Commit{creating(7, "x"), deleting(7), creating(7, "x")}, false)
	checkCommitAll(t, impl.StoreNew(), []impl.Commit{creating(7, "x"), creating(6, "y")}, false)
	checkCommitAll(t, impl.StoreNew(), []impl.Commit{creating(7, "x"), deleting(7), creating(8, "x")}, true)
}

func TestCommitAllLimit(t *testing.T) {
	one := flagging(1, 2, 3)
	for n := 295; n <= 301; n++ {
		s := filled(mailStore(), n)
		for more := range 8 {
			checkCommitAll(t, s, slices.Repeat([]impl.Commit{one}, more), n+more <= 300 || more == 0)
		}
	}
	checkCommitAll(t, impl.StoreNew(), slices.Concat(newLog(), slices.Repeat([]impl.Commit{flagging(1, 2, 1)}, 288)), true)
	checkCommitAll(t, impl.StoreNew(), slices.Concat(newLog(), slices.Repeat([]impl.Commit{flagging(1, 2, 1)}, 289)), false)
}

// As for Committed, the mailboxes alone decide; without a commit there is none that fails.
func TestCommitAllOfInvalidStores(t *testing.T) {
	for _, s := range invalidStores() {
		checkCommitAll(t, s, nil, true)
		for _, m := range []impl.Commit{creating(1000, "x"), creating(1000000000, "x"), deleting(1), renaming(1, "x"), flagging(1, 2, 1), expunging(1, 3)} {
			for _, log := range [][]impl.Commit{{m}, {flagging(1, 3, 16), m}} {
				_, want := committedAllWant(s, log)
				checkCommitAll(t, s, log, want)
			}
		}
	}
	for _, list := range brokenBoxes() {
		s := impl.Store{Boxes: list, Log: someLog(), Given: 5}
		checkCommitAll(t, s, nil, true)
		for _, m := range append(someCommits(), deleting(7), renaming(7, "a/c"), deleting(1000000000), deleting(0)) {
			checkCommitAll(t, s, []impl.Commit{m}, false)
			checkCommitAll(t, s, []impl.Commit{m, m}, false)
		}
	}
}

func TestRandomCommitAll(t *testing.T) {
	random := rand.New(rand.NewSource(25))
	counts := map[bool]int{}
	almostFull := filled(mailStore(), 297)
	for range 3000 {
		s := mailStore()
		if random.Intn(8) == 0 {
			s = almostFull
		}
		var log []impl.Commit
		list := s.Boxes
		for range random.Intn(8) {
			m := randomCommit(random, list)
			if m.Kind == impl.CmCreate {
				m.Validity = s.Given + 1 + random.Intn(6)
			}
			if appliesWant(list, m) {
				list = appliedWant(list, m)
			} else if random.Intn(4) > 0 {
				continue
			}
			log = append(log, m)
		}
		_, want := committedAllWant(s, log)
		checkCommitAll(t, s, log, want)
		counts[want]++
	}
	if counts[true] < 500 || counts[false] < 500 {
		t.Errorf("the logs are one-sided: %v", counts)
	}
}

func TestMakeBox(t *testing.T) {
	for _, name := range goodNames {
		if name != "inbox" {
			checkDone(t, impl.StoreNew(), making(name), creating(2, name))
		}
		checkDone(t, impl.Store{}, making(name), creating(1, name))
		checkDone(t, withGiven(impl.Store{}, 41), making(name), creating(42, name))
	}
	// The mailboxes stay in order of their names.
	s := impl.StoreNew()
	for i, name := range []string{"z", "a/b", "j"} {
		s = checkDone(t, s, making(name), creating(i+2, name))
	}
	if names := []string{s.Boxes[0].Name, s.Boxes[1].Name, s.Boxes[2].Name, s.Boxes[3].Name}; !slices.Equal(names, []string{"a/b", "inbox", "j", "z"}) {
		t.Errorf("the names are %v", names)
	}
	checkDone(t, noInbox(), making("inbox"), creating(3, "inbox"))
}

// A Validity is not assigned again, neither after its mailbox is gone nor if it has been passed over.
func TestMakeBoxValidities(t *testing.T) {
	s := impl.StoreNew()
	for i := range 20 {
		s = checkDone(t, s, making("a"), creating(i+2, "a"))
		s = checkDone(t, s, dropping("a"), deleting(i+2))
	}
	checkDone(t, someStore(), making("b"), creating(10, "b"))
	checkDone(t, withGiven(someStore(), 7), making("b"), creating(8, "b"))
	last := checkDone(t, withGiven(someStore(), 999999998), making("b"), creating(999999999, "b"))
	for _, name := range []string{"c", "b", "inbox", "A"} {
		checkRejected(t, last, making(name), impl.StWrong)
	}
	last = checkDone(t, last, dropping("b"), deleting(999999999))
	checkRejected(t, last, making("b"), impl.StWrong)
}

func TestMakeBoxRejected(t *testing.T) {
	for _, s := range []impl.Store{{}, impl.StoreNew(), mailStore(), fourBoxes(), fullStore(), withGiven(mailStore(), 999999999)} {
		for _, name := range noNames {
			checkRejected(t, s, making(name), impl.StWrong)
		}
	}
	for _, s := range []impl.Store{fourBoxes(), filled(fourBoxes(), 300), filled(fourBoxes(), 299)} {
		for _, name := range []string{"inbox", "b", "b/x", "c"} {
			checkRejected(t, s, making(name), impl.StTwice)
		}
		for _, name := range []string{"a", "b/xx", "bb", "inboxx"} {
			checkRejected(t, s, making(name), impl.StFull)
		}
	}
	for n := 297; n < 300; n++ {
		s := filled(mailStore(), n)
		checkDone(t, s, making("x"), creating(3, "x"))
	}
	checkRejected(t, filled(mailStore(), 300), making("x"), impl.StFull)
	checkRejected(t, filled(mailStore(), 300), making("a"), impl.StTwice)
	// There is room again after a mailbox is gone.
	s := checkDone(t, fourBoxes(), dropping("b"), deleting(4))
	checkDone(t, s, making("a"), creating(5, "a"))
	checkRejected(t, withGiven(fourBoxes(), 999999999), making("a"), impl.StWrong)
}

func TestDropBox(t *testing.T) {
	for i, name := range []string{"c", "b/x", "b"} {
		s := checkDone(t, fourBoxes(), dropping(name), deleting(i+2))
		checkRejected(t, s, dropping(name), impl.StNone)
		checkDone(t, filled(fourBoxes(), 299), dropping(name), deleting(i+2))
		checkRejected(t, filled(fourBoxes(), 300), dropping(name), impl.StFull)
	}
	for _, s := range []impl.Store{{}, impl.StoreNew(), mailStore(), fourBoxes(), noInbox(), fullStore()} {
		checkRejected(t, s, dropping("inbox"), impl.StFixed)
		for _, name := range append([]string{"inbo", "inboxx", "inbox/a", "Inbox", "zz", "b/y", "x", "c/d"}, noNames...) {
			checkRejected(t, s, dropping(name), impl.StNone)
		}
	}
	// Only the name makes a mailbox the inbox.
	s := after(creating(2, "inbox/a"), creating(3, "a"), deleting(1), renaming(3, "inbox"))
	checkRejected(t, s, dropping("inbox"), impl.StFixed)
	s = checkDone(t, s, dropping("inbox/a"), deleting(2))
	checkRejected(t, s, dropping("a"), impl.StNone)
	s = after(renaming(1, "b"))
	checkRejected(t, s, dropping("inbox"), impl.StFixed)
	checkDone(t, s, dropping("b"), deleting(1))
}

func TestNameBox(t *testing.T) {
	for _, to := range goodNames {
		if to != "inbox" && to != "a" {
			s := checkDone(t, mailStore(), naming("a", to), renaming(2, to))
			checkDone(t, s, naming(to, "a"), renaming(2, "a"))
		}
	}
	// No mailbox is made, so that there may be as many as there may be.
	for i, name := range []string{"c", "b/x", "b"} {
		for _, to := range []string{"a", "b/y", "z", "inboxx"} {
			checkDone(t, fourBoxes(), naming(name, to), renaming(i+2, to))
			checkDone(t, filled(fourBoxes(), 299), naming(name, to), renaming(i+2, to))
			checkRejected(t, filled(fourBoxes(), 300), naming(name, to), impl.StFull)
		}
	}
	checkDone(t, withGiven(mailStore(), 999999999), naming("a", "b"), renaming(2, "b"))
	// What is there no more may be named again, also the inbox.
	s := checkDone(t, noInbox(), naming("a", "inbox"), renaming(2, "inbox"))
	checkRejected(t, s, naming("inbox", "a"), impl.StFixed)
	checkRejected(t, s, naming("a", "b"), impl.StNone)
}

func TestNameBoxRejected(t *testing.T) {
	for _, s := range []impl.Store{{}, mailStore(), fourBoxes(), noInbox(), filled(fourBoxes(), 300)} {
		for _, name := range []string{"inbox", "b", "none", "A", ""} {
			for _, to := range noNames {
				checkRejected(t, s, naming(name, to), impl.StWrong)
			}
		}
		for _, to := range []string{"inbox", "b", "zz"} {
			checkRejected(t, s, naming("inbox", to), impl.StFixed)
			for _, name := range append([]string{"inbo", "zz", "b/y"}, noNames...) {
				checkRejected(t, s, naming(name, to), impl.StNone)
			}
		}
	}
	for _, s := range []impl.Store{fourBoxes(), filled(fourBoxes(), 299), filled(fourBoxes(), 300)} {
		for _, name := range []string{"c", "b/x", "b"} {
			// Its own name exists, too.
			for _, to := range []string{"inbox", "c", "b/x", "b"} {
				checkRejected(t, s, naming(name, to), impl.StTwice)
			}
		}
	}
}

func TestPutMsg(t *testing.T) {
	for _, flags := range allFlags() {
		checkDone(t, mailStore(), putting("inbox", flags, "t"), appending(1, 5, flags, "t"))
		checkDone(t, mailStore(), putting("a", flags, ""), appending(2, 4, flags, ""))
	}
	for _, text := range goodTexts() {
		checkDone(t, mailStore(), putting("a", 0, text), appending(2, 4, 0, text))
	}
	s := impl.StoreNew()
	for uid := 1; uid <= 6; uid++ {
		s = checkDone(t, s, putting("inbox", uid, "x"), appending(1, uid, uid, "x"))
	}
	checkRejected(t, s, putting("inbox", 0, "x"), impl.StFull)
	// A Uid is not used again after its message is gone.
	s = grown(s, expunging(1, 6), expunging(1, 1))
	s = checkDone(t, s, putting("inbox", 0, ""), appending(1, 7, 0, ""))
	s = checkDone(t, s, putting("inbox", 31, "y"), appending(1, 8, 31, "y"))
	checkRejected(t, s, putting("inbox", 0, ""), impl.StFull)
}

func TestPutMsgRejected(t *testing.T) {
	for _, s := range []impl.Store{{}, mailStore(), sixMsgs(), fullStore(), noInbox(), filled(sixMsgs(), 300)} {
		for _, name := range []string{"inbox", "a", "zz", ""} {
			for _, flags := range noFlags {
				checkRejected(t, s, putting(name, flags, ""), impl.StWrong)
				checkRejected(t, s, putting(name, flags, strings.Repeat("a", 41)), impl.StWrong)
			}
			for _, text := range badTexts() {
				checkRejected(t, s, putting(name, 0, text), impl.StWrong)
			}
		}
		for _, name := range append([]string{"inbo", "zz", "a/b"}, noNames...) {
			checkRejected(t, s, putting(name, 31, strings.Repeat("a", 40)), impl.StNone)
		}
	}
	for _, n := range []int{15, 298, 299, 300} {
		checkRejected(t, filled(sixMsgs(), n), putting("inbox", 0, ""), impl.StFull)
		if n < 300 {
			checkDone(t, filled(sixMsgs(), n), putting("a", 0, ""), appending(2, 6, 0, ""))
		}
	}
	checkRejected(t, filled(sixMsgs(), 300), putting("a", 0, ""), impl.StFull)
	checkRejected(t, noInbox(), putting("inbox", 0, ""), impl.StNone)
}

// Every op is tried with every set of flags on a message with every set.
func TestSetFlags(t *testing.T) {
	for _, old := range allFlags() {
		s := after(creating(2, "a"), appending(1, 1, old, "x"), appending(2, 1, old, "y"))
		for _, bits := range allFlags() {
			for op := 1; op <= 3; op++ {
				want := []int{old | bits, old &^ bits, bits}[op-1]
				for _, validity := range []int{1, 2} {
					o := setting(validity, []int{1}, op, bits)
					if want == old {
						checkDone(t, s, o)
						continue
					}
					checkDone(t, s, o, flagging(validity, 1, want))
				}
			}
		}
	}
}

func TestSetFlagsOfSeveral(t *testing.T) {
	s := mailStore()
	checkDone(t, s, setting(1, []int{2, 3, 4}, impl.OpAdd, 1), flagging(1, 2, 1), flagging(1, 4, 5))
	checkDone(t, s, setting(1, []int{4, 3, 2}, impl.OpSet, 6), flagging(1, 4, 6), flagging(1, 3, 6), flagging(1, 2, 6))
	checkDone(t, s, setting(2, []int{2, 1, 3}, impl.OpDrop, 8), flagging(2, 2, 0), flagging(2, 1, 16))
	checkDone(t, s, setting(2, nil, impl.OpSet, 6))
	checkDone(t, s, setting(2, []int{}, impl.OpSet, 6))
	// Each is changed once, because it has the flags by then.
	checkDone(t, s, setting(1, []int{2, 2, 3, 2, 3}, impl.OpAdd, 2), flagging(1, 2, 2), flagging(1, 3, 11))
	checkDone(t, s, setting(1, slices.Repeat([]int{3}, 500), impl.OpDrop, 1), flagging(1, 3, 8))
	checkDone(t, s, setting(1, slices.Repeat([]int{4, 2}, 300), impl.OpSet, 0), flagging(1, 4, 0))
	// What is not a message is left out: one that is gone, one that is yet to come, or no Uid at all.
	checkDone(t, s, setting(1, slices.Concat([]int{1, 5, 6}, noUids), impl.OpSet, 31))
	checkDone(t, s, setting(1, slices.Concat(noUids, []int{1, 3, 5, 2, 999999998}), impl.OpSet, 31), flagging(1, 3, 31), flagging(1, 2, 31))
	checkDone(t, impl.StoreNew(), setting(1, []int{1, 2}, impl.OpSet, 31))
}

func TestSetFlagsRejected(t *testing.T) {
	for _, s := range []impl.Store{{}, mailStore(), fullStore()} {
		for _, validity := range []int{0, 1, 2, 99} {
			for _, op := range noOps {
				checkRejected(t, s, setting(validity, []int{2}, op, 0), impl.StWrong)
				checkRejected(t, s, setting(validity, nil, op, 32), impl.StWrong)
			}
			for _, bits := range noFlags {
				for op := 1; op <= 3; op++ {
					checkRejected(t, s, setting(validity, []int{2}, op, bits), impl.StWrong)
				}
			}
		}
		for _, validity := range append([]int{3, 8, 99, 999999999}, noIds...) {
			checkRejected(t, s, setting(validity, []int{2}, impl.OpSet, 31), impl.StNone)
			checkRejected(t, s, setting(validity, nil, impl.OpSet, 31), impl.StNone)
		}
	}
	// A mailbox that is gone is none.
	checkRejected(t, someStore(), setting(7, []int{1}, impl.OpSet, 31), impl.StNone)
}

// P12: if one commit is too many, none is made.
func TestSetFlagsLimit(t *testing.T) {
	for n := 296; n <= 300; n++ {
		s := filled(mailStore(), n)
		all := []impl.Commit{flagging(1, 2, 16), flagging(1, 3, 16), flagging(1, 4, 16)}
		for count := range 4 {
			o := setting(1, []int{2, 3, 4}[:count], impl.OpSet, 16)
			if n+count <= 300 {
				checkDone(t, s, o, all[:count]...)
				continue
			}
			checkRejected(t, s, o, impl.StFull)
		}
	}
	// Where there is nothing to change, nothing is too many.
	checkDone(t, filled(mailStore(), 300), setting(2, []int{1, 2, 1, 9}, impl.OpAdd, 8))
	checkRejected(t, filled(mailStore(), 300), setting(2, []int{1, 2, 1, 9, 3}, impl.OpAdd, 8), impl.StFull)
}

func TestPurge(t *testing.T) {
	s := mailStore()
	checkDone(t, s, purging(1, 2, 3, 4), expunging(1, 3))
	checkDone(t, s, purging(2, 1, 2, 3), expunging(2, 1), expunging(2, 2))
	checkDone(t, s, purging(2, 2, 1), expunging(2, 2), expunging(2, 1))
	checkDone(t, s, purging(2, 2), expunging(2, 2))
	checkDone(t, s, purging(2, 3))
	checkDone(t, s, purging(2))
	// Each is removed once, because it is gone by then.
	checkDone(t, s, purging(2, 2, 2, 1, 2, 1), expunging(2, 2), expunging(2, 1))
	checkDone(t, s, purging(2, slices.Repeat([]int{1, 3}, 400)...), expunging(2, 1))
	checkDone(t, s, purging(1, slices.Concat([]int{1, 5, 6}, noUids)...))
	checkDone(t, s, purging(1, slices.Concat(noUids, []int{5, 3, 1})...), expunging(1, 3))
	checkDone(t, impl.StoreNew(), purging(1, 1, 2))
	// FgDeleted decides alone.
	for _, flags := range allFlags() {
		s := after(appending(1, 1, flags, "x"))
		if hasFlag(flags, 8) {
			checkDone(t, s, purging(1, 1), expunging(1, 1))
			continue
		}
		checkDone(t, s, purging(1, 1))
	}
}

func TestPurgeRejected(t *testing.T) {
	for _, s := range []impl.Store{{}, mailStore(), fullStore()} {
		for _, validity := range append([]int{3, 8, 99, 999999999}, noIds...) {
			checkRejected(t, s, purging(validity, 1, 2, 3), impl.StNone)
			checkRejected(t, s, purging(validity), impl.StNone)
		}
	}
	checkRejected(t, someStore(), purging(7, 1), impl.StNone)
	checkDone(t, filled(mailStore(), 298), purging(2, 3, 2, 1), expunging(2, 2), expunging(2, 1))
	checkRejected(t, filled(mailStore(), 299), purging(2, 3, 2, 1), impl.StFull)
	checkRejected(t, filled(mailStore(), 299), purging(2, 1, 2), impl.StFull)
	checkDone(t, filled(mailStore(), 299), purging(2, 3, 1, 1), expunging(2, 1))
	checkRejected(t, filled(mailStore(), 300), purging(2, 3, 1), impl.StFull)
	checkDone(t, filled(mailStore(), 300), purging(2, 3, 9))
	checkDone(t, filled(mailStore(), 300), purging(1))
}

func TestCopyMsgs(t *testing.T) {
	s := mailStore()
	checkDone(t, s, copying(1, []int{2, 3}, "a"), appending(2, 4, 0, "w"), appending(2, 5, 9, "x"))
	checkDone(t, s, copying(1, []int{4, 2, 3}, "a"), appending(2, 4, 4, "y"), appending(2, 5, 0, "w"), appending(2, 6, 9, "x"))
	checkDone(t, s, copying(2, []int{1}, "inbox"), appending(1, 5, 24, "p"))
	// Each is copied as often as it is listed.
	checkDone(t, s, copying(2, []int{3, 1, 3}, "inbox"), appending(1, 5, 1, "r"), appending(1, 6, 24, "p"), appending(1, 7, 1, "r"))
	checkDone(t, s, copying(1, nil, "a"))
	checkDone(t, s, copying(1, slices.Concat([]int{1, 5, 6}, noUids), "a"))
	checkDone(t, s, copying(1, slices.Concat(noUids, []int{3, 5, 1, 2}), "a"), appending(2, 4, 9, "x"), appending(2, 5, 0, "w"))
	// Flags and texts are copied whatever they are.
	for _, flags := range allFlags() {
		for _, text := range []string{"", "\r\n", strings.Repeat("\xff", 40)} {
			s := after(creating(2, "a"), appending(2, 1, flags, text))
			checkDone(t, s, copying(2, []int{1}, "inbox"), appending(1, 1, flags, text))
		}
	}
}

// A copy into the same mailbox is not itself copied, even if its Uid is listed.
func TestCopyMsgsIntoTheSame(t *testing.T) {
	s := mailStore()
	checkDone(t, s, copying(1, []int{2, 3}, "inbox"), appending(1, 5, 0, "w"), appending(1, 6, 9, "x"))
	checkDone(t, s, copying(1, []int{3, 5}, "inbox"), appending(1, 5, 9, "x"))
	checkDone(t, s, copying(1, []int{5, 3, 5, 6}, "inbox"), appending(1, 5, 9, "x"))
	checkDone(t, s, copying(1, []int{4, 5, 2, 6, 5, 7}, "inbox"), appending(1, 5, 4, "y"), appending(1, 6, 0, "w"))
	checkDone(t, s, copying(2, []int{1, 1, 1, 4, 5, 6}, "a"), appending(2, 4, 24, "p"), appending(2, 5, 24, "p"), appending(2, 6, 24, "p"))
	checkDone(t, s, copying(1, []int{5, 6, 7}, "inbox"))
	one := after(appending(1, 1, 8, "x"))
	checkDone(t, one, copying(1, []int{1, 2, 3, 4, 5, 6, 7, 8}, "inbox"), appending(1, 2, 8, "x"))
	// The copies are messages of the next operation.
	next := checkDone(t, one, copying(1, []int{1}, "inbox"), appending(1, 2, 8, "x"))
	checkDone(t, next, copying(1, []int{2, 1}, "inbox"), appending(1, 3, 8, "x"), appending(1, 4, 8, "x"))
	// They count for the limit.
	checkDone(t, one, copying(1, []int{1, 1, 1, 1, 1}, "inbox"), appending(1, 2, 8, "x"), appending(1, 3, 8, "x"), appending(1, 4, 8, "x"), appending(1, 5, 8, "x"), appending(1, 6, 8, "x"))
	checkRejected(t, one, copying(1, []int{1, 1, 1, 1, 1, 1}, "inbox"), impl.StFull)
	checkRejected(t, s, copying(1, []int{2, 3, 4, 2}, "inbox"), impl.StFull)
	checkRejected(t, sixMsgs(), copying(1, []int{7, 6}, "inbox"), impl.StFull)
	checkDone(t, sixMsgs(), copying(1, []int{7, 8}, "inbox"))
}

func TestCopyMsgsRejected(t *testing.T) {
	for _, s := range []impl.Store{{}, mailStore(), fullStore(), sixMsgs()} {
		for _, uids := range [][]int{nil, {1, 2, 3}, {99}} {
			for _, validity := range append([]int{3, 8, 99, 999999999}, noIds...) {
				checkRejected(t, s, copying(validity, uids, "inbox"), impl.StNone)
				checkRejected(t, s, copying(validity, uids, "zz"), impl.StNone)
			}
			for _, name := range append([]string{"inbo", "zz", "a/b"}, noNames...) {
				checkRejected(t, s, copying(1, uids, name), impl.StNone)
			}
		}
	}
	checkRejected(t, someStore(), copying(7, []int{1}, "inbox"), impl.StNone)
	checkRejected(t, noInbox(), copying(2, []int{1}, "inbox"), impl.StNone)
	checkRejected(t, noInbox(), copying(1, []int{1}, "a"), impl.StNone)
}

// P12: if one copy is too many, none is made.
func TestCopyMsgsLimits(t *testing.T) {
	checkDone(t, sixMsgs(), copying(1, []int{6}, "a"), appending(2, 6, 13, "xxxxxx"))
	checkRejected(t, sixMsgs(), copying(1, []int{6, 1}, "a"), impl.StFull)
	checkRejected(t, sixMsgs(), copying(1, []int{1, 2, 3, 4, 5, 6}, "a"), impl.StFull)
	checkRejected(t, sixMsgs(), copying(2, []int{1}, "inbox"), impl.StFull)
	checkDone(t, sixMsgs(), copying(2, []int{6, 7, 0}, "inbox"))
	checkDone(t, sixMsgs(), copying(2, nil, "inbox"))
	checkRejected(t, mailStore(), copying(1, slices.Repeat([]int{2}, 1000), "a"), impl.StFull)
	for n := 296; n <= 300; n++ {
		s := filled(mailStore(), n)
		all := []impl.Commit{appending(2, 4, 9, "x"), appending(2, 5, 4, "y"), appending(2, 6, 4, "y")}
		for count := range 4 {
			o := copying(1, []int{3, 4, 4}[:count], "a")
			if n+count <= 300 {
				checkDone(t, s, o, all[:count]...)
				continue
			}
			checkRejected(t, s, o, impl.StFull)
		}
	}
}

// plainOperations all make commits in mailStore, but for the last ones, each of which has a code of its own.
func plainOperations() []operation {
	return []operation{
		making("b"), dropping("a"), naming("a", "b"), putting("inbox", 8, "t"), putting("a", 0, ""), setting(1, []int{2, 3, 4}, 3, 16), setting(2, []int{3}, 1, 2), purging(2, 1, 2), purging(1, 3), copying(1, []int{2, 3}, "a"), copying(2, []int{1, 3}, "inbox"), copying(1, []int{4, 5}, "inbox"),
		setting(1, nil, 3, 16), purging(2, 3), copying(1, []int{9}, "a"),
		dropping("zz"), putting("zz", 0, ""), purging(9), making("a"), dropping("inbox"), putting("inbox", 32, ""), copying(1, slices.Repeat([]int{2}, 7), "a"),
	}
}

// P12: an operation of an invalid store is wrong before it is anything else.
func TestOperationsOfInvalidStores(t *testing.T) {
	for _, s := range invalidStores() {
		checkStoreOk(t, s, false)
		for _, o := range plainOperations() {
			checkRejected(t, s, o, impl.StWrong)
		}
	}
	for _, list := range brokenBoxes() {
		s := impl.Store{Boxes: list, Log: someLog(), Given: 9}
		for _, o := range append(plainOperations(), dropping("ab"), setting(7, []int{4}, 3, 1), purging(7, 4), copying(7, []int{4}, "a")) {
			checkRejected(t, s, o, impl.StWrong)
		}
	}
}

// cornerStores are at the limits, or are past them.
func cornerStores() []impl.Store {
	return []impl.Store{
		{}, impl.StoreNew(), someStore(), mailStore(), fourBoxes(), sixMsgs(), noInbox(), filled(mailStore(), 298), filled(mailStore(), 299), filled(mailStore(), 300), filled(fourBoxes(), 300), filled(sixMsgs(), 299), filled(mailStore(), 301),
		withGiven(mailStore(), 999999998), withGiven(mailStore(), 999999999), withGiven(filled(fourBoxes(), 300), 999999999), withGiven(mailStore(), 1000000000), withGiven(mailStore(), -1),
	}
}

// manyOperations combine all that may be wrong with an operation, so that the first code can be told from the others.
func manyOperations() []operation {
	var list []operation
	names := []string{"inbox", "a", "b", "c", "zz", "A", ""}
	for _, name := range names {
		list = append(list, making(name), dropping(name))
		for _, to := range names {
			list = append(list, naming(name, to))
		}
		for _, flags := range []int{0, 31, 32, -1} {
			for _, n := range []int{0, 40, 41} {
				list = append(list, putting(name, flags, strings.Repeat("a", n)))
			}
		}
	}
	for _, validity := range []int{-1, 0, 1, 2, 7} {
		for _, uids := range [][]int{nil, {1}, {2, 3}, {3, 9, 2, 3, 1}, {6, 5, 4, 3, 2, 1}, {9, 0, -1}} {
			list = append(list, purging(validity, uids...))
			for op := 0; op <= 4; op++ {
				for _, bits := range []int{0, 9, 31, 32} {
					list = append(list, setting(validity, uids, op, bits))
				}
			}
			for _, name := range names {
				list = append(list, copying(validity, uids, name))
			}
		}
	}
	return list
}

// P12: the first code counts, and with any code the store is as it was.
func TestOperationsAtTheLimits(t *testing.T) {
	operations := manyOperations()
	for _, s := range cornerStores() {
		isOk := storeOkWant(s)
		for _, o := range operations {
			checkPlanned(t, s, isOk, o)
		}
	}
}

func randomUids(random *rand.Rand) []int {
	var uids []int
	for range random.Intn(5) {
		uids = append(uids, random.Intn(12)-1)
	}
	return uids
}

func randomOperation(random *rand.Rand) operation {
	name := []string{"inbox", "inbox", "a", "b", "c", "d", "A"}[random.Intn(7)]
	flags, validity := random.Intn(33), 1+random.Intn(8)
	switch random.Intn(10) {
	case 0:
		return making(name)
	case 1:
		return dropping(name)
	case 2:
		return naming(name, []string{"inbox", "a", "b", "c", "d", "/"}[random.Intn(6)])
	case 3, 4, 5:
		return putting(name, flags, strings.Repeat("x", random.Intn(42)))
	case 6:
		return setting(validity, randomUids(random), random.Intn(4), flags)
	case 7, 8:
		return purging(validity, randomUids(random)...)
	}
	return copying(validity, randomUids(random), name)
}

// The earlier states are those of before, whatever the operations do.
func TestRandomOperations(t *testing.T) {
	random := rand.New(rand.NewSource(26))
	counts := map[int]int{}
	for range 40 {
		s := impl.StoreNew()
		if random.Intn(3) == 0 {
			s = filled(mailStore(), 230+random.Intn(60))
		}
		for range 150 {
			o := randomOperation(random)
			_, code := o.plan(s)
			counts[code]++
			next := checkPlanned(t, s, true, o)
			if random.Intn(10) == 0 {
				checkStoreOk(t, next, true)
			}
			if !slices.Equal(next.Log[:len(s.Log)], s.Log) {
				t.Fatalf("%s of %+v changes what has been: %+v", o.text, s, next)
			}
			s = next
		}
	}
	for code := range 6 {
		if counts[code] < 100 {
			t.Errorf("the codes are one-sided: %v", counts)
		}
	}
}

// Whether done or rejected, an operation leaves its arguments, and its result is new memory.
func TestOperationsLeaveTheirArguments(t *testing.T) {
	uids := []int{3, 2, 2, 9, 77, 78}
	kept := slices.Clone(uids)
	operations := append(plainOperations(), setting(1, uids[:4], 1, 2), purging(1, uids[:4]...), copying(1, uids[:4], "a"), copying(1, uids[:4], "inbox"))
	operations = append(operations, operation{text: "CommitAll", run: func(s impl.Store) (impl.Store, int) {
		next, _ := impl.CommitAll(s, []impl.Commit{flagging(1, 2, 1), appending(2, 4, 0, ""), expunging(1, 3)})
		return next, 0
	}}, operation{text: "CommitAll that fails", run: func(s impl.Store) (impl.Store, int) {
		next, _ := impl.CommitAll(s, []impl.Commit{flagging(1, 2, 1), appending(2, 4, 0, ""), expunging(1, 1)})
		return next, 0
	}}, operation{text: "CommitAll of none", run: func(s impl.Store) (impl.Store, int) {
		next, _ := impl.CommitAll(s, nil)
		return next, 0
	}})
	for _, s := range []impl.Store{mailStore(), filled(mailStore(), 299), filled(mailStore(), 300), invalidStores()[0], invalidStores()[5], {}} {
		own, unchanged := roomyStore(s)
		for _, o := range operations {
			first, _ := o.run(own)
			want := clonedStore(first)
			second, _ := o.run(own)
			overwriteStore(second)
			if !unchanged() || !equalStores(first, want) || !slices.Equal(uids, kept) {
				t.Fatalf("%s of %+v changes an argument or an earlier result", o.text, s)
			}
			checkApart(t, first)
		}
	}
}

// checkApart checks that no two mailboxes share memory.
func checkApart(t *testing.T, s impl.Store) {
	t.Helper()
	want := clonedStore(s)
	for at := range s.Boxes {
		overwrite(s.Boxes[at : at+1 : at+1])
		s.Boxes[at] = clonedBox(want.Boxes[at])
		if !equalStores(s, want) {
			t.Fatalf("the mailboxes share memory: %+v, want %+v", s, want)
		}
	}
}
