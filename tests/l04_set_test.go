package tests

import (
	"math"
	"math/rand"
	"regexp"
	"slices"
	"strconv"
	"strings"
	"testing"

	"loop.example/g00501/impl"
)

func span(low int, high int) impl.Span { return impl.Span{Low: low, High: high} }

// spansOver returns every span whose ends are of the list.
func spansOver(ends []int) []impl.Span {
	var list []impl.Span
	for _, low := range ends {
		for _, high := range ends {
			list = append(list, span(low, high))
		}
	}
	return list
}

// setsOver returns every set of at most two of the spans, and, at random, sets of up to most spans.
func setsOver(spans []impl.Span, most int) [][]impl.Span {
	sets := [][]impl.Span{nil}
	for _, a := range spans {
		sets = append(sets, []impl.Span{a})
		for _, b := range spans {
			sets = append(sets, []impl.Span{a, b})
		}
	}
	random := rand.New(rand.NewSource(6))
	for range 2000 {
		var set []impl.Span
		for range 3 + random.Intn(most-2) {
			set = append(set, spans[random.Intn(len(spans))])
		}
		sets = append(sets, set)
	}
	return sets
}

func checkSet(t *testing.T, s string, want ...impl.Span) {
	t.Helper()
	if got := impl.SetText(want); got != s {
		t.Fatalf("SetText(%v) = %q, want %q", want, got, s)
	}
	if got, ok := impl.ReadSet(s); !ok || !slices.Equal(got, want) {
		t.Fatalf("ReadSet(%q) = %v, %v, want %v", s, got, ok, want)
	}
}

func checkNoSet(t *testing.T, s string) {
	t.Helper()
	if got, ok := impl.ReadSet(s); ok || len(got) != 0 {
		t.Fatalf("ReadSet(%q) = %v, %v", s, got, ok)
	}
}

func checkMembers(t *testing.T, list []impl.Span, n int, want ...int) {
	t.Helper()
	if got := impl.Members(list, n); !slices.Equal(got, want) {
		t.Fatalf("Members(%v, %d) = %v, want %v", list, n, got, want)
	}
}

func checkMembersOf(t *testing.T, list []impl.Span, ids []int, want ...int) {
	t.Helper()
	if got := impl.MembersOf(list, ids); !slices.Equal(got, want) {
		t.Fatalf("MembersOf(%v, %v) = %v, want %v", list, ids, got, want)
	}
}

func TestSetConstants(t *testing.T) {
	if impl.MaxSpans != 5 {
		t.Errorf("MaxSpans is %d", impl.MaxSpans)
	}
}

func TestSetOk(t *testing.T) {
	good := []int{0, 1, 2, 10, 999, 1000, 999999998, 999999999}
	bad := []int{-1, -2, 1000000000, 1000000001, 1 << 32, -1 << 32, math.MaxInt64, math.MinInt64}
	for n := range 10 {
		for _, s := range spansOver(good) {
			list := slices.Repeat([]impl.Span{s}, n)
			if impl.SetOk(list) != (n >= 1 && n <= 5) {
				t.Fatalf("SetOk(%v) is wrong", list)
			}
			for _, b := range bad {
				for i := range list {
					for _, wrong := range []impl.Span{span(b, s.High), span(s.Low, b), span(b, b)} {
						damaged := slices.Clone(list)
						damaged[i] = wrong
						if impl.SetOk(damaged) {
							t.Fatalf("SetOk(%v)", damaged)
						}
						if got := impl.SetText(damaged); got != "" {
							t.Fatalf("SetText(%v) = %q", damaged, got)
						}
					}
				}
			}
		}
	}
}

func TestSetText(t *testing.T) {
	checkSet(t, "1:3,5,7:*", span(1, 3), span(5, 5), span(7, 0))
	checkSet(t, "*", span(0, 0))
	checkSet(t, "1", span(1, 1))
	checkSet(t, "*:1", span(0, 1))
	checkSet(t, "1:*", span(1, 0))
	checkSet(t, "5:3", span(5, 3))
	checkSet(t, "10:1,1:10", span(10, 1), span(1, 10))
	checkSet(t, "2,2,2", span(2, 2), span(2, 2), span(2, 2))
	checkSet(t, "*,*,*,*,*", slices.Repeat([]impl.Span{span(0, 0)}, 5)...)
	checkSet(t, "999999999:*,*:999999999,999999999", span(999999999, 0), span(0, 999999999), span(999999999, 999999999))
	// MaxWord does not limit the text of a set.
	checkSet(t, strings.Repeat("999999998:999999999,", 4)+"999999998:999999999", slices.Repeat([]impl.Span{span(999999998, 999999999)}, 5)...)
	for n := range 10 {
		list := slices.Repeat([]impl.Span{span(1, 0)}, n)
		text := strings.TrimSuffix(strings.Repeat("1:*,", n), ",")
		if n >= 1 && n <= 5 {
			checkSet(t, text, list...)
			continue
		}
		checkNoSet(t, text)
		if got := impl.SetText(list); got != "" {
			t.Errorf("SetText(%v) = %q", list, got)
		}
	}
}

// P4: what SetText writes, ReadSet reads.
func TestReadSetReadsSetText(t *testing.T) {
	ends := []int{0, 1, 2, 9, 10, 11, 99, 100, 998, 999, 1000, 123456789, 999999998, 999999999}
	for _, list := range setsOver(spansOver(ends), impl.MaxSpans) {
		if len(list) > 0 {
			checkSet(t, setWant(list), list...)
		}
	}
}

// setWant is what the document requires of SetText for a valid set.
func setWant(list []impl.Span) string {
	var text strings.Builder
	for i, s := range list {
		if i > 0 {
			text.WriteByte(',')
		}
		text.WriteString(endWant(s.Low))
		if s.Low != s.High {
			text.WriteString(":" + endWant(s.High))
		}
	}
	return text.String()
}

func endWant(n int) string {
	if n == 0 {
		return "*"
	}
	return strconv.Itoa(n)
}

func TestReadSetRejects(t *testing.T) {
	list := []string{
		"", " ", "0", "00", "01", "0:1", "1:0", "01:2", "1:02", "0:*", "*:0", "1:1", "*:*", "999999999:999999999", "2,1:1", "1:1,2",
		",", ",1", "1,", "1,,2", ",,", ":", ":1", "1:", "1:,2", "1,:2", "1::2", "1:2:3", "1:2:", ":1:2", "*:1:2", "1:2:2",
		"1000000000", "1:1000000000", "1000000000:1", "4294967297", "18446744073709551617", strings.Repeat("9", 300), "1:" + strings.Repeat("9", 300),
		"a", "1a", "a1", "**", "1*", "*1", "-1", "+1", "1:-1", "-1:1", "-0", "1.", "1e1", "0x1", "1 ", " 1", "1, 2", "1 ,2", "1: 2", "1 :2", "1 2", "1;2", "1-2",
		"1\n", "\n1", "1\r\n", "1\x00", "\xff", "1,\xff", "\uff11", "\u2217", "(1)", `"1"`, "{1}", "1.2", "1_0",
		"1,2,3,4,5,6", "1,2,3,4,5,", ",1,2,3,4,5", "*,*,*,*,*,*", "1:2,3:4,5:6,7:8,9:10,11:12", strings.Repeat("1,", 5000) + "1", strings.Repeat(",", 5000), strings.Repeat(":", 5000), strings.Repeat("*", 5000),
	}
	for _, s := range list {
		checkNoSet(t, s)
	}
}

// setForm is the form of a valid set; it does not rule out equal ends of a span.
var setForm = regexp.MustCompile(`^(\*|[1-9][0-9]{0,8})(:(\*|[1-9][0-9]{0,8}))?(,(\*|[1-9][0-9]{0,8})(:(\*|[1-9][0-9]{0,8}))?){0,4}$`)

func readable(s string) bool {
	for part := range strings.SplitSeq(s, ",") {
		low, high, both := strings.Cut(part, ":")
		if both && low == high {
			return false
		}
	}
	return setForm.MatchString(s)
}

func checkReadSet(t *testing.T, s string) bool {
	t.Helper()
	want := readable(s)
	list, ok := impl.ReadSet(s)
	if ok != want {
		t.Fatalf("ReadSet(%q) = %v, %v", s, list, ok)
	}
	if !ok && len(list) != 0 {
		t.Fatalf("ReadSet(%q) = %v and false", s, list)
	}
	if ok && (!impl.SetOk(list) || setWant(list) != s) {
		t.Fatalf("ReadSet(%q) = %v", s, list)
	}
	return ok
}

// ReadSet accepts a text if and only if SetText writes it.
func TestReadSetIsExact(t *testing.T) {
	accepted := 0
	for _, s := range append(textsOver("01:*,", 7), textsOver("19:,;", 6)...) {
		if checkReadSet(t, s) {
			accepted++
		}
	}
	pieces := []string{"0", "1", "2", "9", "12", "999999999", "*", ":", ",", ":*", "1:", ",2", "00", " ", "-", "a", "\xff"}
	random := rand.New(rand.NewSource(7))
	for range 200000 {
		var text strings.Builder
		for range 1 + random.Intn(14) {
			// The later pieces are mostly wrong ones, so they are chosen less often.
			text.WriteString(pieces[min(random.Intn(len(pieces)), random.Intn(len(pieces)))])
		}
		if checkReadSet(t, text.String()) {
			accepted++
		}
	}
	if accepted < 10000 {
		t.Errorf("only %d texts were accepted", accepted)
	}
	set := "10:3,5,*:7,2:*,999999999"
	for i := range len(set) {
		checkReadSet(t, set[:i]+set[i+1:])
		checkReadSet(t, set[:i])
		checkReadSet(t, set[i:])
		for b := range 256 {
			checkReadSet(t, set[:i]+oneByte(b)+set[i:])
			checkReadSet(t, set[:i]+oneByte(b)+set[i+1:])
		}
	}
}

func TestMembers(t *testing.T) {
	all := []impl.Span{span(1, 0)}
	checkMembers(t, []impl.Span{span(1, 3), span(5, 5), span(7, 0)}, 9, 1, 2, 3, 5, 7, 8, 9)
	checkMembers(t, []impl.Span{span(1, 3), span(5, 5), span(7, 0)}, 6, 1, 2, 3, 5, 6)
	checkMembers(t, []impl.Span{span(4, 2), span(0, 0)}, 6, 2, 3, 4, 6)
	checkMembers(t, []impl.Span{span(9, 0)}, 6, 6)
	checkMembers(t, []impl.Span{span(0, 9)}, 6, 6)
	checkMembers(t, []impl.Span{span(0, 0)}, 6, 6)
	checkMembers(t, []impl.Span{span(0, 1)}, 3, 1, 2, 3)
	checkMembers(t, []impl.Span{span(7, 9)}, 6)
	checkMembers(t, []impl.Span{span(6, 6), span(1, 1), span(3, 3)}, 6, 1, 3, 6)
	checkMembers(t, []impl.Span{span(2, 4), span(3, 5), span(4, 2), span(3, 3)}, 6, 2, 3, 4, 5)
	checkMembers(t, all, 1, 1)
	checkMembers(t, []impl.Span{span(0, 0)}, 1, 1)
	checkMembers(t, nil, 6)
	checkMembers(t, []impl.Span{}, 6)
	for _, n := range []int{0, -1, -6, -999, -1000, math.MinInt64} {
		for _, s := range spansOver([]int{0, 1, 6, -1, n}) {
			checkMembers(t, []impl.Span{s}, n)
		}
	}
}

// At most 999 numbers are in use, and 0 denotes none above them.
func TestMembersLimit(t *testing.T) {
	for _, n := range []int{998, 999, 1000, 1001, 5000, 999999999, 1000000000, 1<<32 + 5, math.MaxInt64} {
		last := min(n, 999)
		var all []int
		for i := range last {
			all = append(all, i+1)
		}
		checkMembers(t, []impl.Span{span(1, 0)}, n, all...)
		checkMembers(t, []impl.Span{span(1, 999999999)}, n, all...)
		checkMembers(t, []impl.Span{span(0, 0)}, n, last)
		checkMembers(t, []impl.Span{span(0, 999999999)}, n, last)
		checkMembers(t, []impl.Span{span(1000, 0)}, n, last)
		checkMembers(t, []impl.Span{span(1000, 1000), span(1000, 2000)}, n)
		checkMembers(t, []impl.Span{span(n, n), span(997, 0)}, n, all[996:]...)
	}
}

// inSet reports whether i is in a span, as the document describes it.
func inSet(list []impl.Span, last int, i int) bool {
	return slices.ContainsFunc(list, func(s impl.Span) bool {
		ends := []int{s.Low, s.High}
		for k, end := range ends {
			if end == 0 {
				ends[k] = last
			}
		}
		return slices.Min(ends) <= i && i <= slices.Max(ends)
	})
}

// P4: the members are sorted, and each occurs once; any list of spans has members, even if it is no valid set.
func TestMembersAreSorted(t *testing.T) {
	ends := []int{0, 1, 2, 3, 4, 5, 6, 7, -1, -5, 999999999, 1000000000, math.MaxInt64, math.MinInt64}
	for _, list := range setsOver(spansOver(ends), 12) {
		for n := -2; n <= 6; n++ {
			var want []int
			for i := 1; i <= n; i++ {
				if inSet(list, n, i) {
					want = append(want, i)
				}
			}
			checkMembers(t, list, n, want...)
			if got := impl.Members(list, n); !slices.IsSorted(got) || len(slices.Compact(got)) != len(want) {
				t.Fatalf("Members(%v, %d) = %v", list, n, got)
			}
		}
	}
}

func TestMembersOf(t *testing.T) {
	checkMembersOf(t, []impl.Span{span(3, 5), span(0, 0)}, []int{2, 4, 9}, 4, 9)
	checkMembersOf(t, []impl.Span{span(1, 0)}, []int{2, 4, 9}, 2, 4, 9)
	checkMembersOf(t, []impl.Span{span(10, 0)}, []int{2, 4, 9}, 9)
	checkMembersOf(t, []impl.Span{span(0, 5)}, []int{2, 4, 9}, 9)
	checkMembersOf(t, []impl.Span{span(0, 4)}, []int{2, 4, 9}, 4, 9)
	checkMembersOf(t, []impl.Span{span(10, 20)}, []int{2, 4, 9})
	checkMembersOf(t, []impl.Span{span(3, 3), span(5, 8)}, []int{2, 4, 9})
	checkMembersOf(t, []impl.Span{span(9, 9), span(2, 2)}, []int{2, 4, 9}, 2, 9)
	checkMembersOf(t, nil, []int{2, 4, 9})
	for _, s := range spansOver([]int{0, 1, 9, -1, math.MaxInt64, math.MinInt64}) {
		checkMembersOf(t, []impl.Span{s}, nil)
		checkMembersOf(t, []impl.Span{s}, []int{})
	}
}

// The greatest element need not be the last, and the elements keep their order and their number.
func TestMembersOfKeepsTheOrder(t *testing.T) {
	checkMembersOf(t, []impl.Span{span(0, 0)}, []int{9, 4, 2}, 9)
	checkMembersOf(t, []impl.Span{span(0, 0)}, []int{4, 9, 2}, 9)
	checkMembersOf(t, []impl.Span{span(0, 0)}, []int{9, 4, 9}, 9, 9)
	checkMembersOf(t, []impl.Span{span(5, 0), span(2, 2)}, []int{9, 2, 4, 6, 2}, 9, 2, 6, 2)
	checkMembersOf(t, []impl.Span{span(4, 1)}, []int{3, 5, 1, 4, 1, 0}, 3, 1, 4, 1)
	checkMembersOf(t, []impl.Span{span(5, 0)}, []int{1000, 5000, 4}, 1000, 5000)
	checkMembersOf(t, []impl.Span{span(0, 0)}, []int{998, 999, 1000, 1001}, 1001)
	checkMembersOf(t, []impl.Span{span(999999999, 0)}, []int{999999998, 999999999}, 999999999)
	checkMembersOf(t, []impl.Span{span(0, 0)}, []int{-7, -3, -5}, -3)
	checkMembersOf(t, []impl.Span{span(0, 0)}, []int{-3, 0}, 0)
	checkMembersOf(t, []impl.Span{span(0, 0)}, []int{0, 3}, 3)
	checkMembersOf(t, []impl.Span{span(0, math.MinInt64)}, []int{math.MaxInt64, 0, math.MinInt64}, math.MaxInt64, 0, math.MinInt64)
	checkMembersOf(t, []impl.Span{span(0, 0)}, []int{math.MinInt64}, math.MinInt64)
}

func TestMembersOfIsExact(t *testing.T) {
	ends := []int{0, 1, 2, 3, 5, 8, 1000, -1, 1000000000, math.MaxInt64, math.MinInt64}
	lists := [][]int{{1}, {5}, {0}, {-1}, {1, 2, 3, 4, 5, 6}, {2, 3, 8}, {1, 1000, 1001}, {999999998}, {6, 5, 4, 3, 2, 1}, {3, 1, 3, 0, 2, 3}, {math.MinInt64, math.MaxInt64}}
	for _, list := range setsOver(spansOver(ends), 12) {
		for _, ids := range lists {
			var want []int
			for _, id := range ids {
				if inSet(list, slices.Max(ids), id) {
					want = append(want, id)
				}
			}
			checkMembersOf(t, list, ids, want...)
		}
	}
}

// Numbers that are counted from 1 are selected alike by both functions.
func TestMembersAgree(t *testing.T) {
	ids := []int{1, 2, 3, 4, 5, 6}
	for _, list := range setsOver(spansOver([]int{0, 1, 2, 3, 4, 5, 6, 7}), impl.MaxSpans) {
		for n := range len(ids) {
			checkMembersOf(t, list, ids[:n+1], impl.Members(list, n+1)...)
		}
	}
}

func TestSetsLeaveTheirArguments(t *testing.T) {
	room := []impl.Span{span(0, 2), span(5, 3), span(0, 0), span(9, 1), span(7, 7)}
	kept := slices.Clone(room)
	ids := []int{9, 2, 4, 7, 1}
	keptIds := slices.Clone(ids)
	if got := impl.SetText(room[:3:4]); got != "*:2,5:3,*" {
		t.Errorf("SetText = %q", got)
	}
	checkMembers(t, room[:2:4], 6, 2, 3, 4, 5, 6)
	got := impl.MembersOf(room[:2:4], ids[:3:4])
	if !slices.Equal(got, []int{9, 2, 4}) {
		t.Errorf("MembersOf = %v", got)
	}
	if !impl.SetOk(room[:3:4]) || !slices.Equal(room, kept) {
		t.Errorf("the spans are %v", room)
	}
	got[0] = 0
	_ = append(got, 0)
	if !slices.Equal(ids, keptIds) {
		t.Errorf("the ids are %v", ids)
	}
	list, _ := impl.ReadSet("1,2")
	list[0] = span(8, 8)
	_ = append(list, span(9, 9))
	checkSet(t, "1,2", span(1, 1), span(2, 2))
}
