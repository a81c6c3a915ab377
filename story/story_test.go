package story_test

import (
	"math"
	"slices"
	"strings"
	"testing"
	"unsafe"

	"postilion/api"
	"postilion/codec"
	"postilion/files"
	"postilion/story"
)

func create(n string) api.Call    { return api.Call{Kind: api.CMake, Name: n} }
func remove(n string) api.Call    { return api.Call{Kind: api.CRemove, Name: n} }
func rename(n, m string) api.Call { return api.Call{Kind: api.CRename, Name: n, To: m} }
func put(n, s string) api.Call    { return api.Call{Kind: api.CAppend, Name: n, Text: s} }
func read(n string) api.Call      { return api.Call{Kind: api.CRead, Name: n} }
func list() api.Call              { return api.Call{Kind: api.CList} }

func record(client, no int, c api.Call, code int) api.Record {
	return api.Record{Client: client, No: no, Call: c, Answer: api.Answer{Code: code}}
}

func code(n int) api.Answer    { return api.Answer{Code: n} }
func text(s string) api.Answer { return api.Answer{Text: s} }

func written(t *testing.T, records ...api.Record) []byte {
	t.Helper()
	var all []byte
	for _, r := range records {
		b, code := codec.Encode(r)
		if code != 0 {
			t.Fatalf("Encode(%+v) has the code %d", r, code)
		}
		all = append(all, b...)
	}
	return all
}

// plain is files as a map, made anew from records each time, so that a story is
// held against other words than its own.
type plain map[string]string

func plainOf(records []api.Record) plain {
	p := plain{}
	for _, r := range records {
		p.do(r.Call)
	}
	return p
}

func (p plain) names() []string {
	var out []string
	for n := range p {
		out = append(out, n)
	}
	slices.Sort(out)
	return out
}

func (p plain) text() string {
	out := ""
	for _, n := range p.names() {
		out += n + "=" + p[n] + "\n"
	}
	return out
}

func (p plain) do(c api.Call) api.Answer {
	if n := files.Check(c); n != 0 {
		return code(n)
	}
	has, there := p[c.Name]
	_, taken := p[c.To]
	switch {
	case c.Kind == api.CList:
		return text(strings.Join(p.names(), " "))
	case c.Kind == api.CMake && there:
		return code(api.ErrThere)
	case c.Kind == api.CMake && len(p) == api.MaxFiles:
		return code(api.ErrFull)
	case c.Kind == api.CMake:
		p[c.Name] = ""
	case !there:
		return code(api.ErrNone)
	case c.Kind == api.CRead:
		return text(has)
	case c.Kind == api.CRename && taken:
		return code(api.ErrThere)
	case c.Kind == api.CAppend && len(has+c.Text) > api.MaxText:
		return code(api.ErrFull)
	case c.Kind == api.CAppend:
		p[c.Name] = has + c.Text
	case c.Kind == api.CRename:
		delete(p, c.Name)
		p[c.To] = has
	case c.Kind == api.CRemove:
		delete(p, c.Name)
	}
	return api.Answer{}
}

// calls: some of each kind, of such as only ask and such as change something, and
// of such as are none.
func calls() []api.Call {
	return []api.Call{
		create("a"), create("b"), create("z"), remove("a"), remove("z"),
		rename("a", "q"), rename("a", "a"), rename("b", "a"), rename("z", "y"),
		put("a", "!"), put("b", "12345678"), put("z", "x"),
		read("a"), read("b"), read("z"), list(),
		{}, {Kind: -1}, {Kind: 7, Name: "a"}, {Kind: math.MinInt}, {Kind: math.MaxInt},
		{Kind: api.CList, Name: "a"}, {Kind: api.CRead, Name: "a", To: "b"}, {Kind: api.CMake, Name: "c", Text: "x"},
		create(""), create("abcdef"), create("A"), read("a b"), rename("a", ""), rename("a", "\n"),
		put("a", ""), put("a", "123456789"), put("a", "\n"), put("a", "\x7f"), put("a", strings.Repeat("x", 1<<16)),
	}
}

// far: numbers that are none, whatever the story is.
func far() []int {
	return []int{-1, -2, math.MinInt, math.MinInt + 1, math.MaxInt, math.MaxInt - 1, 1 << 32, -1 << 32, math.MinInt32, math.MaxInt32, 1 << 31}
}

func wantRecord(t *testing.T, s *story.Story, n int, want api.Record, wantOK bool) {
	t.Helper()
	if got, ok := s.Record(n); got != want || ok != wantOK {
		t.Fatalf("Record(%d) is %+v, %v, want %+v, %v", n, got, ok, want, wantOK)
	}
}

func wantText(t *testing.T, s *story.Story, n int, want string, wantOK bool) {
	t.Helper()
	if got, ok := s.Text(n); got != want || ok != wantOK {
		t.Fatalf("Text(%d) is %q, %v, want %q, %v", n, got, ok, want, wantOK)
	}
}

func wantWould(t *testing.T, s *story.Story, n int, c api.Call, want api.Answer, wantOK bool) {
	t.Helper()
	if got, ok := s.Would(n, c); got != want || ok != wantOK {
		t.Fatalf("Would(%d, %+v) is %+v, %v, want %+v, %v", n, c, got, ok, want, wantOK)
	}
}

func wantTimes(t *testing.T, s *story.Story, client, no, want int) {
	t.Helper()
	if got := s.Times(client, no); got != want {
		t.Fatalf("Times(%d, %d) is %d, want %d", client, no, got, want)
	}
}

// wantStory asks for all that a story of just these records tells, but Would.
func wantStory(t *testing.T, s *story.Story, all []api.Record) {
	t.Helper()
	if s == nil || s.Len() != len(all) {
		t.Fatalf("the story is %+v, want %d records", s, len(all))
	}
	for n, r := range all {
		wantRecord(t, s, n, r, true)
	}
	for n := range len(all) + 1 {
		wantText(t, s, n, plainOf(all[:n]).text(), true)
	}
	for _, n := range append(far(), len(all), len(all)+1) {
		wantRecord(t, s, n, api.Record{}, false)
	}
	for _, n := range append(far(), len(all)+1, len(all)+2) {
		wantText(t, s, n, "", false)
	}
	wantAllTimes(t, s, all)
}

func wantAllTimes(t *testing.T, s *story.Story, all []api.Record) {
	t.Helper()
	type key struct{ client, no int }
	times := map[key]int{}
	for _, r := range all {
		times[key{r.Client, r.No}]++
	}
	for client := -1; client <= api.Clients; client++ {
		for no := -1; no <= api.MaxCalls+1; no++ {
			wantTimes(t, s, client, no, times[key{client, no}])
		}
	}
}

// wantWoulds holds all calls against the plain files behind each number of records.
func wantWoulds(t *testing.T, s *story.Story, all []api.Record) {
	t.Helper()
	for _, c := range calls() {
		for n := range len(all) + 1 {
			wantWould(t, s, n, c, plainOf(all[:n]).do(c), true)
		}
		for _, n := range append(far(), len(all)+1, len(all)+2) {
			wantWould(t, s, n, c, api.Answer{}, false)
		}
	}
}

// some: records whose answers are those of files, some of each kind and some codes.
func some() []api.Record {
	return []api.Record{
		record(1, 1, create("b"), 0),
		record(0, 3, put("b", "x=y"), 0),
		record(1, 2, create("b"), api.ErrThere),
		record(2, 200, create("a"), 0),
		record(0, 4, remove("c"), api.ErrNone),
		record(2, 199, rename("b", "abcde"), 0),
		record(1, 9, create("ab"), 0),
		record(0, 5, put("abcde", " 345678~"), 0),
		record(0, 6, put("abcde", "12345678"), api.ErrFull),
		record(1, 10, rename("a", "ab"), api.ErrThere),
		record(1, 11, remove("a"), 0),
	}
}

func TestText(t *testing.T) {
	s := story.Of(written(t, some()...))
	for n, want := range []string{
		"",
		"b=\n",
		"b=x=y\n",
		"b=x=y\n",
		"a=\nb=x=y\n",
		"a=\nb=x=y\n",
		"a=\nabcde=x=y\n",
		"a=\nab=\nabcde=x=y\n",
		"a=\nab=\nabcde=x=y 345678~\n",
		"a=\nab=\nabcde=x=y 345678~\n",
		"a=\nab=\nabcde=x=y 345678~\n",
		"ab=\nabcde=x=y 345678~\n",
	} {
		wantText(t, s, n, want, true)
	}
	for _, n := range append(far(), 12, 13) {
		wantText(t, s, n, "", false)
	}
}

// TestTextOfFullFiles: as many files as there may be, each with as much as it may have.
func TestTextOfFullFiles(t *testing.T) {
	var all []api.Record
	no, want := 1, ""
	for _, n := range []string{"zz", "b", "a", "aa", "ab", "z"} {
		all = append(all, record(0, no, create(n), 0), record(1, no, put(n, "1234567="), 0), record(2, no, put(n, "=      ~"), 0))
		no++
	}
	for _, n := range []string{"a", "aa", "ab", "b", "z", "zz"} {
		want += n + "=1234567==      ~\n"
	}
	all = append(all, record(0, no, create("y"), api.ErrFull), record(1, no, put("a", "x"), api.ErrFull))
	s := story.Of(written(t, all...))
	for _, n := range []int{18, 19, 20} {
		wantText(t, s, n, want, true)
	}
	wantStory(t, s, all)
}

// TestTextRises: in whatever order files come, they are told rising by their bytes.
func TestTextRises(t *testing.T) {
	names := []string{"a", "aa", "ab", "b", "ba"}
	var orders func(ahead, left []string)
	orders = func(ahead, left []string) {
		if len(left) == 0 {
			var all []api.Record
			for n, name := range ahead {
				all = append(all, record(0, n+1, create(name), 0))
			}
			wantText(t, story.Of(written(t, all...)), len(all), "a=\naa=\nab=\nb=\nba=\n", true)
		}
		for n := range left {
			orders(append(slices.Clone(ahead), left[n]), slices.Delete(slices.Clone(left), n, n+1))
		}
	}
	orders(nil, names)
}

func TestTextEndsEmpty(t *testing.T) {
	s := story.Of(written(t, record(0, 1, create("a"), 0), record(0, 2, remove("a"), 0)))
	wantText(t, s, 0, "", true)
	wantText(t, s, 1, "a=\n", true)
	wantText(t, s, 2, "", true)
	wantText(t, s, 3, "", false)
}

func TestRecord(t *testing.T) {
	s := story.Of(written(t, some()...))
	if s.Len() != 11 {
		t.Fatalf("Len is %d, want 11", s.Len())
	}
	wantRecord(t, s, 0, api.Record{Client: 1, No: 1, Call: api.Call{Kind: api.CMake, Name: "b"}}, true)
	wantRecord(t, s, 1, api.Record{No: 3, Call: api.Call{Kind: api.CAppend, Name: "b", Text: "x=y"}}, true)
	wantRecord(t, s, 2, api.Record{Client: 1, No: 2, Call: api.Call{Kind: api.CMake, Name: "b"}, Answer: api.Answer{Code: api.ErrThere}}, true)
	wantRecord(t, s, 5, api.Record{Client: 2, No: 199, Call: api.Call{Kind: api.CRename, Name: "b", To: "abcde"}}, true)
	wantRecord(t, s, 10, api.Record{Client: 1, No: 11, Call: api.Call{Kind: api.CRemove, Name: "a"}}, true)
	for _, n := range append(far(), 11, 12) {
		wantRecord(t, s, n, api.Record{}, false)
	}
}

func TestWould(t *testing.T) {
	s := story.Of(written(t, some()...))
	for _, x := range []struct {
		n  int
		c  api.Call
		a  api.Answer
		ok bool
	}{
		{0, list(), api.Answer{}, true},
		{0, read("b"), code(api.ErrNone), true},
		{0, create("b"), api.Answer{}, true},
		{1, create("b"), code(api.ErrThere), true},
		{1, read("b"), api.Answer{}, true},
		{2, read("b"), text("x=y"), true},
		{4, list(), text("a b"), true},
		{5, rename("a", "b"), code(api.ErrThere), true},
		{6, rename("a", "b"), api.Answer{}, true},
		{6, put("b", "x"), code(api.ErrNone), true},
		{7, list(), text("a ab abcde"), true},
		{8, put("abcde", "12345"), api.Answer{}, true},
		{8, put("abcde", "123456"), code(api.ErrFull), true},
		{11, list(), text("ab abcde"), true},
		{11, read("abcde"), text("x=y 345678~"), true},
		{11, remove("a"), code(api.ErrNone), true},
		{3, api.Call{}, code(api.ErrKind), true},
		{3, create("A"), code(api.ErrName), true},
		{3, api.Call{Kind: api.CList, Name: "a"}, code(api.ErrForm), true},
		{3, put("b", "123456789"), code(api.ErrLong), true},
		{12, list(), api.Answer{}, false},
		{12, api.Call{}, api.Answer{}, false},
		{-1, list(), api.Answer{}, false},
		{-1, create("b"), api.Answer{}, false},
		{math.MinInt, list(), api.Answer{}, false},
		{math.MaxInt, api.Call{Kind: 99}, api.Answer{}, false},
	} {
		wantWould(t, s, x.n, x.c, x.a, x.ok)
	}
	wantWoulds(t, s, some())
}

// TestWouldChangesNothing: each call behind each number of records, more than once;
// behind it all is told as ahead of it, and it is answered as the first time.
func TestWouldChangesNothing(t *testing.T) {
	all := some()
	s := story.Of(written(t, all...))
	for n := range len(all) + 1 {
		for _, c := range calls() {
			want, _ := story.Of(written(t, all...)).Would(n, c)
			for range 3 {
				wantWould(t, s, n, c, want, true)
			}
			wantText(t, s, n, plainOf(all[:n]).text(), true)
			wantText(t, s, len(all), plainOf(all).text(), true)
			wantWould(t, s, n, list(), plainOf(all[:n]).do(list()), true)
		}
		wantStory(t, s, all)
	}
}

// TestAskedInAnyOrder: what is told hangs on no question that was asked ahead of it.
func TestAskedInAnyOrder(t *testing.T) {
	all := some()
	s := story.Of(written(t, all...))
	for k := range 200 {
		n := k * 7 % (len(all) + 1)
		wantText(t, s, n, plainOf(all[:n]).text(), true)
		wantWould(t, s, len(all)-n, create("new"), plainOf(all[:len(all)-n]).do(create("new")), true)
		wantText(t, s, len(all)+1+k, "", false)
		wantText(t, s, len(all)-n, plainOf(all[:len(all)-n]).text(), true)
	}
}

func TestTimes(t *testing.T) {
	s := story.Of(written(t, some()...))
	for _, x := range []struct{ client, no, times int }{
		{1, 1, 1}, {0, 3, 1}, {2, 200, 1}, {2, 199, 1}, {1, 11, 1}, {0, 6, 1},
		{0, 1, 0}, {1, 3, 0}, {2, 1, 0}, {0, 200, 0}, {1, 12, 0}, {0, 0, 0}, {0, -1, 0}, {-1, 1, 0}, {3, 1, 0},
		{3, 4, 0}, {200, 2, 0}, {1, 257, 0}, {257, 1, 0}, {1 + 1<<32, 1, 0}, {1, 1 + 1<<32, 0}, {-255, 1, 0}, {0, 3 - 256, 0}, {2, -56, 0},
		{math.MinInt, 1, 0}, {math.MaxInt, 1, 0}, {1, math.MinInt, 0}, {1, math.MaxInt, 0}, {math.MinInt, math.MinInt, 0}, {math.MaxInt, math.MaxInt, 0},
		{math.MinInt + 1, 1, 0}, {1, math.MinInt + 1, 0},
	} {
		wantTimes(t, s, x.client, x.no, x.times)
	}
}

func TestOfNoRecords(t *testing.T) {
	for _, b := range [][]byte{
		nil, {}, {0}, {4, 0, 1, 1}, {9}, {255}, {7, 7}, []byte("make a"), make([]byte, 300),
		written(t, record(0, 1, create("a"), 0))[1:],
		written(t, record(0, 1, create("a"), 0))[:8],
		{9, 3, 1, 1, 0, 1, 'a', 0, 0},  // no such client
		{9, 0, 0, 1, 0, 1, 'a', 0, 0},  // no such number
		{9, 0, 1, 5, 0, 1, 'a', 0, 0},  // it only asks
		{9, 0, 1, 1, 0, 1, 'A', 0, 0},  // no name
		{9, 0, 1, 1, 99, 1, 'a', 1, 0}, // too short
		{9, 0, 1, 1, 100, 1, 'a', 0, 0},
		{10, 0, 1, 1, 0, 1, 'a', 0, 0, 0},
	} {
		for _, more := range [][]byte{nil, written(t, some()...)} {
			if len(b) == 0 || b[0] == 255 || len(b) < int(b[0]) {
				more = nil // what comes behind would be a part of it
			}
			s := story.Of(append(slices.Clone(b), more...))
			wantStory(t, s, nil)
			wantWoulds(t, s, nil)
		}
	}
}

// TestOfACutLog: at every byte; what lies behind the length is not read.
func TestOfACutLog(t *testing.T) {
	all := some()
	b := written(t, all...)
	for size := range len(b) + 1 {
		whole := 0
		for whole < len(all) && len(written(t, all[:whole+1]...)) <= size {
			whole++
		}
		wantStory(t, story.Of(b[:size]), all[:whole])
		wantStory(t, story.Of(slices.Clone(b[:size])), all[:whole])
	}
}

// TestOfALogThatBeginsLate: of bytes that begin within a record.
func TestOfALogThatBeginsLate(t *testing.T) {
	b := written(t, some()...)
	for from := range len(b) {
		all, _ := codec.All(b[from:])
		wantStory(t, story.Of(b[from:]), all)
	}
}

// TestOfOtherBytesBehind: records that stand behind what is none do not count.
func TestOfOtherBytesBehind(t *testing.T) {
	more := written(t, record(2, 9, create("more"), 0))
	for n := range len(some()) + 1 {
		all := some()[:n]
		for _, other := range [][]byte{
			{0}, {7, 7}, {255}, {4}, {8, 0, 1, 1, 0, 0, 0, 0}, []byte("\n"), make([]byte, 100), more[:len(more)-1],
			append([]byte{0}, more...),
			append([]byte{9, 0, 1, 6, 0, 1, 'a', 0, 0}, more...),
			append([]byte{9, 9, 1, 1, 0, 1, 'a', 0, 0}, more...),
		} {
			s := story.Of(append(written(t, all...), other...))
			wantStory(t, s, all)
			wantWould(t, s, n, read("more"), code(api.ErrNone), true)
		}
		wantStory(t, story.Of(append(written(t, all...), more...)), append(all, record(2, 9, create("more"), 0)))
	}
}

// strange: records that a store would never have written.
func strange() [][]api.Record {
	return [][]api.Record{
		{ // answers that files would not tell
			record(0, 1, create("a"), api.ErrThere),
			record(0, 2, put("a", "x"), 99),
			record(0, 3, create("a"), 0),
			record(1, 1, remove("b"), 0),
			record(1, 2, rename("a", "c"), api.ErrNone),
			record(1, 3, put("a", "y"), 0),
			record(1, 4, put("c", "y"), api.ErrFull),
			record(1, 5, remove("c"), api.ErrOld),
		},
		{ // a client's number twice, with the same call and with others
			record(0, 1, create("a"), 0),
			record(0, 1, create("a"), 0),
			record(0, 1, put("a", "x"), 0),
			record(0, 1, put("a", "x"), 0),
			record(0, 1, put("a", "x"), 0),
			record(1, 1, put("a", "y"), 0),
			record(0, 1, remove("a"), 0),
		},
		{ // numbers that fall
			record(2, 200, create("a"), 0),
			record(2, 100, create("b"), 0),
			record(1, 7, put("a", "1"), 0),
			record(2, 1, put("a", "2"), 0),
			record(1, 6, put("a", "3"), 0),
			record(2, 100, rename("a", "d"), 0),
			record(2, 99, remove("b"), 0),
		},
	}
}

func TestStrangeRecords(t *testing.T) {
	for _, all := range strange() {
		s := story.Of(written(t, all...))
		wantStory(t, s, all)
		wantWoulds(t, s, all)
	}
	s := story.Of(written(t, strange()[0]...))
	for n, want := range []string{"", "a=\n", "a=x\n", "a=x\n", "a=x\n", "c=x\n", "c=x\n", "c=xy\n", ""} {
		wantText(t, s, n, want, true)
	}
	s = story.Of(written(t, strange()[1]...))
	wantTimes(t, s, 0, 1, 6)
	wantTimes(t, s, 1, 1, 1)
	wantText(t, s, 6, "a=xxxy\n", true)
	s = story.Of(written(t, strange()[2]...))
	wantTimes(t, s, 2, 100, 2)
	wantText(t, s, 5, "a=123\nb=\n", true)
	wantText(t, s, 7, "d=123\n", true)
}

// TestMoreThanALogHolds: a story has no bound of its own.
func TestMoreThanALogHolds(t *testing.T) {
	one := written(t, record(0, 1, create("a"), 0), record(1, 7, put("a", "x"), 0), record(2, 200, remove("a"), 0))
	const rounds = 40000
	var b []byte
	for range rounds {
		b = append(b, one...)
	}
	s := story.Of(b)
	if s.Len() != 3*rounds {
		t.Fatalf("Len is %d, want %d", s.Len(), 3*rounds)
	}
	wantTimes(t, s, 1, 7, rounds)
	wantTimes(t, s, 1, 1, 0)
	wantRecord(t, s, 3*rounds-1, record(2, 200, remove("a"), 0), true)
	wantRecord(t, s, 3*rounds, api.Record{}, false)
	wantText(t, s, 3*rounds, "", true)
	wantText(t, s, 3*rounds-1, "a=x\n", true)
	wantText(t, s, 3*rounds+1, "", false)
	wantWould(t, s, 3*rounds-2, read("a"), api.Answer{}, true)
}

// TestBytesAreNeitherChangedNorKept: and what lies behind their length is not touched.
func TestBytesAreNeitherChangedNorKept(t *testing.T) {
	all := some()
	b := written(t, all...)
	room := append(slices.Clone(b), "behind the length"...)
	s := story.Of(room[:len(b)])
	wantStory(t, s, all)
	wantWoulds(t, s, all)
	if string(room) != string(b)+"behind the length" {
		t.Errorf("what was handed in is changed: %q", room)
	}
	clear(room)
	wantStory(t, s, all)
	copy(room, written(t, strange()[2]...))
	wantStory(t, s, all)
}

func texts(r api.Record) []string {
	return []string{r.Call.Name, r.Call.To, r.Call.Text, r.Answer.Text}
}

// apart: has no text of the one list its place in the memory of the other? A text
// of one byte has no memory of its own.
func apart(t *testing.T, what string, a, b []string) {
	t.Helper()
	for _, s := range a {
		for _, u := range b {
			if len(s) > 1 && len(u) > 1 && unsafe.StringData(s) == unsafe.StringData(u) {
				t.Errorf("%s: %q shares memory", what, s)
			}
		}
	}
}

func TestAnswersAreNewMemory(t *testing.T) {
	all := []api.Record{
		record(0, 1, create("name"), 0),
		record(0, 2, put("name", "text"), 0),
		record(0, 3, rename("name", "other"), 0),
		record(0, 3, rename("name", "other"), api.ErrNone),
	}
	s := story.Of(written(t, all...))
	for n := range all {
		one, _ := s.Record(n)
		two, _ := s.Record(n)
		apart(t, "a record, told twice", texts(one), texts(two))
		for m := range n {
			other, _ := s.Record(m)
			apart(t, "two records", texts(one), texts(other))
		}
	}
	one, _ := s.Text(4)
	two, _ := s.Text(4)
	apart(t, "a text, told twice", []string{one}, []string{two})
	for _, c := range []api.Call{read("other"), list()} {
		a, _ := s.Would(4, c)
		b, _ := s.Would(4, c)
		apart(t, "an answer, told twice", []string{a.Text}, []string{b.Text})
		apart(t, "an answer and its call", []string{a.Text}, []string{c.Name, c.To, c.Text})
		for n := range all {
			r, _ := s.Record(n)
			apart(t, "an answer and a record", []string{a.Text}, texts(r))
		}
	}
}

// TestAnswersMayBeTurned: the bytes of a record's texts are turned behind its back,
// as no other test could see that they are kept.
func TestAnswersMayBeTurned(t *testing.T) {
	all := some()
	s := story.Of(written(t, all...))
	for n := range all {
		r, _ := s.Record(n)
		for _, x := range texts(r) {
			if len(x) > 1 {
				unsafe.Slice(unsafe.StringData(x), len(x))[0] = '?'
			}
		}
		r.Client, r.No, r.Call, r.Answer = 9, 9, api.Call{}, api.Answer{}
	}
	wantStory(t, s, all)
}

// TestCallsAreNeitherChangedNorKept: the bytes of a call's texts are turned once it is answered.
func TestCallsAreNeitherChangedNorKept(t *testing.T) {
	all := some()
	s := story.Of(written(t, all...))
	for _, c := range calls() {
		lent := c
		var mine [][]byte
		for _, x := range []*string{&lent.Name, &lent.To, &lent.Text} {
			if *x != "" {
				b := []byte(*x)
				mine = append(mine, b)
				*x = unsafe.String(&b[0], len(b))
			}
		}
		a, _ := s.Would(7, lent)
		if lent != c {
			t.Errorf("the call is %+v, and was %+v", lent, c)
		}
		for _, b := range mine {
			b[0] = '?'
		}
		if want := plainOf(all[:7]).do(c); a != want {
			t.Errorf("Would(7, %+v) is %+v, want %+v", c, a, want)
		}
	}
	wantStory(t, s, all)
}

func TestStoriesStandApart(t *testing.T) {
	b := written(t, some()...)
	one, two, none := story.Of(b), story.Of(b), story.Of(nil)
	for _, c := range calls() {
		one.Would(5, c)
	}
	other := story.Of(written(t, strange()[1]...))
	wantStory(t, other, strange()[1])
	wantStory(t, none, nil)
	wantStory(t, two, some())
	wantStory(t, one, some())
}
