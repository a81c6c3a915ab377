package store_test

import (
	"bytes"
	"math"
	"slices"
	"strings"
	"testing"
	"unsafe"

	"postilion/api"
	"postilion/codec"
	"postilion/files"
	"postilion/store"
)

func create(name string) api.Call     { return api.Call{Kind: api.CMake, Name: name} }
func remove(name string) api.Call     { return api.Call{Kind: api.CRemove, Name: name} }
func rename(name, to string) api.Call { return api.Call{Kind: api.CRename, Name: name, To: to} }
func put(name, text string) api.Call  { return api.Call{Kind: api.CAppend, Name: name, Text: text} }
func read(name string) api.Call       { return api.Call{Kind: api.CRead, Name: name} }
func list() api.Call                  { return api.Call{Kind: api.CList} }

func record(client, no int, c api.Call, code int) api.Record {
	return api.Record{Client: client, No: no, Call: c, Answer: api.Answer{Code: code}}
}

func written(t *testing.T, records ...api.Record) []byte {
	t.Helper()
	var all []byte
	for _, r := range records {
		b, code := codec.Encode(r)
		if code != 0 {
			t.Fatalf("Encode(%+v) has the code %d", r, code)
		}
		all = append(all, b...)
	}
	return all
}

// state: all that can be asked of a store without a change.
type state struct {
	log, files string
	last       [api.Clients]int
}

// told asks for the files by their names and what each has.
func told(s *store.Store) state {
	x := state{log: string(s.Log())}
	for _, n := range s.Names() {
		x.files += n + "=" + s.Do(read(n)).Text + "\n"
	}
	for i := range x.last {
		x.last[i] = s.Last(i)
	}
	return x
}

// wanted tells the same of records, without a store: the files do all of them anew.
func wanted(t *testing.T, records []api.Record) state {
	t.Helper()
	x := state{log: string(written(t, records...))}
	f := files.New()
	for _, r := range records {
		f.Do(r.Call)
		x.last[r.Client] = r.No
	}
	for _, n := range f.Names() {
		x.files += n + "=" + f.Do(read(n)).Text + "\n"
	}
	return x
}

func sameState(t *testing.T, what string, got, want state) {
	t.Helper()
	if got != want {
		t.Fatalf("%s: %q, %q, %v, want %q, %q, %v", what, got.log, got.files, got.last, want.log, want.files, want.last)
	}
}

// some: records whose answers are those of files, one of each kind and some codes.
func some() []api.Record {
	return []api.Record{
		record(1, 1, create("a"), 0),
		record(0, 3, put("a", "x y"), 0),
		record(1, 2, create("a"), api.ErrThere),
		record(2, 200, rename("a", "abcde"), 0),
		record(0, 4, remove("b"), api.ErrNone),
		record(1, 9, create("b"), 0),
		record(0, 5, put("abcde", "12345678"), 0),
		record(0, 6, put("abcde", "12345678"), api.ErrFull),
		record(1, 10, remove("b"), 0),
	}
}

// full answers a store whose log has just so many bytes (none, or 9 and more), all of client 2.
func full(t *testing.T, size int) *store.Store {
	t.Helper()
	s := store.New()
	for no := 1; ; no++ {
		room := size - len(s.Log())
		if room == 0 {
			return s
		}
		n := min(room, 21)
		if n < room && room-n < 9 { // no record is as short as what would be left
			n = 12
		}
		c := create("abcde"[:min(n-8, 5)])
		if n > 13 {
			c = put("abcde", "12345678"[:n-13])
		}
		if _, code := s.Call(2, no, c); code != 0 || len(s.Log()) != size-room+n {
			t.Fatalf("a record of %d bytes behind %d has the code %d", n, size-room, code)
		}
	}
}

func TestNew(t *testing.T) {
	s := store.New()
	sameState(t, "New", told(s), state{})
	s.Crash()
	sameState(t, "a crash of it", told(s), state{})
	s.Call(0, 1, create("a"))
	sameState(t, "another one", told(store.New()), state{})
}

func TestCallComesToTheLog(t *testing.T) {
	s := store.New()
	for _, x := range []struct {
		client, no int
		c          api.Call
		code       int
		bytes      string
	}{
		{1, 1, create("a"), 0, "\x09\x01\x01\x01\x00\x01a\x00\x00"},
		{0, 200, put("a", "x y"), 0, "\x0c\x00\xc8\x04\x00\x01a\x00\x03x y"},
		{1, 2, create("a"), api.ErrThere, "\x09\x01\x02\x01\x05\x01a\x00\x00"},
		{2, 7, rename("a", "abcde"), 0, "\x0e\x02\x07\x03\x00\x01a\x05abcde\x00"},
		{1, 9, remove("a"), api.ErrNone, "\x09\x01\x09\x02\x06\x01a\x00\x00"},
		{2, 8, remove("abcde"), 0, "\x0d\x02\x08\x02\x00\x05abcde\x00\x00"},
	} {
		had := string(s.Log())
		if a, code := s.Call(x.client, x.no, x.c); a != (api.Answer{Code: x.code}) || code != 0 {
			t.Errorf("Call(%d, %d, %+v) is %+v, %d, want the answer %d", x.client, x.no, x.c, a, code, x.code)
		}
		if got := string(s.Log()); got != had+x.bytes {
			t.Errorf("Call(%d, %d, %+v) brings %q, want %q", x.client, x.no, x.c, got[len(had):], x.bytes)
		}
		if s.Last(x.client) != x.no {
			t.Errorf("Last(%d) is %d, want %d", x.client, s.Last(x.client), x.no)
		}
	}
}

// TestCallCodes: each code ahead of all that come behind it, and with each of them nothing is done.
func TestCallCodes(t *testing.T) {
	for _, x := range []struct {
		client, no int
		c          api.Call
		code       int
	}{
		{-1, 1, create("b"), api.ErrRange},
		{api.Clients, 1, create("b"), api.ErrRange},
		{math.MinInt, 1, create("b"), api.ErrRange},
		{math.MaxInt, 1, create("b"), api.ErrRange},
		{0, 0, create("b"), api.ErrRange},
		{0, -1, create("b"), api.ErrRange},
		{0, api.MaxCalls + 1, create("b"), api.ErrRange},
		{0, math.MinInt, create("b"), api.ErrRange},
		{0, math.MaxInt, create("b"), api.ErrRange},
		{256, 257, create("b"), api.ErrRange},
		{3, 1, api.Call{}, api.ErrRange},
		{0, 0, api.Call{Kind: 7}, api.ErrRange},
		{-1, 5, list(), api.ErrRange},
		{3, 5, list(), api.ErrRange},
		{0, 0, read("a"), api.ErrRange},
		{0, 201, read("a"), api.ErrRange},
		{0, 1, create("A"), api.ErrName},
		{0, 5, create(""), api.ErrName},
		{0, 5, create("abcdef"), api.ErrName},
		{0, 5, rename("a", ""), api.ErrName},
		{0, 5, put("a", ""), api.ErrLong},
		{0, 5, put("a", "123456789"), api.ErrLong},
		{0, 5, put("a", "\n"), api.ErrLong},
		{0, 5, api.Call{Kind: api.CMake, Name: "A", Text: "x"}, api.ErrForm},
		{0, 5, api.Call{Kind: api.CList, Name: "a"}, api.ErrForm},
		{0, 5, api.Call{Kind: api.CRead, Name: "a", To: "b"}, api.ErrForm},
		{0, 5, read("A"), api.ErrName},
		{0, 5, api.Call{}, api.ErrKind},
		{0, 1, api.Call{Kind: -1}, api.ErrKind},
		{0, 1, api.Call{Kind: 7, Name: "A"}, api.ErrKind},
		{0, 1, api.Call{Kind: math.MaxInt}, api.ErrKind},
		{0, 4, create("a"), api.ErrOld},
		{0, 4, create("b"), api.ErrOld},
		{0, 4, rename("a", "b"), api.ErrOld},
		{0, 3, create("a"), api.ErrOld},
		{0, 1, create("b"), api.ErrOld},
	} {
		for _, torn := range []bool{false, true} {
			s := store.New()
			s.Call(0, 3, create("a"))
			s.Call(0, 4, put("a", "x"))
			had := told(s)
			a, code := api.Answer{}, 0
			if torn {
				code = s.Tear(x.client, x.no, x.c, 100)
			} else {
				a, code = s.Call(x.client, x.no, x.c)
			}
			if a != (api.Answer{}) || code != x.code {
				t.Errorf("%d, %d, %+v (torn: %v) is %+v, %d, want the code %d", x.client, x.no, x.c, torn, a, code, x.code)
			}
			sameState(t, "behind a code", told(s), had)
		}
	}
}

func TestClientsAndNumbersAtTheirEdges(t *testing.T) {
	for client := range api.Clients {
		for _, no := range []int{1, 2, 127, 128, api.MaxCalls - 1, api.MaxCalls} {
			s := store.New()
			if a, code := s.Call(client, no, create("a")); a != (api.Answer{}) || code != 0 {
				t.Errorf("Call(%d, %d) is %+v, %d", client, no, a, code)
			}
			sameState(t, "one call", told(s), wanted(t, []api.Record{record(client, no, create("a"), 0)}))
		}
	}
	for _, client := range []int{-1, api.Clients, math.MinInt, math.MaxInt} {
		if n := full(t, 500).Last(client); n != 0 {
			t.Errorf("Last(%d) is %d, want 0", client, n)
		}
	}
}

// TestDoneOnce: a call that comes again is answered as the first time, though files would answer otherwise now.
func TestDoneOnce(t *testing.T) {
	s := store.New()
	var done []api.Record
	for _, r := range some() {
		done = append(done, r)
		for i := range 4 {
			if a, code := s.Call(r.Client, r.No, r.Call); a != r.Answer || code != 0 {
				t.Errorf("%+v, time %d, is %+v, %d", r, i, a, code)
			}
			if i == 2 {
				s.Crash()
			}
			sameState(t, "done once", told(s), wanted(t, done))
		}
	}
}

// TestAgainBehindOthers: what other clients do takes no client its last answer.
func TestAgainBehindOthers(t *testing.T) {
	s := store.New()
	s.Call(0, 5, create("a"))
	s.Call(1, 5, create("a"))
	s.Call(1, 6, remove("a"))
	s.Call(2, 199, remove("a"))
	for _, r := range []api.Record{record(0, 5, create("a"), 0), record(1, 6, remove("a"), 0), record(2, 199, remove("a"), api.ErrNone)} {
		if a, code := s.Call(r.Client, r.No, r.Call); a != r.Answer || code != 0 {
			t.Errorf("%+v again is %+v, %d", r, a, code)
		}
	}
	if a, code := s.Call(1, 5, create("a")); a != (api.Answer{}) || code != api.ErrOld {
		t.Errorf("a lower number is %+v, %d, want ErrOld", a, code)
	}
}

// TestAnotherCall: one that differs in any one part is another one.
func TestAnotherCall(t *testing.T) {
	for _, x := range []struct{ first, other api.Call }{
		{create("a"), create("b")},
		{create("a"), remove("a")},
		{remove("a"), create("a")},
		{rename("a", "b"), rename("a", "c")},
		{rename("a", "b"), rename("c", "b")},
		{put("a", "x"), put("a", "y")},
		{put("a", "x"), put("a", "x ")},
		{put("a", "x"), put("b", "x")},
	} {
		s := store.New()
		s.Call(1, 8, x.first)
		had := told(s)
		if a, code := s.Call(1, 8, x.other); a != (api.Answer{}) || code != api.ErrOld {
			t.Errorf("%+v behind %+v is %+v, %d, want ErrOld", x.other, x.first, a, code)
		}
		if code := s.Tear(1, 8, x.other, 100); code != api.ErrOld {
			t.Errorf("a torn %+v behind %+v is %d, want ErrOld", x.other, x.first, code)
		}
		sameState(t, "another call", told(s), had)
	}
}

func TestCallsThatOnlyAsk(t *testing.T) {
	s := store.New()
	s.Call(0, 5, create("b"))
	s.Call(1, 5, create("a"))
	s.Call(0, 6, put("b", "x  y"))
	had := told(s)
	for _, no := range []int{1, 5, 6, 7, api.MaxCalls} {
		for client := range api.Clients {
			for _, x := range []struct {
				c api.Call
				a api.Answer
			}{
				{list(), api.Answer{Text: "a b"}},
				{read("b"), api.Answer{Text: "x  y"}},
				{read("a"), api.Answer{}},
				{read("c"), api.Answer{Code: api.ErrNone}},
			} {
				if a, code := s.Call(client, no, x.c); a != x.a || code != 0 {
					t.Errorf("Call(%d, %d, %+v) is %+v, %d, want %+v", client, no, x.c, a, code, x.a)
				}
				if code := s.Tear(client, no, x.c, 3); code != 0 {
					t.Errorf("Tear(%d, %d, %+v) is %d", client, no, x.c, code)
				}
				sameState(t, "only asked", told(s), had)
			}
		}
	}
	// The files answer anew each time: no answer of such a call stands in the log.
	s.Call(2, 1, remove("a"))
	if a, _ := s.Call(0, 5, list()); a.Text != "b" {
		t.Errorf("list is %q, want b", a.Text)
	}
	if a, code := s.Call(0, 7, create("c")); a != (api.Answer{}) || code != 0 {
		t.Errorf("a number that was only asked with is %+v, %d", a, code)
	}
}

func TestFullLog(t *testing.T) {
	for _, x := range []struct {
		had  int
		c    api.Call
		code int
	}{
		{api.MaxBytes - 9, create("a"), 0},
		{api.MaxBytes - 8, create("a"), api.ErrFull},
		{api.MaxBytes - 13, create("abcde"), 0},
		{api.MaxBytes - 12, create("abcde"), api.ErrFull},
		{api.MaxBytes - 10, rename("b", "a"), 0},
		{api.MaxBytes - 9, rename("b", "a"), api.ErrFull},
		{api.MaxBytes - 21, put("abcde", "12345678"), 0},
		{api.MaxBytes - 20, put("abcde", "12345678"), api.ErrFull},
		{api.MaxBytes, create("a"), api.ErrFull},
	} {
		s := full(t, x.had)
		had := told(s)
		a, code := s.Call(1, 1, x.c)
		if code != x.code {
			t.Errorf("%+v behind %d bytes has the code %d, want %d", x.c, x.had, code, x.code)
		}
		if x.code == 0 {
			if len(s.Log()) != api.MaxBytes || s.Last(1) != 1 {
				t.Errorf("%+v behind %d bytes: the log has %d", x.c, x.had, len(s.Log()))
			}
			if again, code := s.Call(1, 1, x.c); again != a || code != 0 {
				t.Errorf("%+v again, the log is full, is %+v, %d, want %+v", x.c, again, code, a)
			}
			continue
		}
		if a != (api.Answer{}) {
			t.Errorf("%+v behind %d bytes is %+v, want none", x.c, x.had, a)
		}
		for _, keep := range []int{-1, 0, 1, 100} {
			if code := s.Tear(1, 1, x.c, keep); code != x.code {
				t.Errorf("%+v torn behind %d bytes has the code %d, want %d", x.c, x.had, code, x.code)
			}
		}
		sameState(t, "a full log", told(s), had)
	}
}

// TestOthersOfAFullLog: a log without room still answers what needs none.
func TestOthersOfAFullLog(t *testing.T) {
	s := full(t, api.MaxBytes)
	s2 := full(t, api.MaxBytes-9)
	if _, code := s2.Call(0, 1, create("abcde")); code != api.ErrFull {
		t.Errorf("one that is too long has the code %d", code)
	}
	if a, code := s2.Call(0, 1, create("a")); a != (api.Answer{}) || code != 0 {
		t.Errorf("a shorter one with its number is %+v, %d", a, code)
	}
	records, _ := codec.All(s.Log())
	last := records[len(records)-1]
	if a, code := s.Call(2, last.No, last.Call); a != last.Answer || code != 0 {
		t.Errorf("the last one again is %+v, %d, want %+v", a, code, last.Answer)
	}
	if _, code := s.Call(2, last.No-1, last.Call); code != api.ErrOld {
		t.Errorf("a lower number has the code %d, want ErrOld", code)
	}
	if _, code := s.Call(2, 201, last.Call); code != api.ErrRange {
		t.Errorf("no number has the code %d, want ErrRange", code)
	}
	if _, code := s.Call(2, 200, create("A")); code != api.ErrName {
		t.Errorf("no name has the code %d, want ErrName", code)
	}
	if a, code := s.Call(2, 1, list()); a != s.Do(list()) || code != 0 {
		t.Errorf("list is %+v, %d", a, code)
	}
}

// TestTear: each new call cut at every place, behind those ahead of it.
func TestTear(t *testing.T) {
	all := some()
	for i, r := range all {
		size := len(written(t, r))
		keeps := []int{math.MinInt, -size, -1, math.MaxInt, math.MaxInt - len(written(t, all[:i]...))}
		for keep := range size + 3 {
			keeps = append(keeps, keep)
		}
		for _, keep := range keeps {
			s, _ := store.Open(written(t, all[:i]...))
			if code := s.Tear(r.Client, r.No, r.Call, keep); code != 0 {
				t.Errorf("Tear(%+v, %d) is %d", r, keep, code)
			}
			left := all[:i]
			if keep >= size {
				left = all[:i+1]
			}
			sameState(t, "torn", told(s), wanted(t, left))
			if a, code := s.Call(r.Client, r.No, r.Call); a != r.Answer || code != 0 {
				t.Errorf("%+v behind its Tear of %d is %+v, %d", r, keep, a, code)
			}
			sameState(t, "then called", told(s), wanted(t, all[:i+1]))
		}
	}
}

// TestTearThenAnother: of a call that was torn nothing stays, so its number is free for another one.
func TestTearThenAnother(t *testing.T) {
	s := store.New()
	s.Tear(0, 1, create("a"), 8)
	if a, code := s.Call(0, 1, create("b")); a != (api.Answer{}) || code != 0 {
		t.Errorf("another call is %+v, %d", a, code)
	}
	sameState(t, "another call", told(s), wanted(t, []api.Record{record(0, 1, create("b"), 0)}))
	s.Tear(0, 2, create("c"), 9)
	if _, code := s.Call(0, 2, create("d")); code != api.ErrOld {
		t.Errorf("another call behind a Tear of all has the code %d, want ErrOld", code)
	}
}

// TestTearAgain: a call that stands in the log brings nothing, so nothing is cut.
func TestTearAgain(t *testing.T) {
	s := store.New()
	var done []api.Record
	for _, r := range some() {
		done = append(done, r)
		s.Call(r.Client, r.No, r.Call)
		for _, keep := range []int{-1, 0, 5, 100} {
			if code := s.Tear(r.Client, r.No, r.Call, keep); code != 0 {
				t.Errorf("Tear(%+v, %d) again is %d", r, keep, code)
			}
			sameState(t, "torn again", told(s), wanted(t, done))
		}
	}
}

func TestTearOfAFullLog(t *testing.T) {
	for _, keep := range []int{0, 8, 9} {
		s := full(t, api.MaxBytes-9)
		if code := s.Tear(0, 1, create("a"), keep); code != 0 {
			t.Errorf("Tear of %d is %d", keep, code)
		}
		if want := api.MaxBytes - 9 + keep/9*9; len(s.Log()) != want {
			t.Errorf("the log has %d bytes behind a Tear of %d, want %d", len(s.Log()), keep, want)
		}
	}
}

func TestOpenOfNothing(t *testing.T) {
	for _, b := range [][]byte{nil, {}} {
		s, n := store.Open(b)
		if n != 0 {
			t.Errorf("behind no bytes stand %d", n)
		}
		sameState(t, "no bytes", told(s), state{})
		if a, code := s.Call(0, 1, create("a")); a != (api.Answer{}) || code != 0 || len(s.Log()) != 9 {
			t.Errorf("the first call is %+v, %d", a, code)
		}
	}
}

func TestOpenCutAtEveryPlace(t *testing.T) {
	all := some()
	whole := written(t, all...)
	n := 0
	for cut := range len(whole) + 1 {
		if n < len(all) && cut == len(written(t, all[:n+1]...)) {
			n++
		}
		s, behind := store.Open(whole[:cut])
		if want := cut - len(written(t, all[:n]...)); behind != want {
			t.Errorf("cut at %d: %d stand behind, want %d", cut, behind, want)
		}
		sameState(t, "cut", told(s), wanted(t, all[:n]))
		if n < len(all) {
			r := all[n]
			if a, code := s.Call(r.Client, r.No, r.Call); a != r.Answer || code != 0 {
				t.Errorf("cut at %d: %+v is %+v, %d", cut, r, a, code)
			}
			sameState(t, "then called", told(s), wanted(t, all[:n+1]))
		}
	}
	if n != len(all) {
		t.Errorf("%d records, want %d", n, len(all))
	}
}

// TestOpenWithBytesBehind: also with whole records behind a place that is none.
func TestOpenWithBytesBehind(t *testing.T) {
	good := written(t, record(2, 9, create("c"), 0))
	for _, behind := range []string{"\x00", "\x01", "\x04", "\x05", "\xff", "\x09\x09", string(good[:8]),
		"\x04" + string(good), "\x09\x03\x01\x01\x00\x01a\x00\x00" + string(good),
		"\x09\x00\x00\x01\x00\x01a\x00\x00" + string(good), "\x09\x00\x01\x05\x00\x01a\x00\x00",
		"\x08\x00\x01\x06\x00\x00\x00\x00" + string(good), "\x09\x00\x01\x01\x64\x01a\x00\x00" + string(good),
		strings.Repeat("\xff", 5000)} {
		s, n := store.Open(append(written(t, some()...), behind...))
		if n != len(behind) {
			t.Errorf("%q: %d stand behind, want %d", behind, n, len(behind))
		}
		sameState(t, "with bytes behind", told(s), wanted(t, some()))
		s, n = store.Open([]byte(behind))
		if n != len(behind) {
			t.Errorf("%q alone: %d stand behind", behind, n)
		}
		sameState(t, "with these alone", told(s), state{})
	}
}

// TestOpenKeepsTheAnswers: what stands in the log is answered, though files answered otherwise.
func TestOpenKeepsTheAnswers(t *testing.T) {
	all := []api.Record{
		record(0, 1, create("a"), 99),
		record(1, 1, create("a"), 0),
		record(2, 4, remove("x"), 0),
	}
	s, n := store.Open(written(t, all...))
	if n != 0 {
		t.Errorf("%d stand behind", n)
	}
	for range 2 {
		sameState(t, "other answers", told(s), wanted(t, all))
		for _, r := range all {
			if a, code := s.Call(r.Client, r.No, r.Call); a != r.Answer || code != 0 {
				t.Errorf("%+v is %+v, %d", r, a, code)
			}
		}
		s.Crash()
	}
}

// TestOpenOfNumbersThatFall: the last one is the one that stands last, not the highest.
func TestOpenOfNumbersThatFall(t *testing.T) {
	all := []api.Record{
		record(0, 9, create("a"), 0),
		record(1, 5, create("b"), 0),
		record(0, 4, create("c"), 0),
		record(0, 4, create("d"), 0),
	}
	s, _ := store.Open(written(t, all...))
	sameState(t, "numbers that fall", told(s), wanted(t, all))
	for _, x := range []struct {
		no   int
		c    api.Call
		code int
	}{{3, create("d"), api.ErrOld}, {4, create("c"), api.ErrOld}, {4, create("d"), 0}, {5, create("e"), 0}, {9, create("f"), 0}} {
		if _, code := s.Call(0, x.no, x.c); code != x.code {
			t.Errorf("Call(0, %d, %+v) has the code %d, want %d", x.no, x.c, code, x.code)
		}
	}
}

// TestOpenOfMoreThanALogHolds: the bound is one of calls that come, not of what is opened.
func TestOpenOfMoreThanALogHolds(t *testing.T) {
	var all []api.Record
	for i := range 400 {
		all = append(all, record(i%2, 1+i/2, create("abcde"), 0))
	}
	s, n := store.Open(append(written(t, all...), 1))
	if n != 1 {
		t.Errorf("%d stand behind, want 1", n)
	}
	for range 2 {
		sameState(t, "a long log", told(s), wanted(t, all))
		if _, code := s.Call(2, 1, create("a")); code != api.ErrFull {
			t.Errorf("a new call has the code %d, want ErrFull", code)
		}
		if code := s.Tear(2, 1, create("a"), 0); code != api.ErrFull {
			t.Errorf("a new call, torn, has the code %d, want ErrFull", code)
		}
		if a, code := s.Call(1, 200, create("abcde")); a != (api.Answer{}) || code != 0 {
			t.Errorf("the last one again is %+v, %d", a, code)
		}
		s.Crash()
	}
}

// TestMemory: no answer and no argument has memory with the store or with one another.
func TestMemory(t *testing.T) {
	b := written(t, some()...)
	spare := append(slices.Clone(b), "behind the length"...)
	s, _ := store.Open(spare[:len(b)])
	s2, _ := store.Open(spare[:len(b)])
	s.Call(1, 100, create("z"))
	s2.Call(1, 100, create("y"))
	if string(spare) != string(b)+"behind the length" {
		t.Errorf("what was handed in is changed: %q", spare)
	}
	had, had2 := told(s), told(s2)
	clear(spare)
	sameState(t, "the bytes are cleared", told(s), had)
	one, two := s.Log(), s.Log()
	clear(one)
	if string(two) != had.log {
		t.Errorf("two answers share memory")
	}
	_ = append(two, "more"...)
	s.Call(1, 101, create("y"))
	s.Crash()
	three := s.Log()
	clear(three[:cap(three)])
	clear(s.Names())
	if a, code := s.Call(1, 101, create("y")); a != (api.Answer{}) || code != 0 || s.Last(1) != 101 {
		t.Errorf("the last call is %+v, %d", a, code)
	}
	sameState(t, "another store", told(s2), had2)
	none := full(t, 0)
	_ = append(none.Log(), 1, 2, 3)
	sameState(t, "no log", told(none), state{})
}

// TestTextsAreNotKept: the texts of a call are changed behind its back, as no other test could see it.
func TestTextsAreNotKept(t *testing.T) {
	for _, torn := range []bool{false, true} {
		s := store.New()
		var done []api.Record
		for i, c := range []api.Call{create("a"), put("a", "xyz"), rename("a", "bcd"), remove("bcd"), create("e")} {
			name, to, text := []byte(c.Name), []byte(c.To), []byte(c.Text)
			mine := api.Call{Kind: c.Kind, Name: loose(name), To: loose(to), Text: loose(text)}
			if torn {
				s.Tear(1, i+1, mine, 100)
			} else {
				s.Call(1, i+1, mine)
			}
			for _, x := range [][]byte{name, to, text} {
				for i := range x {
					x[i] = 'q'
				}
			}
			done = append(done, record(1, i+1, c, 0))
			sameState(t, "texts", told(s), wanted(t, done))
			if a, code := s.Call(1, i+1, c); a != (api.Answer{}) || code != 0 {
				t.Errorf("%+v again is %+v, %d", c, a, code)
			}
		}
	}
}

// loose answers a text that lies in the bytes themselves.
func loose(b []byte) string { return unsafe.String(unsafe.SliceData(b), len(b)) }

// dice is a row of numbers that is the same each time.
type dice uint64

func (d *dice) roll(n int) int {
	*d = *d*6364136223846793005 + 1442695040888963407
	return int(uint64(*d)>>33) % n
}

// call is mostly a good one, on few names, so that all answers come up.
func (d *dice) call() api.Call {
	names := []string{"a", "b", "c", "dd", "eee", "ffff", "ggggg", "h", "A", ""}
	name := func() string { return names[d.roll(d.roll(len(names))+1)] }
	switch d.roll(8) {
	case 0, 1:
		return create(name())
	case 2:
		return remove(name())
	case 3:
		return rename(name(), name())
	case 4, 5:
		return put(name(), "12345678x"[:d.roll(10)])
	case 6:
		return read(name())
	}
	return api.Call{Kind: d.roll(9) - 1, Name: names[d.roll(3)*4], Text: "x"[:d.roll(2)]}
}

// plain is the store as the chapter's words say it: nothing but records, gone through anew each time.
type plain []api.Record

func (p plain) files() *files.Files {
	f := files.New()
	for _, r := range p {
		f.Do(r.Call)
	}
	return f
}

// come answers what a call is answered, its code, and the record that it brings, if any.
func (p plain) come(t *testing.T, client, no int, c api.Call) (api.Answer, int, []api.Record) {
	if client < 0 || client >= api.Clients || no < 1 || no > api.MaxCalls {
		return api.Answer{}, api.ErrRange, nil
	}
	if code := files.Check(c); code != 0 {
		return api.Answer{}, code, nil
	}
	if c.Kind == api.CRead || c.Kind == api.CList {
		return p.files().Do(c), 0, nil
	}
	for _, r := range slices.Backward(p) {
		if r.Client != client {
			continue
		}
		if r.No == no && r.Call == c {
			return r.Answer, 0, nil
		}
		if r.No >= no {
			return api.Answer{}, api.ErrOld, nil
		}
		break
	}
	r := api.Record{Client: client, No: no, Call: c}
	if len(written(t, p...))+len(written(t, r)) > api.MaxBytes {
		return api.Answer{}, api.ErrFull, nil
	}
	r.Answer = p.files().Do(c)
	return r.Answer, 0, []api.Record{r}
}

// TestWalks: long rows of calls, tears and crashes, held against the plain store at each step.
func TestWalks(t *testing.T) {
	codes := map[int]int{}
	for seed := range 25 {
		d := dice(seed * 7919)
		s, p := store.New(), plain{}
		for range 600 {
			client := []int{-1, 0, 0, 0, 1, 1, 1, 2, 2, 2, 3}[d.roll(11)]
			no := s.Last(client) + []int{-1, 0, 1, 1, 1, 2}[d.roll(6)]
			c := d.call()
			if records := len(p); records > 0 && d.roll(4) == 0 {
				r := p[records-1-d.roll(min(records, 4))]
				client, no, c = r.Client, r.No, r.Call
			}
			a, code, more := p.come(t, client, no, c)
			codes[code]++
			switch d.roll(6) {
			case 0:
				keep := d.roll(30) - 3
				if got := s.Tear(client, no, c, keep); got != code {
					t.Fatalf("Tear(%d, %d, %+v, %d) is %d, want %d", client, no, c, keep, got, code)
				}
				if keep < len(written(t, more...)) {
					more = nil
				}
			default:
				if b, got := s.Call(client, no, c); b != a || got != code {
					t.Fatalf("Call(%d, %d, %+v) is %+v, %d, want %+v, %d", client, no, c, b, got, a, code)
				}
			}
			p = append(p, more...)
			if d.roll(5) == 0 {
				s.Crash()
			}
			sameState(t, "a walk", told(s), wanted(t, p))
		}
		opened, n := store.Open(s.Log())
		if n != 0 {
			t.Errorf("%d stand behind a log", n)
		}
		sameState(t, "opened", told(opened), told(s))
		onceEach(t, s.Log())
	}
	for _, code := range []int{0, api.ErrKind, api.ErrForm, api.ErrName, api.ErrLong, api.ErrRange, api.ErrOld, api.ErrFull} {
		if codes[code] == 0 {
			t.Errorf("no walk came by the code %d", code)
		}
	}
}

// onceEach: no call of a client stands in the log twice, and its numbers rise.
func onceEach(t *testing.T, log []byte) {
	t.Helper()
	var last [api.Clients]int
	records, n := codec.All(log)
	if n != len(log) {
		t.Errorf("of %d bytes %d are records", len(log), n)
	}
	for _, r := range records {
		if r.No <= last[r.Client] {
			t.Errorf("%+v stands behind the number %d", r, last[r.Client])
		}
		last[r.Client] = r.No
	}
}

// TestOpenOfAnyBytes: whatever the bytes are, the store goes on from the records with which they begin.
func TestOpenOfAnyBytes(t *testing.T) {
	for seed := range 3000 {
		d := dice(seed)
		b := written(t, some()[:d.roll(6)]...)
		for range d.roll(4) {
			if len(b) > 0 {
				b[d.roll(len(b))] = byte(d.roll(256))
			}
		}
		for range d.roll(12) {
			b = append(b, byte(d.roll(12)))
		}
		had := bytes.Clone(b)
		records, n := codec.All(b)
		s, behind := store.Open(b)
		if behind != len(b)-n || !bytes.Equal(b, had) {
			t.Fatalf("Open(%q): %d stand behind, want %d", b, behind, len(b)-n)
		}
		sameState(t, "any bytes", told(s), wanted(t, records))
		p := plain(records)
		for _, r := range records {
			a, code, more := p.come(t, r.Client, r.No, r.Call)
			if got, gotCode := s.Call(r.Client, r.No, r.Call); got != a || gotCode != code {
				t.Fatalf("%+v behind Open(%q) is %+v, %d, want %+v, %d", r, b, got, gotCode, a, code)
			}
			p = append(p, more...)
			sameState(t, "any bytes, and a call", told(s), wanted(t, p))
		}
	}
}
