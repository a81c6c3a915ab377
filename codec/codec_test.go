package codec_test

import (
	"bytes"
	"slices"
	"strings"
	"testing"
	"unsafe"

	"postilion/api"
	"postilion/codec"
	"postilion/files"
)

func record(client, no int, c api.Call, code int) api.Record {
	return api.Record{Client: client, No: no, Call: c, Answer: api.Answer{Code: code}}
}

func create(name string) api.Call     { return api.Call{Kind: api.CMake, Name: name} }
func remove(name string) api.Call     { return api.Call{Kind: api.CRemove, Name: name} }
func rename(name, to string) api.Call { return api.Call{Kind: api.CRename, Name: name, To: to} }
func put(name, text string) api.Call  { return api.Call{Kind: api.CAppend, Name: name, Text: text} }

// pair: a record and its bytes, written out by hand.
type pair struct {
	r api.Record
	b string
}

func pairs() []pair {
	return []pair{
		{record(0, 1, create("a"), 0), "\x09\x00\x01\x01\x00\x01a\x00\x00"},
		{record(2, 200, create("abcde"), 99), "\x0d\x02\xc8\x01\x63\x05abcde\x00\x00"},
		{record(1, 2, remove("z"), api.ErrNone), "\x09\x01\x02\x02\x06\x01z\x00\x00"},
		{record(0, 127, rename("a", "b"), api.ErrThere), "\x0a\x00\x7f\x03\x05\x01a\x01b\x00"},
		{record(2, 128, rename("zzzzz", "yyyyy"), 0), "\x12\x02\x80\x03\x00\x05zzzzz\x05yyyyy\x00"},
		{record(1, 10, put("a", " "), 0), "\x0a\x01\x0a\x04\x00\x01a\x00\x01 "},
		{record(0, 199, put("abcde", "~~~~~~~~"), api.ErrFull), "\x15\x00\xc7\x04\x07\x05abcde\x00\x08~~~~~~~~"},
		{record(1, 200, put("ab", "x y"), 7), "\x0d\x01\xc8\x04\x07\x02ab\x00\x03x y"},
	}
}

func TestEncode(t *testing.T) {
	for _, p := range pairs() {
		if b, code := codec.Encode(p.r); code != 0 || string(b) != p.b {
			t.Errorf("Encode(%+v) is %q, %d, want %q", p.r, b, code, p.b)
		}
	}
}

func TestDecode(t *testing.T) {
	for _, p := range pairs() {
		for _, behind := range []string{"", "\x00", "\x05", "\xff", p.b, p.b[:len(p.b)-1]} {
			if r, n, code := codec.Decode([]byte(p.b + behind)); r != p.r || n != len(p.b) || code != 0 {
				t.Errorf("Decode(%q) is %+v, %d, %d, want %+v, %d, 0", p.b+behind, r, n, code, p.r, len(p.b))
			}
		}
	}
}

func TestCheckAtTheEdges(t *testing.T) {
	const low, high = -1 << 63, 1<<63 - 1
	for _, x := range []struct {
		client, no, answer, code int
	}{
		{0, 1, 0, 0}, {api.Clients - 1, api.MaxCalls, 99, 0}, {1, 100, 50, 0},
		{-1, 1, 0, api.ErrRange}, {api.Clients, 1, 0, api.ErrRange}, {low, 1, 0, api.ErrRange}, {high, 1, 0, api.ErrRange}, {256, 1, 0, api.ErrRange},
		{0, 0, 0, api.ErrRange}, {0, -1, 0, api.ErrRange}, {0, api.MaxCalls + 1, 0, api.ErrRange}, {0, low, 0, api.ErrRange}, {0, high, 0, api.ErrRange}, {0, 257, 0, api.ErrRange},
		{0, 1, -1, api.ErrRange}, {0, 1, 100, api.ErrRange}, {0, 1, low, api.ErrRange}, {0, 1, high, api.ErrRange}, {0, 1, 256, api.ErrRange},
	} {
		r := record(x.client, x.no, create("a"), x.answer)
		if code := codec.Check(r); code != x.code {
			t.Errorf("Check(%+v) is %d, want %d", r, code, x.code)
		}
	}
}

func TestCheckOfTheCall(t *testing.T) {
	for _, x := range []struct {
		call api.Call
		code int
	}{
		{api.Call{}, api.ErrKind},
		{api.Call{Kind: -1, Name: "a"}, api.ErrKind},
		{api.Call{Kind: 257, Name: "a"}, api.ErrKind},
		{api.Call{Kind: api.CRead, Name: "a"}, api.ErrKind},
		{api.Call{Kind: api.CRead, Name: "A", To: "b"}, api.ErrKind},
		{api.Call{Kind: api.CList}, api.ErrKind},
		{api.Call{Kind: api.CList + 1}, api.ErrKind},
		{create("a"), 0}, {create("abcde"), 0}, {create(""), api.ErrName}, {create("abcdef"), api.ErrName}, {create("A"), api.ErrName},
		{api.Call{Kind: api.CMake, Name: "a", To: "b"}, api.ErrForm},
		{api.Call{Kind: api.CRemove, Name: "a", Text: "b"}, api.ErrForm},
		{remove("abcde"), 0}, {remove(""), api.ErrName},
		{rename("a", "b"), 0}, {rename("a", "a"), 0}, {rename("abcde", "fghij"), 0}, {rename("a", ""), api.ErrName}, {rename("a", "abcdef"), api.ErrName}, {rename("", "a"), api.ErrName},
		{put("a", "x"), 0}, {put("a", "12345678"), 0}, {put("a", ""), api.ErrLong}, {put("a", "123456789"), api.ErrLong}, {put("a", "\x1f"), api.ErrLong}, {put("a", "\x7f"), api.ErrLong},
		{put("a", strings.Repeat("x", 256)), api.ErrLong},
	} {
		if code := codec.Check(record(0, 1, x.call, 0)); code != x.code {
			t.Errorf("Check of %+v is %d, want %d", x.call, code, x.code)
		}
	}
}

// firstCode asks all of the chapter's conditions, and takes the first that is so.
func firstCode(r api.Record) int {
	changing := map[int]int{api.CMake: 1, api.CRemove: 1, api.CRename: 1, api.CAppend: 1}
	inner := files.Check(r.Call)
	for _, x := range []struct {
		so   bool
		code int
	}{
		{r.Client < 0 || r.Client > api.Clients-1, api.ErrRange},
		{r.No < 1 || r.No > api.MaxCalls, api.ErrRange},
		{changing[r.Call.Kind] == 0, api.ErrKind},
		{inner != 0, inner},
		{r.Answer.Code < 0 || r.Answer.Code > 99, api.ErrRange},
		{r.Answer.Text != "", api.ErrForm},
	} {
		if x.so {
			return x.code
		}
	}
	return 0
}

// each goes through records with every mixture of right and wrong parts.
func each(do func(r api.Record)) {
	calls := []api.Call{
		{}, {Kind: api.CRead, Name: "a"}, {Kind: api.CList}, {Kind: api.CList, Name: "a"}, {Kind: 7, Name: "a"}, {Kind: 256 + api.CMake, Name: "a"},
		create("a"), create("A"), create("abcdef"), {Kind: api.CMake, Name: "a", Text: "x"}, remove("abcde"), remove(""),
		rename("a", "b"), rename("a", ""), rename("a", "\x00"), put("a", "x"), put("a", ""), put("a", "\n"), put("a", strings.Repeat("x", 300)), {Kind: api.CAppend, Name: "a", To: "b", Text: "x"},
	}
	for _, client := range []int{-1 << 63, -1, 0, 1, 2, 3, 256, 1<<63 - 1} {
		for _, no := range []int{-1 << 63, -1, 0, 1, 127, 128, 200, 201, 255, 256, 257, 1<<63 - 1} {
			for _, call := range calls {
				for _, code := range []int{-1 << 63, -1, 0, 7, 99, 100, 256, 1<<63 - 1} {
					for _, text := range []string{"", "x", "\x00"} {
						do(api.Record{Client: client, No: no, Call: call, Answer: api.Answer{Code: code, Text: text}})
					}
				}
			}
		}
	}
}

func TestCheckTellsTheFirstCode(t *testing.T) {
	codes := map[int]int{}
	each(func(r api.Record) {
		got, want := codec.Check(r), firstCode(r)
		if got != want {
			t.Errorf("Check(%+v) is %d, want %d", r, got, want)
		}
		codes[got]++
	})
	for _, code := range []int{0, api.ErrRange, api.ErrKind, api.ErrForm, api.ErrName, api.ErrLong} {
		if codes[code] == 0 {
			t.Errorf("no record had the code %d", code)
		}
	}
}

func TestThereAndBack(t *testing.T) {
	each(func(r api.Record) {
		b, code := codec.Encode(r)
		if want := firstCode(r); code != want {
			t.Fatalf("Encode(%+v): %d, want %d", r, code, want)
		}
		if code != 0 {
			if len(b) != 0 {
				t.Fatalf("Encode(%+v): bytes %q with a code", r, b)
			}
			return
		}
		if back, n, code := codec.Decode(b); back != r || n != len(b) || code != 0 {
			t.Fatalf("Decode of Encode(%+v) is %+v, %d, %d", r, back, n, code)
		}
	})
}

func TestThereAndBackOfEveryNumber(t *testing.T) {
	for client := range api.Clients {
		for no := 1; no <= api.MaxCalls; no++ {
			for code := range 100 {
				r := record(client, no, create("a"), code)
				b, bad := codec.Encode(r)
				if want := []byte{9, byte(client), byte(no), 1, byte(code), 1, 'a', 0, 0}; bad != 0 || !bytes.Equal(b, want) {
					t.Fatalf("Encode(%+v) is %v, %d", r, b, bad)
				}
				if back, n, bad := codec.Decode(b); back != r || n != 9 || bad != 0 {
					t.Fatalf("Decode(%v) is %+v, %d, %d", b, back, n, bad)
				}
			}
		}
	}
}

func TestDecodeWrong(t *testing.T) {
	for _, x := range []struct {
		b    string
		code int
	}{
		{"", api.ErrShort},
		{"\x01", api.ErrForm}, {"\x00", api.ErrForm}, {"\x00\x00\x01\x01\x00\x01a\x00\x00", api.ErrForm},
		{"\x02", api.ErrShort}, {"\x02\x00", api.ErrForm}, {"\x03\x00", api.ErrShort}, {"\x03\x00\x01", api.ErrForm},
		{"\x04\x00\x01", api.ErrShort}, {"\x04\x00\x01\x01", api.ErrForm}, {"\x04\x00\x01\x01\x00\x01a\x00\x00", api.ErrForm},
		{"\x05\x00\x01\x01", api.ErrShort}, {"\x05\x00\x01\x01\x00", api.ErrForm}, {"\x05\x00\x01\x01\x00\x01a\x00\x00", api.ErrForm},
		{"\x06\x00\x01\x01\x00\x00", api.ErrForm}, {"\x06\x00\x01\x01\x00\x01", api.ErrForm}, {"\x07\x00\x01\x01\x00\x00\x00", api.ErrForm},
		{"\x07\x00\x01\x01\x00\x01a\x00\x00", api.ErrForm}, {"\x08\x00\x01\x01\x00\x01a\x00\x00", api.ErrForm}, {"\x0a\x00\x01\x01\x00\x01a\x00\x00", api.ErrShort},
		{"\x0a\x00\x01\x01\x00\x01a\x00\x00\x00", api.ErrForm}, {"\xff\x00\x01\x01\x00\x01a\x00\x00", api.ErrShort},
		{"\x09\x00\x01\x01\x00\x00a\x00\x00", api.ErrForm}, {"\x09\x00\x01\x01\x00\x02a\x00\x00", api.ErrForm}, {"\x09\x00\x01\x01\x00\x03a\x00\x00", api.ErrForm},
		{"\x09\x00\x01\x01\x00\xffa\x00\x00", api.ErrForm}, {"\x09\x00\x01\x01\x00\x01a\x01\x00", api.ErrForm}, {"\x09\x00\x01\x01\x00\x01a\x00\x01", api.ErrForm},
		{"\x09\x00\x01\x01\x00\x01a\x00\x01x", api.ErrForm},
		{"\x09\x03\x01\x01\x00\x01a\x00\x00", api.ErrRange}, {"\x09\x00\x00\x01\x00\x01a\x00\x00", api.ErrRange}, {"\x09\x00\xc9\x01\x00\x01a\x00\x00", api.ErrRange}, {"\x09\x00\x01\x01\x64\x01a\x00\x00", api.ErrRange},
		{"\x09\x00\x01\x00\x00\x01a\x00\x00", api.ErrKind}, {"\x09\x00\x01\x05\x00\x01a\x00\x00", api.ErrKind}, {"\x08\x00\x01\x06\x00\x00\x00\x00", api.ErrKind}, {"\x09\x00\x01\xff\x00\x01a\x00\x00", api.ErrKind},
		{"\x08\x00\x01\x01\x00\x00\x00\x00", api.ErrName}, {"\x09\x00\x01\x01\x00\x01A\x00\x00", api.ErrName}, {"\x0e\x00\x01\x01\x00\x06abcdef\x00\x00", api.ErrName},
		{"\x0a\x00\x01\x01\x00\x01a\x01b\x00", api.ErrForm}, {"\x0a\x00\x01\x01\x00\x01a\x00\x01x", api.ErrForm}, {"\x09\x00\x01\x03\x00\x01a\x00\x00", api.ErrName},
		{"\x09\x00\x01\x04\x00\x01a\x00\x00", api.ErrLong}, {"\x0a\x00\x01\x04\x00\x01a\x00\x01\x1f", api.ErrLong}, {"\x12\x00\x01\x04\x00\x01a\x00\x09123456789", api.ErrLong},
		{"\x05\x03\x01\x01\x00", api.ErrForm}, {"\x09\x03\x00\x07\x64\x01A\x00", api.ErrShort},
		{"\x09\x03\x00\x07\x64\x01A\x00\x00", api.ErrRange}, {"\x09\x00\x01\x07\x64\x01A\x00\x00", api.ErrKind}, {"\x09\x00\x01\x01\x64\x01A\x00\x00", api.ErrName},
	} {
		if r, n, code := codec.Decode([]byte(x.b)); code != x.code || n != 0 || r != (api.Record{}) {
			t.Errorf("Decode(%q) is %+v, %d, %d, want the code %d alone", x.b, r, n, code, x.code)
		}
		if list, n := codec.All([]byte(x.b)); len(list) != 0 || n != 0 {
			t.Errorf("All(%q) is %+v, %d", x.b, list, n)
		}
	}
}

func TestDecodeOfTheLongestForms(t *testing.T) {
	long := append([]byte{255, 0, 1, 1, 0, 247}, bytes.Repeat([]byte{'a'}, 247)...)
	long = append(long, 0, 0)
	for n := range len(long) {
		if _, _, code := codec.Decode(long[:n]); code != api.ErrShort {
			t.Errorf("Decode of the first %d bytes of 255 has the code %d", n, code)
		}
	}
	for _, behind := range []string{"", "x"} {
		if _, _, code := codec.Decode(append(slices.Clone(long), behind...)); code != api.ErrName {
			t.Errorf("Decode of a name of 247 bytes has the code %d", code)
		}
	}
}

func TestDecodeOfBytesThatAreCut(t *testing.T) {
	for _, p := range pairs() {
		for n := range len(p.b) {
			if r, m, code := codec.Decode([]byte(p.b[:n])); code != api.ErrShort || m != 0 || r != (api.Record{}) {
				t.Errorf("Decode(%q) is %+v, %d, %d", p.b[:n], r, m, code)
			}
			if n == 0 {
				continue
			}
			cut := []byte(p.b[:n])
			cut[0] = byte(n)
			if r, m, code := codec.Decode(cut); code != api.ErrForm || m != 0 || r != (api.Record{}) {
				t.Errorf("Decode(%q) is %+v, %d, %d", cut, r, m, code)
			}
		}
	}
}

func TestDecodeOfBytesTooMany(t *testing.T) {
	for _, p := range pairs() {
		for more := 1; more < 40; more++ {
			long := append([]byte(p.b), make([]byte, more)...)
			long[0] += byte(more)
			if r, n, code := codec.Decode(long); code != api.ErrForm || n != 0 || r != (api.Record{}) {
				t.Errorf("Decode(%q) is %+v, %d, %d", long, r, n, code)
			}
		}
	}
}

// byHand reads bytes by places alone, in another way than the program.
func byHand(b []byte) (r api.Record, n, code int) {
	if len(b) == 0 || int(b[0]) > len(b) {
		return r, 0, api.ErrShort
	}
	n = int(b[0])
	at := func(i int) int {
		if i < n {
			return int(b[i])
		}
		return 1 << 20
	}
	name := at(5)
	to := at(6 + name)
	text := at(7 + name + to)
	if n < 5 || 8+name+to+text != n {
		return r, 0, api.ErrForm
	}
	x := api.Record{Client: at(1), No: at(2), Answer: api.Answer{Code: at(4)}}
	x.Call = api.Call{Kind: at(3), Name: string(b[6 : 6+name]), To: string(b[7+name : 7+name+to]), Text: string(b[n-text : n])}
	if code := firstCode(x); code != 0 {
		return r, 0, code
	}
	return x, n, 0
}

func TestDecodeAsByHand(t *testing.T) {
	codes := map[int]int{}
	ask := func(b []byte) {
		t.Helper()
		r, n, code := codec.Decode(b)
		if x, m, want := byHand(b); r != x || n != m || code != want {
			t.Fatalf("Decode(%q) is %+v, %d, %d, want %+v, %d, %d", b, r, n, code, x, m, want)
		}
		codes[code]++
	}
	for _, p := range pairs() {
		for i := range len(p.b) {
			for v := range 256 {
				b := []byte(p.b)
				b[i] = byte(v)
				ask(b)
				for j := range len(b) {
					c := slices.Clone(b)
					c[j]++
					ask(c)
					c[j] -= 2
					ask(c)
				}
			}
		}
	}
	seed := uint32(1)
	next := func(n int) byte {
		seed = seed*1664525 + 1013904223
		return byte(int(seed>>16) % n)
	}
	for range 100000 {
		b := make([]byte, next(20))
		for i := range b {
			b[i] = next(6)
			if next(3) == 0 {
				b[i] = 'a' + next(26)
			}
		}
		if len(b) > 0 && next(8) > 0 {
			b[0] = byte(len(b)) - next(3)
		}
		ask(b)
	}
	for _, code := range []int{0, api.ErrShort, api.ErrForm, api.ErrRange, api.ErrKind, api.ErrName, api.ErrLong} {
		if codes[code] == 0 {
			t.Errorf("no bytes had the code %d", code)
		}
	}
}

func TestAll(t *testing.T) {
	var whole []byte
	var records []api.Record
	var ends []int
	for _, p := range pairs() {
		records = append(records, p.r)
		whole = append(whole, p.b...)
		ends = append(ends, len(whole))
	}
	for n := range len(whole) + 1 {
		k, size := 0, 0
		for k < len(ends) && ends[k] <= n {
			size = ends[k]
			k++
		}
		if list, m := codec.All(whole[:n]); !slices.Equal(list, records[:k]) || m != size {
			t.Errorf("All of the first %d bytes is %+v, %d, want %d records, %d", n, list, m, k, size)
		}
	}
}

func TestAllStopsAtTheFirstCode(t *testing.T) {
	good := "\x09\x00\x01\x01\x00\x01a\x00\x00"
	r := record(0, 1, create("a"), 0)
	for _, bad := range []string{
		"\x00", "\x01", "\x04", "\x09", "\xff", good[:8], "\x05\x00\x01\x01\x00",
		"\x09\x03\x01\x01\x00\x01a\x00\x00", "\x09\x00\x01\x05\x00\x01a\x00\x00", "\x09\x00\x01\x01\x00\x01A\x00\x00", "\x09\x00\x01\x01\x64\x01a\x00\x00", "\x0a\x00\x01\x01\x00\x01a\x00\x00\x00",
	} {
		for _, behind := range []string{"", good, good + good} {
			for k := range 4 {
				b := []byte(strings.Repeat(good, k) + bad + behind)
				if list, n := codec.All(b); !slices.Equal(list, slices.Repeat([]api.Record{r}, k)) || n != 9*k {
					t.Errorf("All(%q) is %+v, %d, want %d records", b, list, n, k)
				}
			}
		}
	}
}

func TestAllOfMany(t *testing.T) {
	one, _ := codec.Encode(record(2, 200, put("abcde", "12345678"), 7))
	list, n := codec.All(append(bytes.Repeat(one, 50000), 0))
	if len(list) != 50000 || n != 50000*len(one) {
		t.Errorf("All of 50000 records is %d records, %d bytes", len(list), n)
	}
}

func TestWhatIsHandedInStays(t *testing.T) {
	for _, p := range pairs() {
		room := []byte(p.b + p.b + "\x0d\x02\xc8\x01\x63\x05abcde\x00\x00")
		kept := slices.Clone(room)
		b := room[:len(p.b)+3]
		codec.Decode(b)
		codec.All(b)
		if !bytes.Equal(room, kept) {
			t.Errorf("bytes were changed: %q, want %q", room, kept)
		}
		if list, n := codec.All(b); len(list) != 1 || n != len(p.b) {
			t.Errorf("All read behind the length of its bytes: %+v, %d", list, n)
		}
		if _, _, code := codec.Decode(room[:len(p.b)-1]); code != api.ErrShort {
			t.Errorf("Decode read behind the length of its bytes: %d", code)
		}
	}
}

func TestAnswersAreNewMemory(t *testing.T) {
	r := record(1, 2, put("aaaa", "12345678"), 0)
	first, _ := codec.Encode(r)
	second, _ := codec.Encode(r)
	clear(first)
	_ = append(first, 1, 2, 3)
	if back, _, code := codec.Decode(second); back != r || code != 0 {
		t.Errorf("two answers of Encode share memory: %q", second)
	}
	two := append(slices.Clone(second), second...)
	one, _, _ := codec.Decode(two)
	list, _ := codec.All(two)
	other, _ := codec.All(two)
	clear(two)
	other[0] = api.Record{}
	for _, x := range append(list, one, other[1]) {
		if x != r {
			t.Errorf("a record shares memory: %+v, want %+v", x, r)
		}
	}
	if unsafe.StringData(list[0].Call.Text) == unsafe.StringData(list[1].Call.Text) {
		t.Error("two records of one list share a text")
	}
}

func TestRecordsAreNotKept(t *testing.T) {
	name, text := []byte("aaaa"), []byte("12345678")
	b, _ := codec.Encode(record(0, 1, put(unsafe.String(&name[0], len(name)), unsafe.String(&text[0], len(text))), 0))
	clear(name)
	clear(text)
	if r, _, _ := codec.Decode(b); r != record(0, 1, put("aaaa", "12345678"), 0) {
		t.Errorf("the bytes hang on what was handed in: %q", b)
	}
}

func TestEmptyAndNilAreTheSame(t *testing.T) {
	for _, b := range [][]byte{nil, {}} {
		if r, n, code := codec.Decode(b); r != (api.Record{}) || n != 0 || code != api.ErrShort {
			t.Errorf("Decode of no byte is %+v, %d, %d", r, n, code)
		}
		if list, n := codec.All(b); len(list) != 0 || n != 0 {
			t.Errorf("All of no byte is %+v, %d", list, n)
		}
	}
}
