package files_test

import (
	"slices"
	"sort"
	"strings"
	"testing"
	"unsafe"

	"postilion/api"
	"postilion/files"
)

func create(name string) api.Call     { return api.Call{Kind: api.CMake, Name: name} }
func remove(name string) api.Call     { return api.Call{Kind: api.CRemove, Name: name} }
func rename(name, to string) api.Call { return api.Call{Kind: api.CRename, Name: name, To: to} }
func put(name, text string) api.Call  { return api.Call{Kind: api.CAppend, Name: name, Text: text} }
func read(name string) api.Call       { return api.Call{Kind: api.CRead, Name: name} }
func list() api.Call                  { return api.Call{Kind: api.CList} }

// step: a call and what it must be answered.
type step struct {
	call api.Call
	code int
	text string
}

func play(t *testing.T, f *files.Files, steps ...step) {
	t.Helper()
	for i, s := range steps {
		if got, want := f.Do(s.call), (api.Answer{Code: s.code, Text: s.text}); got != want {
			t.Errorf("step %d, %+v: %+v, want %+v", i, s.call, got, want)
		}
	}
}

// holding: files with these names, all of them empty.
func holding(t *testing.T, names ...string) *files.Files {
	t.Helper()
	f := files.New()
	for _, n := range names {
		play(t, f, step{create(n), 0, ""})
	}
	return f
}

// state: all that can be seen of files.
func state(f *files.Files) string {
	var b strings.Builder
	for _, n := range f.Names() {
		a := f.Do(read(n))
		b.WriteString(n + "=" + a.Text + "\n")
	}
	return b.String()
}

func wantNames(t *testing.T, f *files.Files, want ...string) {
	t.Helper()
	if got := f.Names(); !slices.Equal(got, want) {
		t.Errorf("Names: %q, want %q", got, want)
	}
}

func TestName(t *testing.T) {
	long := strings.Repeat("m", api.MaxName)
	for _, s := range []string{"a", "z", "az", long, strings.Repeat("z", api.MaxName)} {
		if !files.Name(s) {
			t.Errorf("Name(%q) is false", s)
		}
	}
	for _, s := range []string{"", long + "m", "A", "a b", " a", "a ", "a1", "a\x00", "a\n", "é", "\xff", "aaaa\x80", strings.Repeat("a", 1<<20)} {
		if files.Name(s) {
			t.Errorf("Name(%q) is true", s)
		}
	}
}

func TestNameOfEveryByte(t *testing.T) {
	for n := range 256 {
		b := byte(n)
		want := b >= 'a' && b <= 'z'
		for _, s := range []string{string([]byte{b}), string([]byte{b, 'k', 'k', 'k', 'k'}), string([]byte{'k', 'k', 'k', 'k', b})} {
			if files.Name(s) != want {
				t.Errorf("Name(%q) is %v", s, !want)
			}
		}
	}
}

func TestChanges(t *testing.T) {
	changing := map[int]int{api.CMake: 1, api.CRemove: 1, api.CRename: 1, api.CAppend: 1}
	for _, kind := range []int{-1 << 63, -1, 0, api.CMake, api.CRemove, api.CRename, api.CAppend, api.CRead, api.CList, 7, 257, 1<<32 + 1, 1<<63 - 1} {
		if got, want := files.Changes(kind), changing[kind] == 1; got != want {
			t.Errorf("Changes(%d) is %v", kind, got)
		}
	}
}

func TestCheckGood(t *testing.T) {
	long := strings.Repeat("z", api.MaxName)
	for _, c := range []api.Call{
		create("a"), create(long), remove("a"), remove(long), read("a"), read(long), list(),
		rename("a", long), rename(long, "a"), rename("a", "a"),
		put("a", " "), put("a", "~"), put(long, strings.Repeat("~", api.MaxPut)), put("a", strings.Repeat(" ", api.MaxPut)),
	} {
		if code := files.Check(c); code != 0 {
			t.Errorf("Check(%+v) is %d", c, code)
		}
	}
}

func TestCheckWrong(t *testing.T) {
	for _, x := range []struct {
		call api.Call
		code int
	}{
		{api.Call{}, api.ErrKind},
		{api.Call{Kind: -1, Name: "a"}, api.ErrKind},
		{api.Call{Kind: api.CList + 1, Name: "a"}, api.ErrKind},
		{api.Call{Kind: 1<<63 - 1}, api.ErrKind},
		{api.Call{Kind: -1 << 63}, api.ErrKind},
		{api.Call{Kind: 1<<32 + api.CMake, Name: "a"}, api.ErrKind},
		{api.Call{Kind: api.CList, Name: "a"}, api.ErrForm},
		{api.Call{Kind: api.CList, Name: "?"}, api.ErrForm},
		{api.Call{Kind: api.CList, To: "a"}, api.ErrForm},
		{api.Call{Kind: api.CList, Text: "a"}, api.ErrForm},
		{api.Call{Kind: api.CMake, Name: "a", To: "b"}, api.ErrForm},
		{api.Call{Kind: api.CMake, Name: "a", Text: "b"}, api.ErrForm},
		{api.Call{Kind: api.CRemove, Name: "a", To: "b"}, api.ErrForm},
		{api.Call{Kind: api.CRemove, Name: "a", Text: "b"}, api.ErrForm},
		{api.Call{Kind: api.CRename, Name: "a", To: "b", Text: "c"}, api.ErrForm},
		{api.Call{Kind: api.CAppend, Name: "a", To: "b", Text: "c"}, api.ErrForm},
		{api.Call{Kind: api.CRead, Name: "a", To: "b"}, api.ErrForm},
		{api.Call{Kind: api.CRead, Name: "a", Text: "b"}, api.ErrForm},
		{create(""), api.ErrName},
		{create("abcdef"), api.ErrName},
		{remove("A"), api.ErrName},
		{read("a b"), api.ErrName},
		{put("", "x"), api.ErrName},
		{rename("", "a"), api.ErrName},
		{rename("a", ""), api.ErrName},
		{rename("a", "abcdef"), api.ErrName},
		{rename("a", "B"), api.ErrName},
		{put("a", ""), api.ErrLong},
		{put("a", strings.Repeat("x", api.MaxPut+1)), api.ErrLong},
		{put("a", strings.Repeat("x", 1<<20)), api.ErrLong},
		{put("a", "é"), api.ErrLong},
	} {
		if code := files.Check(x.call); code != x.code {
			t.Errorf("Check(%+v) is %d, want %d", x.call, code, x.code)
		}
	}
}

func TestCheckTextOfEveryByte(t *testing.T) {
	for n := range 256 {
		want := api.ErrLong
		if n >= 32 && n <= 126 {
			want = 0
		}
		b := string([]byte{byte(n)})
		for _, s := range []string{b, b + "xxxxxxx", "xxxxxxx" + b} {
			if code := files.Check(put("a", s)); code != want {
				t.Errorf("Check of text %q is %d, want %d", s, code, want)
			}
		}
	}
}

// firstCode asks all of the chapter's conditions, and takes the first that is so.
func firstCode(c api.Call) int {
	badName := func(s string) bool {
		return len(s) == 0 || len(s) > api.MaxName || strings.Trim(s, "abcdefghijklmnopqrstuvwxyz") != ""
	}
	badText := len(c.Text) == 0 || len(c.Text) > api.MaxPut
	for i := range len(c.Text) {
		badText = badText || c.Text[i] < 32 || c.Text[i] > 126
	}
	for _, x := range []struct {
		so   bool
		code int
	}{
		{c.Kind < 1 || c.Kind > 6, api.ErrKind},
		{c.Kind == api.CList && c.Name != "", api.ErrForm},
		{c.Kind != api.CRename && c.To != "", api.ErrForm},
		{c.Kind != api.CAppend && c.Text != "", api.ErrForm},
		{c.Kind != api.CList && badName(c.Name), api.ErrName},
		{c.Kind == api.CRename && badName(c.To), api.ErrName},
		{c.Kind == api.CAppend && badText, api.ErrLong},
	} {
		if x.so {
			return x.code
		}
	}
	return 0
}

func TestCheckTellsTheFirstCode(t *testing.T) {
	names := []string{"", "a", "abcde", "abcdef", "A", "\x00", "a b"}
	texts := []string{"", "x", " ", "~", "\x1f", "\x7f", "12345678", "123456789", "\n23456789"}
	for kind := -2; kind <= 9; kind++ {
		for _, name := range names {
			for _, to := range names {
				for _, text := range texts {
					c := api.Call{Kind: kind, Name: name, To: to, Text: text}
					if got, want := files.Check(c), firstCode(c); got != want {
						t.Errorf("Check(%+v) is %d, want %d", c, got, want)
					}
				}
			}
		}
	}
}

func TestNewHasNone(t *testing.T) {
	f := files.New()
	wantNames(t, f)
	play(t, f, step{list(), 0, ""}, step{read("a"), api.ErrNone, ""}, step{remove("a"), api.ErrNone, ""},
		step{rename("a", "b"), api.ErrNone, ""}, step{put("a", "x"), api.ErrNone, ""})
	wantNames(t, f)
}

func TestMake(t *testing.T) {
	f := holding(t, "b", "abcde")
	play(t, f, step{read("b"), 0, ""}, step{put("b", "x"), 0, ""}, step{create("b"), api.ErrThere, ""}, step{read("b"), 0, "x"})
	wantNames(t, f, "abcde", "b")
}

func TestMakeWhenFull(t *testing.T) {
	f := files.New()
	for n := range api.MaxFiles {
		play(t, f, step{create(string(rune('a' + n))), 0, ""})
	}
	play(t, f, step{create("zz"), api.ErrFull, ""}, step{create("a"), api.ErrThere, ""}, step{read("zz"), api.ErrNone, ""})
	wantNames(t, f, "a", "b", "c", "d", "e", "f")
	play(t, f, step{rename("a", "zz"), 0, ""}, step{create("a"), api.ErrFull, ""},
		step{remove("c"), 0, ""}, step{create("a"), 0, ""}, step{create("c"), api.ErrFull, ""})
	wantNames(t, f, "a", "b", "d", "e", "f", "zz")
}

func TestRemove(t *testing.T) {
	f := holding(t, "a", "b", "c")
	play(t, f, step{put("a", "1"), 0, ""}, step{put("b", "2"), 0, ""}, step{put("c", "3"), 0, ""},
		step{remove("b"), 0, ""}, step{remove("b"), api.ErrNone, ""}, step{read("b"), api.ErrNone, ""},
		step{read("a"), 0, "1"}, step{read("c"), 0, "3"},
		step{create("b"), 0, ""}, step{read("b"), 0, ""}, step{read("c"), 0, "3"})
	wantNames(t, f, "a", "b", "c")
}

func TestRename(t *testing.T) {
	f := holding(t, "a", "b")
	play(t, f, step{put("a", "x y"), 0, ""},
		step{rename("a", "b"), api.ErrThere, ""}, step{rename("a", "a"), api.ErrThere, ""},
		step{rename("c", "a"), api.ErrNone, ""}, step{rename("c", "c"), api.ErrNone, ""}, step{rename("c", "d"), api.ErrNone, ""})
	wantNames(t, f, "a", "b")
	play(t, f, step{rename("a", "z"), 0, ""}, step{read("z"), 0, "x y"}, step{read("a"), api.ErrNone, ""},
		step{create("a"), 0, ""}, step{read("a"), 0, ""}, step{put("z", "!"), 0, ""}, step{read("z"), 0, "x y!"})
	wantNames(t, f, "a", "b", "z")
}

func TestAppendToTheBrim(t *testing.T) {
	f := holding(t, "a", "b")
	half := strings.Repeat("~", api.MaxPut)
	play(t, f, step{put("a", half), 0, ""}, step{put("a", half), 0, ""}, step{read("a"), 0, half + half},
		step{put("a", " "), api.ErrFull, ""}, step{read("a"), 0, half + half}, step{read("b"), 0, ""})
	play(t, f, step{put("b", " "), 0, ""}, step{put("b", half), 0, ""}, step{put("b", half), api.ErrFull, ""},
		step{read("b"), 0, " " + half}, step{put("b", "1234567"), 0, ""}, step{read("b"), 0, " " + half + "1234567"},
		step{put("b", "8"), api.ErrFull, ""})
	if got := len(f.Do(read("b")).Text); got != api.MaxText {
		t.Errorf("a full file has %d bytes", got)
	}
}

func TestListRises(t *testing.T) {
	f := holding(t, "b", "ab", "a", "zzzzz", "ba", "aaaaa")
	wantNames(t, f, "a", "aaaaa", "ab", "b", "ba", "zzzzz")
	play(t, f, step{list(), 0, "a aaaaa ab b ba zzzzz"}, step{rename("a", "c"), 0, ""}, step{list(), 0, "aaaaa ab b ba c zzzzz"})
	play(t, holding(t, "a"), step{list(), 0, "a"})
}

func TestDoTellsTheCodeOfCheckFirst(t *testing.T) {
	f := holding(t, "a", "b", "c", "d", "e", "f")
	play(t, f,
		step{api.Call{Kind: 0, Name: "a"}, api.ErrKind, ""},
		step{api.Call{Kind: api.CMake, Name: "a", To: "b"}, api.ErrForm, ""},
		step{create("ABCDEF"), api.ErrName, ""},
		step{rename("a", "B"), api.ErrName, ""},
		step{rename("nono", ""), api.ErrName, ""},
		step{put("nono", ""), api.ErrLong, ""},
		step{put("a", "\n"), api.ErrLong, ""},
		step{api.Call{Kind: api.CRead, Name: "a", Text: "x"}, api.ErrForm, ""},
		step{api.Call{Kind: api.CList, Name: "a"}, api.ErrForm, ""})
	wantNames(t, f, "a", "b", "c", "d", "e", "f")
}

// model does calls by a map, in another way than the program.
type model map[string]string

func (m model) do(c api.Call) api.Answer {
	if code := firstCode(c); code != 0 {
		return api.Answer{Code: code}
	}
	text, there := m[c.Name]
	_, taken := m[c.To]
	switch {
	case c.Kind == api.CList:
		return api.Answer{Text: strings.Join(m.names(), " ")}
	case c.Kind == api.CMake && there, c.Kind == api.CRename && there && taken:
		return api.Answer{Code: api.ErrThere}
	case c.Kind != api.CMake && !there:
		return api.Answer{Code: api.ErrNone}
	case c.Kind == api.CMake && len(m) == api.MaxFiles, c.Kind == api.CAppend && len(text+c.Text) > api.MaxText:
		return api.Answer{Code: api.ErrFull}
	case c.Kind == api.CRead:
		return api.Answer{Text: text}
	}
	delete(m, c.Name)
	switch c.Kind {
	case api.CMake, api.CAppend:
		m[c.Name] = text + c.Text
	case api.CRename:
		m[c.To] = text
	}
	return api.Answer{}
}

func (m model) names() []string {
	var out []string
	for n := range m {
		out = append(out, n)
	}
	sort.Strings(out)
	return out
}

func (m model) state() string {
	var b strings.Builder
	for _, n := range m.names() {
		b.WriteString(n + "=" + m[n] + "\n")
	}
	return b.String()
}

// walk answers one call of a long and fixed row, most of them well formed.
func walk(seed *uint32) api.Call {
	next := func(n int) int {
		*seed = *seed*1664525 + 1013904223
		return int(*seed>>16) % n
	}
	names := []string{"a", "b", "ab", "ba", "c", "zzzzz", "q", "aaaaa", "a", "", "A"}
	texts := []string{"x", " ", "~~~~~~~~", "12345", "o k", "1", "two", "", "123456789", "\x7f"}
	c := api.Call{Kind: 1 + next(6), Name: names[next(len(names))]}
	if c.Kind == api.CList {
		c.Name = ""
	}
	if c.Kind == api.CRename || next(20) == 0 {
		c.To = names[next(len(names))]
	}
	if c.Kind == api.CAppend || next(20) == 0 {
		c.Text = texts[next(len(texts))]
	}
	if next(50) == 0 {
		c.Kind = next(12) - 3
	}
	return c
}

func TestDoAsTheModel(t *testing.T) {
	f, twin, m := files.New(), files.New(), model{}
	seed, codes := uint32(1), map[int]int{}
	for n := range 20000 {
		c := walk(&seed)
		before := state(f)
		got, want := f.Do(c), m.do(c)
		if got != want {
			t.Fatalf("call %d, %+v: %+v, want %+v", n, c, got, want)
		}
		if again := twin.Do(c); again != got {
			t.Fatalf("call %d, %+v: %+v, but other files with the same calls tell %+v", n, c, got, again)
		}
		after := state(f)
		if after != m.state() {
			t.Fatalf("call %d, %+v: files are\n%swant\n%s", n, c, after, m.state())
		}
		if (got.Code != 0 || !files.Changes(c.Kind)) && before != after {
			t.Fatalf("call %d, %+v: it may change nothing, but did", n, c)
		}
		if got.Code != 0 && got.Text != "" {
			t.Fatalf("call %d, %+v: a code with a text: %+v", n, c, got)
		}
		codes[got.Code]++
	}
	for code := range api.ErrFull + 1 {
		if codes[code] == 0 {
			t.Errorf("no call of the walk was answered %d", code)
		}
	}
}

func TestObjectsStandApart(t *testing.T) {
	f, g := holding(t, "a"), holding(t, "a")
	play(t, f, step{put("a", "x"), 0, ""}, step{create("b"), 0, ""})
	play(t, g, step{read("a"), 0, ""}, step{remove("a"), 0, ""})
	wantNames(t, f, "a", "b")
	wantNames(t, g)
}

func TestNamesIsNewMemory(t *testing.T) {
	f := holding(t, "a", "b")
	first, second := f.Names(), f.Names()
	first[0] = "spoilt"
	first = append(first, "more")
	wantNames(t, f, "a", "b")
	if second[0] != "a" || len(first) != 3 {
		t.Errorf("two lists share memory: %q, %q", first, second)
	}
}

func TestTextsAreNewMemory(t *testing.T) {
	f := files.New()
	name, to, text := strings.Clone("aaaa"), strings.Clone("bbbb"), strings.Clone("12345678")
	apart := func(what, given, told string) {
		t.Helper()
		if given != told {
			t.Errorf("%s: %q, want %q", what, told, given)
		}
		if unsafe.StringData(given) == unsafe.StringData(told) {
			t.Errorf("%s shares memory", what)
		}
	}
	f.Do(create(name))
	apart("a made name", name, f.Names()[0])
	apart("a made name, listed", name, f.Do(list()).Text)
	f.Do(put(name, text))
	apart("a text", text, f.Do(read(name)).Text)
	apart("a text that is read twice", f.Do(read(name)).Text, f.Do(read(name)).Text)
	f.Do(rename(name, to))
	apart("a new name", to, f.Names()[0])
	apart("a name that is told twice", f.Names()[0], f.Names()[0])
	apart("a list that is told twice", f.Do(list()).Text, f.Do(list()).Text)
}

func TestNothingPanics(t *testing.T) {
	huge := strings.Repeat("a", 1<<16)
	texts := []string{"", "a", huge, "\x00", "\xff\xfe", "\n", " ", "日本"}
	f := holding(t, "a")
	for _, kind := range []int{-1 << 63, -1, 0, 1, 2, 3, 4, 5, 6, 7, 255, 256, 1<<63 - 1} {
		for _, name := range texts {
			for _, to := range texts {
				for _, text := range texts {
					c := api.Call{Kind: kind, Name: name, To: to, Text: text}
					if code := files.Check(c); code != firstCode(c) {
						t.Errorf("Check of kind %d, name %.9q, to %.9q, text %.9q is %d", kind, name, to, text, code)
					} else if a := f.Do(c); code != 0 && a != (api.Answer{Code: code}) {
						t.Errorf("Do of a wrong call: %d, want %d", a.Code, code)
					}
				}
			}
		}
	}
}

// borrowed: a text whose memory the test can still change, to see whether it is kept.
func borrowed(b []byte) string { return unsafe.String(&b[0], len(b)) }

func TestTextsAreNotKept(t *testing.T) {
	f := files.New()
	name, to, text := []byte("aaaa"), []byte("bbbb"), []byte("12345678")
	f.Do(create(borrowed(name)))
	name[0] = 'x'
	wantNames(t, f, "aaaa")
	f.Do(put("aaaa", borrowed(text)))
	text[0] = 'x'
	f.Do(rename("aaaa", borrowed(to)))
	to[0] = 'x'
	wantNames(t, f, "bbbb")
	play(t, f, step{read("bbbb"), 0, "12345678"})
}
