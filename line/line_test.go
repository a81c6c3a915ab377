package line_test

import (
	"math"
	"regexp"
	"strconv"
	"strings"
	"testing"
	"unsafe"

	"postilion/api"
	"postilion/files"
	"postilion/line"
)

func create(name string) api.Call     { return api.Call{Kind: api.CMake, Name: name} }
func remove(name string) api.Call     { return api.Call{Kind: api.CRemove, Name: name} }
func rename(name, to string) api.Call { return api.Call{Kind: api.CRename, Name: name, To: to} }
func put(name, text string) api.Call  { return api.Call{Kind: api.CAppend, Name: name, Text: text} }
func read(name string) api.Call       { return api.Call{Kind: api.CRead, Name: name} }
func list() api.Call                  { return api.Call{Kind: api.CList} }

func wantLine(t *testing.T, c api.Call, want string) {
	t.Helper()
	if s, code := line.Call(c); s != want || code != 0 {
		t.Errorf("Call(%+v) is %q, %d, want %q, 0", c, s, code, want)
	}
}

func wantNoLine(t *testing.T, c api.Call, want int) {
	t.Helper()
	if s, code := line.Call(c); s != "" || code != want {
		t.Errorf("Call(%+v) is %q, %d, want no line, %d", c, s, code, want)
	}
}

func wantCall(t *testing.T, s string, want api.Call) {
	t.Helper()
	if c, code := line.Parse(s); c != want || code != 0 {
		t.Errorf("Parse(%q) is %+v, %d, want %+v, 0", s, c, code, want)
	}
}

func wantNoCall(t *testing.T, want int, lines ...string) {
	t.Helper()
	for _, s := range lines {
		if c, code := line.Parse(s); c != (api.Call{}) || code != want {
			t.Errorf("Parse(%.60q), %d bytes, is %+v, %d, want no call, %d", s, len(s), c, code, want)
		}
	}
}

// pairs: calls and their lines, written out by hand.
func pairs() []struct {
	call api.Call
	line string
} {
	return []struct {
		call api.Call
		line string
	}{
		{create("a"), "make a"}, {create("abcde"), "make abcde"}, {create("make"), "make make"},
		{remove("b"), "remove b"}, {remove("zzzzz"), "remove zzzzz"},
		{rename("a", "b"), "rename a b"}, {rename("a", "a"), "rename a a"}, {rename("abcde", "fghij"), "rename abcde fghij"}, {rename("list", "read"), "rename list read"},
		{put("a", "x"), "append a x"}, {put("abcde", "12345678"), "append abcde 12345678"}, {put("a", "!~"), "append a !~"},
		{put("a", "x y"), "append a x y"}, {put("a", "x  y z"), "append a x  y z"},
		{put("a", " x"), "append a  x"}, {put("a", "x "), "append a x "}, {put("a", " "), "append a  "},
		{put("a", "        "), "append a         "}, {put("a", " x y "), "append a  x y "}, {put("a", "list"), "append a list"},
		{read("c"), "read c"}, {read("list"), "read list"},
		{list(), "list"},
	}
}

func TestCallsAsLines(t *testing.T) {
	for _, p := range pairs() {
		wantLine(t, p.call, p.line)
	}
}

func TestLinesAsCalls(t *testing.T) {
	for _, p := range pairs() {
		wantCall(t, p.line, p.call)
	}
}

func TestCallOfNoKind(t *testing.T) {
	for _, kind := range []int{0, -1, 7, 8, 256 + api.CMake, 1<<32 + api.CMake, math.MinInt, math.MinInt + api.CMake, math.MaxInt} {
		for _, c := range []api.Call{{}, {Name: "a"}, {Name: "a", To: "b"}, {Name: "a", Text: "x"}, {Name: "A", To: "\xff", Text: "\n"}} {
			c.Kind = kind
			wantNoLine(t, c, api.ErrKind)
		}
	}
}

func TestCallWithACode(t *testing.T) {
	huge := strings.Repeat("a", 1<<20)
	for _, x := range []struct {
		call api.Call
		code int
	}{
		{api.Call{Kind: api.CList, Name: "a"}, api.ErrForm},
		{api.Call{Kind: api.CList, To: "a"}, api.ErrForm},
		{api.Call{Kind: api.CList, Text: "a"}, api.ErrForm},
		{api.Call{Kind: api.CMake, Name: "a", To: "b"}, api.ErrForm},
		{api.Call{Kind: api.CMake, Name: "A", Text: "b"}, api.ErrForm},
		{api.Call{Kind: api.CRemove, Name: "a", To: "b"}, api.ErrForm},
		{api.Call{Kind: api.CRename, Name: "a", To: "b", Text: "c"}, api.ErrForm},
		{api.Call{Kind: api.CAppend, Name: "a", To: "b", Text: "c"}, api.ErrForm},
		{api.Call{Kind: api.CRead, Name: "a", Text: "b"}, api.ErrForm},
		{create(""), api.ErrName}, {create("abcdef"), api.ErrName}, {create("a b"), api.ErrName}, {create(huge), api.ErrName},
		{remove("A"), api.ErrName}, {read("a\n"), api.ErrName}, {read("\xff"), api.ErrName},
		{rename("", "a"), api.ErrName}, {rename("a", ""), api.ErrName}, {rename("a", "b c"), api.ErrName}, {rename("a", huge), api.ErrName},
		{put("", "x"), api.ErrName}, {put(" ", ""), api.ErrName},
		{put("a", ""), api.ErrLong}, {put("a", "123456789"), api.ErrLong}, {put("a", "\n"), api.ErrLong},
		{put("a", "\x1f"), api.ErrLong}, {put("a", "\x7f"), api.ErrLong}, {put("a", "é"), api.ErrLong}, {put("a", huge), api.ErrLong},
	} {
		wantNoLine(t, x.call, x.code)
	}
}

func TestParseOfOtherWords(t *testing.T) {
	wantNoCall(t, api.ErrText,
		"", " ", "  ", "   ", "\n", "\x00", "\xff",
		"a", "a b", "a b c", "lists", "lis", "makes a", "mak a", "makea", "write a", "delete a", "call list", "0", "6",
		"Make a", "MAKE a", "REMOVE a", "Rename a b", "appenD a x", "rEad a", "LIST", "List",
		"make\ta", "make\na", "make\x00a", "make\u00a0a", "list\n", "list\x00", "\xfflist", "rename\ta\tb", "append\ta x",
	)
}

func TestParseOfTooFewWords(t *testing.T) {
	wantNoCall(t, api.ErrText,
		"make", "remove", "rename", "append", "read",
		"rename a", "rename abcde", "append a", "append abcde", "rename ", "append ", "rename A", "append \n",
	)
}

func TestParseOfTooManyWords(t *testing.T) {
	wantNoCall(t, api.ErrText,
		"make a b", "remove a b", "read a b", "make a b c", "remove a b c d", "read A b", "make a \xff",
		"list a", "list a b", "list list", "list a b c",
	)
	wantNoCall(t, api.ErrName, "rename a b c", "rename a b c d")
}

func TestParseOfBlanks(t *testing.T) {
	for _, p := range pairs() {
		wantNoCall(t, api.ErrText, " "+p.line, "  "+p.line)
	}
	wantNoCall(t, api.ErrText,
		"make  a", "remove  a", "read  a", "make   a",
		"make a ", "remove a ", "read a ", "make a  ", "make  ", "remove  ", "read  ",
		"list ", "list  ", "list   ",
	)
	wantNoCall(t, api.ErrName,
		"make ", "remove ", "read ",
		"rename  a b", "rename a  b", "rename a b ", "rename a ", "rename  ", "rename   ", "rename  a",
		"append  a x", "append  ", "append   ", "append  a",
	)
}

func TestParseOfTexts(t *testing.T) {
	for _, text := range []string{"x y", " x", "x ", " ", "  ", "        ", " x y ", "a b c d", "append a"} {
		wantCall(t, "append a "+text, put("a", text))
	}
	wantNoCall(t, api.ErrLong,
		"append a ", "append abcde ", "append a 123456789", "append a x y z w v", "append a          ",
		"append a \n", "append a x\n", "append a \x00", "append a \x1f", "append a \x7f", "append a \x80", "append a \xff", "append a é",
	)
}

func TestParseOfCallsWithACode(t *testing.T) {
	for _, name := range []string{"A", "abcdef", "a1", "a\n", "\na", "a\tb", "é", "\xff", "\x00", "-", strings.Repeat("a", 1<<20)} {
		wantNoCall(t, api.ErrName,
			"make "+name, "remove "+name, "read "+name, "rename "+name+" a", "rename a "+name, "rename "+name+" "+name,
			"append "+name+" x", "append "+name+" ", "append "+name+" 123456789")
	}
}

func TestEveryByteOfALine(t *testing.T) {
	for n := range 256 {
		b := string([]byte{byte(n)})
		if n >= 32 && n <= 126 {
			wantCall(t, "append a "+b, put("a", b))
			wantCall(t, "append a xxx"+b+"xxx", put("a", "xxx"+b+"xxx"))
		} else {
			wantNoCall(t, api.ErrLong, "append a "+b, "append a xxx"+b+"xxx")
		}
		if n >= 'a' && n <= 'z' {
			wantCall(t, "make "+b, create(b))
			wantCall(t, "rename b"+b+" "+b+"a", rename("b"+b, b+"a"))
		} else if b != " " {
			wantNoCall(t, api.ErrName, "make "+b, "read a"+b+"a", "rename b"+b+" a", "rename b "+b+"a")
		}
		wantNoCall(t, api.ErrText, b, b+"make a", "list"+b, "mak"+b+"e a")
		if b != " " {
			wantNoCall(t, api.ErrText, "make"+b+"a", "make"+b+" a", "rename"+b+"a b")
		}
	}
}

// good: calls of every kind that files.Check lets through, with names and
// texts of every length that may be.
func good() []api.Call {
	calls := []api.Call{list()}
	for n := range api.MaxName {
		name := "azkmb"[:n+1]
		calls = append(calls, create(name), remove(name), read(name))
		for m := range api.MaxName {
			calls = append(calls, rename(name, "zyabx"[:m+1]))
		}
		for m := range api.MaxPut {
			for _, text := range []string{"12345678", "        ", "~ x  y! ", " a b c d"} {
				calls = append(calls, put(name, text[:m+1]), put(name, text[api.MaxPut-m-1:]))
			}
		}
	}
	return calls
}

func TestThereAndBack(t *testing.T) {
	lines := map[string]api.Call{}
	for _, c := range good() {
		if code := files.Check(c); code != 0 {
			t.Fatalf("%+v has the code %d", c, code)
		}
		s, code := line.Call(c)
		if code != 0 {
			t.Errorf("Call(%+v) has the code %d", c, code)
		}
		if other, ok := lines[s]; ok && other != c {
			t.Errorf("%+v and %+v have one line, %q", c, other, s)
		}
		lines[s] = c
		wantCall(t, s, c)
	}
}

func TestCallsOfAllShapes(t *testing.T) {
	names := []string{"", "a", "abcde", "abcdef", "A", " ", "a b", "\xff"}
	texts := []string{"", "x", " ", "~ ", "\x1f", "12345678", "123456789", "\n"}
	for kind := -2; kind <= 9; kind++ {
		for _, name := range names {
			for _, to := range names {
				for _, text := range texts {
					c := api.Call{Kind: kind, Name: name, To: to, Text: text}
					if code := files.Check(c); code != 0 {
						wantNoLine(t, c, code)
					} else {
						wantLine(t, c, plain(c))
					}
				}
			}
		}
	}
}

// plain is the line of a good call, as the chapter writes it.
func plain(c api.Call) string {
	return map[int]string{
		api.CMake: "make " + c.Name, api.CRemove: "remove " + c.Name, api.CRead: "read " + c.Name,
		api.CRename: "rename " + c.Name + " " + c.To, api.CAppend: "append " + c.Name + " " + c.Text, api.CList: "list",
	}[c.Kind]
}

// grammar reads lines by other means than the program does.
type grammar struct{ two, three *regexp.Regexp }

func newGrammar() grammar {
	return grammar{regexp.MustCompile(`\A(make|remove|read) ([^ ]*)\z`), regexp.MustCompile(`(?s)\A(rename|append) ([^ ]*) (.*)\z`)}
}

func (g grammar) parse(s string) (api.Call, int) {
	kinds := map[string]int{"make": api.CMake, "remove": api.CRemove, "rename": api.CRename, "append": api.CAppend, "read": api.CRead}
	c := api.Call{}
	if m := g.two.FindStringSubmatch(s); m != nil {
		c = api.Call{Kind: kinds[m[1]], Name: m[2]}
	} else if m := g.three.FindStringSubmatch(s); m != nil && m[1] == "rename" {
		c = rename(m[2], m[3])
	} else if m != nil {
		c = put(m[2], m[3])
	} else if s == "list" {
		c = list()
	} else {
		return api.Call{}, api.ErrText
	}
	if code := files.Check(c); code != 0 {
		return api.Call{}, code
	}
	return c, 0
}

// judge holds Parse against the grammar, and a call that it tells against its line.
func (g grammar) judge(t *testing.T, s string) int {
	t.Helper()
	c, code := line.Parse(s)
	if want, wantCode := g.parse(s); c != want || code != wantCode {
		t.Errorf("Parse(%q) is %+v, %d, want %+v, %d", s, c, code, want, wantCode)
	}
	if code == 0 {
		wantLine(t, c, s)
	}
	return code
}

// each hands on every text of at most n of the pieces, one behind the other.
func each(n int, pieces []string, ahead string, do func(string)) {
	do(ahead)
	if n == 0 {
		return
	}
	for _, p := range pieces {
		each(n-1, pieces, ahead+p, do)
	}
}

func TestLinesOfAllShapes(t *testing.T) {
	g, codes := newGrammar(), map[int]int{}
	judge := func(s string) { codes[g.judge(t, s)]++ }
	each(5, []string{" ", "a", "B", "make", "rename", "append", "list", "\n"}, "", judge)
	for _, word := range []string{"make", "remove", "rename", "append", "read", "list", "Read", "mak"} {
		each(6, []string{" ", "a", "zz", "A", "\xff"}, word, judge)
	}
	for _, code := range []int{0, api.ErrText, api.ErrName, api.ErrLong} {
		if codes[code] == 0 {
			t.Errorf("no line had the code %d", code)
		}
	}
	if len(codes) != 4 {
		t.Errorf("codes that no line has: %v", codes)
	}
}

// dice is a row of numbers that is the same each time.
type dice uint32

func (d *dice) roll(n int) int {
	*d = *d*1664525 + 1013904223
	return int(*d>>16) % n
}

// spoil turns, drops, doubles or adds a byte here and there.
func (d *dice) spoil(b []byte) []byte {
	for range d.roll(4) {
		at := d.roll(len(b) + 1)
		x := []byte{byte(d.roll(256))}
		if d.roll(2) == 0 {
			x[0] = " a\n"[d.roll(3)]
		}
		end := min(len(b), at+d.roll(2))
		if d.roll(3) == 0 {
			x = nil
		}
		b = append(append(append([]byte{}, b[:at]...), x...), b[end:]...)
	}
	return b
}

func TestSpoiledLines(t *testing.T) {
	g, d := newGrammar(), dice(7)
	calls := good()
	for range 100000 {
		s, _ := line.Call(calls[d.roll(len(calls))])
		g.judge(t, string(d.spoil([]byte(s))))
	}
	for range 20000 {
		b := make([]byte, d.roll(30))
		for i := range b {
			b[i] = byte(d.roll(256))
		}
		g.judge(t, string(b))
	}
}

func TestLinesOfAnyLength(t *testing.T) {
	for _, n := range []int{10, 100, 1000, 1 << 16, 1 << 24} {
		letters, blanks := strings.Repeat("a", n), strings.Repeat(" ", n)
		wantNoCall(t, api.ErrText, letters, blanks, blanks+"list", "list"+blanks, "list"+letters, "list "+letters,
			"make"+letters, "make a"+blanks, "make"+blanks+"a", "read a "+letters, "rename "+letters, "append "+letters, strings.Repeat("list ", n))
		wantNoCall(t, api.ErrName, "make "+letters, "remove "+letters, "read "+letters, "rename a "+letters, "rename a "+blanks, "rename"+blanks, "append "+letters+" x", "append"+blanks)
		wantNoCall(t, api.ErrLong, "append a "+letters, "append a "+blanks, "append a x"+blanks)
	}
}

func TestAnswer(t *testing.T) {
	for _, x := range []struct {
		code int
		text string
		want string
	}{
		{0, "", "ok"}, {0, "a b", "ok a b"}, {0, " ", "ok  "}, {0, " x ", "ok  x "}, {0, "5", "ok 5"}, {0, "ok", "ok ok"},
		{api.ErrKind, "", "no 1"}, {api.ErrThere, "", "no 5"}, {api.ErrThere, "x", "no 5 x"}, {api.ErrLine, "", "no 14"}, {99, "a b", "no 99 a b"}, {100, "", "no 100"},
		{-1, "", "no -1"}, {-1, "x", "no -1 x"}, {-14, " ", "no -14  "},
		{math.MaxInt, "", "no 9223372036854775807"}, {math.MaxInt, "x y", "no 9223372036854775807 x y"},
		{math.MinInt, "", "no -9223372036854775808"}, {math.MinInt, "x y", "no -9223372036854775808 x y"},
		{0, "\x00\xff\n", "ok \x00\xff\n"}, {6, "\n\xc3", "no 6 \n\xc3"}, {-3, "é", "no -3 é"},
	} {
		if got := line.Answer(api.Answer{Code: x.code, Text: x.text}); got != x.want {
			t.Errorf("Answer of %d, %q is %q, want %q", x.code, x.text, got, x.want)
		}
	}
}

func TestAnswerOfAnyText(t *testing.T) {
	texts := []string{"", strings.Repeat("a ", 1<<20)}
	for n := range 256 {
		texts = append(texts, string([]byte{byte(n)}), string([]byte{'x', byte(n), byte(255 - n)}))
	}
	for _, code := range []int{0, 1, -1, 7, math.MinInt, math.MaxInt} {
		head := "ok"
		if code != 0 {
			head = "no " + strconv.Itoa(code)
		}
		for _, text := range texts {
			want := head
			if text != "" {
				want = head + " " + text
			}
			if got := line.Answer(api.Answer{Code: code, Text: text}); got != want {
				t.Errorf("Answer of %d, %.20q is %.60q, want %.60q", code, text, got, want)
			}
		}
	}
}

// borrowed is a text whose bytes can be turned afterwards.
func borrowed(b []byte) string { return unsafe.String(unsafe.SliceData(b), len(b)) }

func TestAnswersAreNewMemory(t *testing.T) {
	for _, p := range pairs() {
		b := []byte(p.line)
		c, code := line.Parse(borrowed(b))
		clear(b)
		if c != p.call || code != 0 {
			t.Errorf("the call of %q hangs on the line's memory: %+v, %d", p.line, c, code)
		}
		name, to, text := []byte(p.call.Name), []byte(p.call.To), []byte(p.call.Text)
		s, _ := line.Call(api.Call{Kind: p.call.Kind, Name: borrowed(name), To: borrowed(to), Text: borrowed(text)})
		clear(name)
		clear(to)
		clear(text)
		if s != p.line {
			t.Errorf("the line %q hangs on the call's memory: %q", p.line, s)
		}
	}
	text := []byte("x y")
	s := line.Answer(api.Answer{Text: borrowed(text)})
	clear(text)
	if s != "ok x y" {
		t.Errorf("the answer's line hangs on its memory: %q", s)
	}
}

func TestNoTwoTextsShareMemory(t *testing.T) {
	c, _ := line.Parse("rename abcde abcde")
	d, _ := line.Parse("rename abcde abcde")
	texts := []string{c.Name, c.To, d.Name, d.To}
	for i, s := range texts {
		for _, u := range texts[:i] {
			if unsafe.StringData(s) == unsafe.StringData(u) {
				t.Error("two texts share memory")
			}
		}
	}
}

func TestWhatIsHandedInStays(t *testing.T) {
	for _, p := range pairs() {
		b := []byte(p.line)
		line.Parse(borrowed(b))
		if string(b) != p.line {
			t.Errorf("the line was changed: %q, want %q", b, p.line)
		}
		name, to, text := []byte(p.call.Name), []byte(p.call.To), []byte(p.call.Text)
		line.Call(api.Call{Kind: p.call.Kind, Name: borrowed(name), To: borrowed(to), Text: borrowed(text)})
		line.Answer(api.Answer{Text: borrowed(text)})
		if string(name) != p.call.Name || string(to) != p.call.To || string(text) != p.call.Text {
			t.Errorf("the call was changed: %q, %q, %q, want %+v", name, to, text, p.call)
		}
	}
}

// TestNothingIsKept: what is told the second time, behind others, is what was told the first time.
func TestNothingIsKept(t *testing.T) {
	for range 2 {
		for _, p := range pairs() {
			wantNoCall(t, api.ErrText, "make a b")
			wantCall(t, p.line, p.call)
			wantNoLine(t, api.Call{Kind: api.CList, Name: "a"}, api.ErrForm)
			wantLine(t, p.call, p.line)
		}
	}
}
