package desk_test

import (
	"fmt"
	"math/big"
	"regexp"
	"slices"
	"strconv"
	"strings"
	"testing"
	"unsafe"

	"postilion/api"
	"postilion/codec"
	"postilion/desk"
	"postilion/line"
	"postilion/story"
	"postilion/world"
)

// plain is a desk told in other words: lines are patterns, numbers of any size are
// read and then held against their bounds.
type plain struct{ w *world.World }

var (
	callLine = regexp.MustCompile(`(?s)\Acall (0|-?[1-9][0-9]*) (.*)\z`)
	noLine   = regexp.MustCompile(`\A *\z`)
	bareLine = regexp.MustCompile(`\A *(crash|calm|packets|log) *\z`)
	oneLine  = regexp.MustCompile(`\A *(send|deliver|lose|double|done|then) +(0|-?[1-9][0-9]*) *\z`)
	tearLine = regexp.MustCompile(`\A *tear +(0|-?[1-9][0-9]*) +(0|-?[1-9][0-9]*) *\z`)
)

func bounded(s string) (int, bool) {
	n, ok := new(big.Int).SetString(s, 10)
	if !ok || !n.IsInt64() {
		return 0, false
	}
	return int(n.Int64()), true
}

func (p plain) tell(s string) string {
	if noLine.MatchString(s) {
		return ""
	}
	if m := callLine.FindStringSubmatch(s); m != nil {
		if n, ok := bounded(m[1]); ok {
			return p.call(n, m[2])
		}
	}
	if m := bareLine.FindStringSubmatch(s); m != nil {
		return p.bare(m[1])
	}
	if m := oneLine.FindStringSubmatch(s); m != nil {
		if n, ok := bounded(m[2]); ok {
			return p.one(m[1], n)
		}
	}
	if m := tearLine.FindStringSubmatch(s); m != nil {
		n, ok := bounded(m[1])
		k, too := bounded(m[2])
		if ok && too {
			return p.step(api.Step{Kind: api.STear, N: n, Keep: k})
		}
	}
	return "what\n"
}

func (p plain) call(n int, s string) string {
	c, code := line.Parse(s)
	if code != 0 {
		return fmt.Sprintf("no %d\n", code)
	}
	return p.step(api.Step{Kind: api.SCall, N: n, Call: c})
}

func (p plain) step(x api.Step) string {
	if code := p.w.Step(x); code != 0 {
		return fmt.Sprintf("no %d\n", code)
	}
	return "ok\n"
}

func (p plain) bare(word string) string {
	switch word {
	case "crash":
		return p.step(api.Step{Kind: api.SCrash})
	case "calm":
		return fmt.Sprintf("calm %d\n", p.w.Calm())
	case "packets":
		out := ""
		for _, m := range p.w.Packets() {
			if s, _ := line.Call(m.Call); m.Reply {
				out += fmt.Sprintf("reply %d %d %s: %s\n", m.Client, m.No, s, line.Answer(m.Answer))
			} else {
				out += fmt.Sprintf("call %d %d %s\n", m.Client, m.No, s)
			}
		}
		return out + "end\n"
	}
	all, _ := codec.All(p.w.Log())
	return records(all)
}

func (p plain) one(word string, n int) string {
	switch word {
	case "done":
		if n < 0 || n >= api.Clients {
			return "no 9\n"
		}
		return records(p.w.Client(n).Done())
	case "then":
		text, ok := story.Of(p.w.Log()).Text(n)
		if !ok {
			return "no 9\n"
		}
		return text + "end\n"
	}
	kinds := map[string]int{"send": api.SSend, "deliver": api.SDeliver, "lose": api.SLose, "double": api.SDouble}
	return p.step(api.Step{Kind: kinds[word], N: n})
}

func records(all []api.Record) string {
	out := ""
	for _, r := range all {
		s, _ := line.Call(r.Call)
		out += fmt.Sprintf("%d %d %s: %s\n", r.Client, r.No, s, line.Answer(r.Answer))
	}
	return out + "end\n"
}

// pair is a desk and a plain one that are told the same lines.
type pair struct {
	d *desk.Desk
	p plain
}

func newPair() pair { return pair{desk.New(), plain{world.New()}} }

// want tells what both told.
func (x pair) want(t *testing.T, lines []string) string {
	t.Helper()
	want := ""
	for _, s := range lines {
		want += x.p.tell(s)
	}
	wantDo(t, x.d, lines, want)
	if t.Failed() {
		t.FailNow()
	}
	return want
}

// dice is a row of numbers that is the same each time.
type dice uint32

func (d *dice) roll(n int) int {
	*d = *d*1664525 + 1013904223
	return int(*d>>16) % n
}

func (d *dice) of(words ...string) string { return words[d.roll(len(words))] }

func (d *dice) name() string { return d.of("a", "b", "c", "dd", "eeeee", "f", "g") }

func (d *dice) number() string {
	if d.roll(12) > 0 {
		return strconv.Itoa(d.roll(4))
	}
	return d.of(append(good(), bad()[:30]...)...)
}

func (d *dice) call() string {
	switch d.roll(12) {
	case 0, 1, 2:
		return "make " + d.name()
	case 3:
		return "remove " + d.name()
	case 4:
		return "rename " + d.name() + " " + d.name()
	case 5, 6, 7:
		return "append " + d.name() + " " + d.of(" ", "x", "x y", " x ", "12345678", "=", ":", "ok")
	case 8:
		return "read " + d.name()
	case 9:
		return "list"
	}
	return d.of("", " ", "make", "make A", "lists", "list ", " list", "append a 123456789", "append a ", "rename a  b", "what")
}

// line: calls that are sent and come, most of the time.
func (d *dice) line() string {
	switch d.roll(16) {
	case 0, 1, 2:
		return "call " + d.number() + " " + d.call()
	case 3, 4, 5:
		return "send " + d.number()
	case 6, 7, 8:
		return "deliver " + d.number()
	case 9:
		return "tear " + d.number() + " " + strconv.Itoa(d.roll(30)-3)
	case 10:
		return d.of("lose ", "double ", "double ") + d.number()
	case 11:
		return d.of("crash", "calm", "packets", "log", "packets", "log")
	case 12:
		return d.of("done ", "then ") + d.number()
	case 13:
		return d.of("", " ", "what", "call 0", "send", "tear 0", "calm 0", " call 0 list", "then 0 0")
	case 14:
		return d.spoiled(d.of("call 0 make a", "send 1", "tear 0 9", "calm", "then 1", "packets"))
	}
	return d.bytes(d.roll(12))
}

// spoiled: a byte is put in, taken out or turned.
func (d *dice) spoiled(s string) string {
	at, b := d.roll(len(s)), d.bytes(1)
	switch d.roll(3) {
	case 0:
		return s[:at] + b + s[at:]
	case 1:
		return s[:at] + s[at+1:]
	}
	return s[:at] + b + s[at+1:]
}

// bytes has no newlines, because a line with one is refused; half of them are
// such as stand in lines.
func (d *dice) bytes(n int) string {
	out := make([]byte, n)
	for i := range out {
		const usual = "  01-calstendorh"
		if out[i] = usual[d.roll(len(usual))]; d.roll(2) == 0 {
			out[i] = byte(d.roll(256))
		}
		if out[i] == '\n' {
			out[i] = ' '
		}
	}
	return string(out)
}

func (d *dice) lines(n int) []string {
	out := make([]string, n)
	for i := range out {
		out[i] = d.line()
	}
	return out
}

// TestDrawnSessions asks at its end whether all came up that a line may tell.
func TestDrawnSessions(t *testing.T) {
	var all strings.Builder
	for seed := range 20 {
		d, x := dice(seed*7919), newPair()
		for range 80 {
			all.WriteString(x.want(t, d.lines(d.roll(api.MaxLines+1))))
		}
		all.WriteString(x.want(t, []string{"packets", "log", "done 0", "done 1", "done 2", "calm", "packets", "log", "done 0", "done 1", "done 2"}))
	}
	for _, s := range []string{
		"ok", "what", "end", "no 2", "no 4", "no 6", "no 7", "no 9", "no 10", "no 11", "no 12", "calm 0", "calm 1", "calm 3",
		"call 0 1 [^:]*", "reply 1 .*: ok", "reply 2 .*: ok .*", "reply 0 .*: no 5", "1 .*: ok", "2 .*: ok .*", "0 .*: no 6", "a=", "b=.+",
	} {
		if !regexp.MustCompile(`(?m)^` + s + `$`).MatchString(all.String()) {
			t.Errorf("no line told %q", s)
		}
	}
}

// TestAllShortLines: every line of up to five of these pieces.
func TestAllShortLines(t *testing.T) {
	pieces := []string{" ", "call", "send", "tear", "calm", "then", "0", "1", "-", "list"}
	lines := []string{""}
	for from, size := 0, 0; size < 5; size++ {
		to := len(lines)
		for _, s := range lines[from:to] {
			for _, p := range pieces {
				lines = append(lines, s+p)
			}
		}
		from = to
	}
	for some := range slices.Chunk(lines, api.MaxLines) {
		newPair().want(t, some)
	}
}

// TestSpacedLines: every row of up to four words with one or two blanks between.
func TestSpacedLines(t *testing.T) {
	words := []string{"call", "send", "deliver", "lose", "double", "crash", "tear", "calm", "packets", "done", "log", "then", "0", "-1", "01", "list"}
	var lines []string
	for _, a := range words {
		for _, b := range words {
			for _, gap := range []string{" ", "  "} {
				lines = append(lines, a, a+gap+b, gap+a+gap+b, a+gap+b+gap)
				for _, c := range words {
					lines = append(lines, a+gap+b+" "+c, a+gap+b+"  "+c, " "+a+gap+b+gap+c, a+gap+b+" "+c+gap+"0")
				}
			}
		}
	}
	for some := range slices.Chunk(lines, api.MaxLines) {
		newPair().want(t, append([]string{}, some...))
	}
}

func TestAnyBytes(t *testing.T) {
	d := dice(1)
	for range 400 {
		lines := make([]string, d.roll(api.MaxLines))
		for i := range lines {
			lines[i] = d.bytes(d.roll(40))
		}
		newPair().want(t, lines)
	}
}

// TestGreatLengths: long lines end as short ones do.
func TestGreatLengths(t *testing.T) {
	const size = 1 << 18
	for _, piece := range []string{" ", "x", "0", "1", "-", "call ", "calm ", " 0", "send 0 ", "\xff", "\x00", "\t", "é", "list ", "call 0 list"} {
		long := strings.Repeat(piece, size/len(piece))
		for _, s := range []string{long, "call " + long, "call 0 " + long, "call 0 list" + long, "call 0 append a " + long, "send " + long, "send 0" + long, "tear 0 " + long, "tear 0 0 " + long, "calm" + long, long + "calm", long + " calm ", "then 0 " + long} {
			newPair().want(t, []string{s, "packets"})
		}
	}
	huge := slices.Repeat([]string{strings.Repeat("x", size)}, api.MaxLines)
	wantDo(t, desk.New(), huge, strings.Repeat("what\n", api.MaxLines))
	huge[api.MaxLines-1] += "\n"
	wantFault(t, desk.New(), huge, api.ErrLine, api.MaxLines-1)
}

// do is Do of a desk that has no fault.
func do(t *testing.T, d *desk.Desk, lines []string) string {
	t.Helper()
	s, f := d.Do(lines)
	if f != (api.Fault{}) {
		t.Fatalf("Do(%.300q): %+v", lines, f)
	}
	return s
}

// alike: two desks tell the same, whatever they are asked, and go on alike.
func alike(t *testing.T, what string, one, other *desk.Desk) {
	t.Helper()
	next := []string{"call 0 list", "call 1 list", "call 2 list", "send 0", "send 1", "deliver 1", "crash", "calm"}
	if a, b := asked(t, one), asked(t, other); a != b {
		t.Fatalf("%s: one tells %q, the other %q", what, a, b)
	}
	if a, b := do(t, one, next), do(t, other, next); a != b {
		t.Fatalf("%s: then one tells %q, the other %q", what, a, b)
	}
	if a, b := asked(t, one), asked(t, other); a != b {
		t.Fatalf("%s: at last one tells %q, the other %q", what, a, b)
	}
}

// TestTwoDoAreOne: what two Do tell one behind the other one Do of both tells, cut
// at every place.
func TestTwoDoAreOne(t *testing.T) {
	for seed := range 6 {
		d := dice(seed*104729 + 1)
		ahead, lines := d.lines(d.roll(100)), d.lines(api.MaxLines-30*d.roll(3))
		for cut := range len(lines) + 1 {
			one, two := desk.New(), desk.New()
			do(t, one, ahead)
			do(t, two, ahead)
			whole := do(t, one, lines)
			if s := do(t, two, lines[:cut]) + do(t, two, lines[cut:]); s != whole {
				t.Fatalf("%q cut at %d tells %q, whole %q", lines, cut, s, whole)
			}
			alike(t, fmt.Sprintf("%q cut at %d", lines, cut), one, two)
		}
	}
}

// TestManyDoAreOne: as many Do as there are lines.
func TestManyDoAreOne(t *testing.T) {
	for seed := range 40 {
		d := dice(seed*15485863 + 3)
		lines := d.lines(api.MaxLines)
		one, many, told := desk.New(), desk.New(), ""
		for _, s := range lines {
			told += do(t, many, []string{s})
		}
		if whole := do(t, one, lines); whole != told {
			t.Fatalf("%q tells %q line by line, %q as a whole", lines, told, whole)
		}
		alike(t, fmt.Sprintf("%q", lines), one, many)
	}
}

// TestTheSecondIsRefused: then the first one stands; and of one Do of both nothing does.
func TestTheSecondIsRefused(t *testing.T) {
	d := dice(77)
	lines := d.lines(60)
	for cut := range len(lines) {
		for _, at := range []int{cut, (cut + len(lines)) / 2, len(lines) - 1} {
			broken := slices.Clone(lines)
			broken[at] += "\n"
			first, two, one := desk.New(), desk.New(), desk.New()
			if a, b := do(t, first, lines[:cut]), do(t, two, broken[:cut]); a != b {
				t.Fatalf("%q tells %q and %q", lines[:cut], a, b)
			}
			wantFault(t, two, broken[cut:], api.ErrLine, at-cut)
			alike(t, fmt.Sprintf("%q cut at %d", broken, cut), first, two)
			wantFault(t, one, broken, api.ErrLine, at)
			alike(t, fmt.Sprintf("%q", broken), desk.New(), one)
		}
		first, two := desk.New(), desk.New()
		if a, b := do(t, first, lines[:cut]), do(t, two, lines[:cut]); a != b {
			t.Fatalf("%q tells %q and %q", lines[:cut], a, b)
		}
		wantFault(t, two, d.lines(api.MaxLines+1), api.ErrMany, -1)
		alike(t, fmt.Sprintf("%q, and then too many", lines[:cut]), first, two)
	}
}

// TestTheFirstIsRefused: then the second one is told as if there had been none.
func TestTheFirstIsRefused(t *testing.T) {
	d := dice(78)
	lines := d.lines(api.MaxLines)
	one, two := desk.New(), desk.New()
	wantFault(t, two, append(slices.Clone(lines[1:]), "\n"), api.ErrLine, api.MaxLines-1)
	wantFault(t, two, append(slices.Clone(lines), "calm"), api.ErrMany, -1)
	if a, b := do(t, one, lines), do(t, two, lines); a != b {
		t.Errorf("%q tells %q and %q", lines, a, b)
	}
	alike(t, "the first is refused", one, two)
}

// TestTwoDesks: each tells what it would tell alone, however their lines are mixed.
func TestTwoDesks(t *testing.T) {
	for seed := range 20 {
		d := dice(seed*611953 + 5)
		one, other := newPair(), newPair()
		for range 60 {
			if lines := d.lines(d.roll(12)); d.roll(2) == 0 {
				one.want(t, lines)
			} else {
				other.want(t, lines)
			}
		}
		one.want(t, []string{"packets", "log", "done 0", "done 1", "done 2"})
		other.want(t, []string{"packets", "log", "done 0", "done 1", "done 2"})
	}
	one, other := desk.New(), desk.New()
	wantDo(t, one, []string{"call 0 make a", "calm", "log"}, told("ok", "calm 1", "0 1 make a: ok", "end"))
	wantDo(t, other, []string{"log", "done 0", "call 0 make a", "packets", "crash", "calm"}, told("end", "end", "ok", "end", "ok", "calm 1"))
	wantDo(t, one, []string{"log", "done 0"}, told("0 1 make a: ok", "end", "0 1 make a: ok", "end"))
}

// TestTheSameTwice: what is told hangs on the lines alone.
func TestTheSameTwice(t *testing.T) {
	for seed := range 20 {
		d, one, two := dice(seed*13+2), desk.New(), desk.New()
		for range 10 {
			lines := d.lines(api.MaxLines)
			if a, b := do(t, one, lines), do(t, two, lines); a != b {
				t.Fatalf("%q tells %q and %q", lines, a, b)
			}
		}
		alike(t, "twice", one, two)
	}
}

func borrowed(b []byte) string { return unsafe.String(unsafe.SliceData(b), len(b)) }

// TestLinesAreNeitherChangedNorKept: their bytes are turned once the Do is over.
func TestLinesAreNeitherChangedNorKept(t *testing.T) {
	d, mine := desk.New(), [][]byte{}
	lines := []string{"call 0 make name", "calm", "call 0 append name text", "call 1 read name", "call 2 rename name other", "send 0", "deliver 0", "send 1", "packets"}
	lent := make([]string, len(lines))
	for i, s := range lines {
		mine = append(mine, []byte(s))
		lent[i] = borrowed(mine[i])
	}
	first := do(t, d, lent)
	if !slices.Equal(lent, lines) {
		t.Errorf("the lines were %q and are %q", lines, lent)
	}
	for i, b := range mine {
		for k := range b {
			b[k] = '?'
		}
		lent[i] = "?"
	}
	other := desk.New()
	if again := do(t, other, lines); again != first {
		t.Errorf("what was told is %q, and again %q", first, again)
	}
	alike(t, "lines that were lent", other, d)
}

// TestWhatWasToldStays: it is new memory, which no later Do turns, and which the
// desk does not read any more.
func TestWhatWasToldStays(t *testing.T) {
	d, other := desk.New(), desk.New()
	lines := []string{"call 0 make name", "calm", "call 0 append name text", "send 0", "packets", "log", "done 0", "then 1"}
	first := do(t, d, lines)
	kept := strings.Clone(first)
	for range 5 {
		do(t, d, []string{"packets", "log", "done 0", "done 1", "what", "what", "what", "what"})
		do(t, d, nil)
		wantFault(t, d, []string{"\n"}, api.ErrLine, 0)
	}
	if first != kept {
		t.Errorf("what was told was %q and is %q", kept, first)
	}
	for i := range unsafe.Slice(unsafe.StringData(first), len(first)) {
		unsafe.Slice(unsafe.StringData(first), len(first))[i] = '?'
	}
	if s := do(t, other, lines); s != kept {
		t.Errorf("another desk tells %q, want %q", s, kept)
	}
	alike(t, "told and turned", other, d)
}

// TestBehindTheLength: what lies there in a list's memory is neither read nor written.
func TestBehindTheLength(t *testing.T) {
	all := slices.Repeat([]string{"calm"}, 2*api.MaxLines)
	all[3], all[200] = "\n", "x\n"
	was := slices.Clone(all)
	wantDo(t, desk.New(), all[:3], told("calm 0", "calm 0", "calm 0"))
	wantDo(t, desk.New(), all[4:4+api.MaxLines], strings.Repeat("calm 0\n", api.MaxLines))
	wantDo(t, desk.New(), all[:0], "")
	wantFault(t, desk.New(), all[:4], api.ErrLine, 3)
	if !slices.Equal(all, was) {
		t.Errorf("the lines were %q and are %q", was, all)
	}
}
