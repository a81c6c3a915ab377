package desk_test

import (
	"slices"
	"strconv"
	"strings"
	"testing"

	"postilion/api"
	"postilion/desk"
)

// told: what is told of these things, one behind the other.
func told(things ...string) string {
	out := ""
	for _, s := range things {
		out += s + "\n"
	}
	return out
}

func wantDo(t *testing.T, d *desk.Desk, lines []string, want string) {
	t.Helper()
	s, f := d.Do(lines)
	if s != want || f != (api.Fault{}) {
		t.Errorf("Do(%.300q) is %q, %+v, want %q and no fault", lines, s, f, want)
	}
}

func wantFault(t *testing.T, d *desk.Desk, lines []string, code, at int) {
	t.Helper()
	s, f := d.Do(lines)
	if s != "" || f != (api.Fault{Code: code, At: at}) {
		t.Errorf("Do(%.300q) is %q, %+v, want nothing told and code %d at %d", lines, s, f, code, at)
	}
}

// asked tells all that can be asked of a desk without changing anything.
func asked(t *testing.T, d *desk.Desk) string {
	t.Helper()
	lines := []string{"packets", "log"}
	for n := range api.Clients {
		lines = append(lines, "done "+strconv.Itoa(n))
	}
	for n := range 100 {
		lines = append(lines, "then "+strconv.Itoa(n))
	}
	s, f := d.Do(lines)
	if f != (api.Fault{}) {
		t.Fatalf("asked: %+v", f)
	}
	return s
}

// talk is lines and what each of them tells, by turns; things told are parted by a
// stroke, nothing is told where there is none.
type talk []string

func (x talk) lines() []string {
	var out []string
	for i := 0; i < len(x); i += 2 {
		out = append(out, x[i])
	}
	return out
}

func (x talk) told() []string {
	var out []string
	for i := 1; i < len(x); i += 2 {
		if x[i] == "" {
			out = append(out, "")
		} else {
			out = append(out, told(strings.Split(x[i], "|")...))
		}
	}
	return out
}

// wantTalk holds the lines against what they tell, each in a Do of its own, and
// then all of them in one Do of another desk.
func wantTalk(t *testing.T, x talk) {
	t.Helper()
	alone, together := desk.New(), desk.New()
	lines, wants := x.lines(), x.told()
	for i, s := range lines {
		wantDo(t, alone, []string{s}, wants[i])
	}
	wantDo(t, together, lines, strings.Join(wants, ""))
	if one, other := asked(t, alone), asked(t, together); one != other {
		t.Errorf("%q: in many Do it comes to %q, in one to %q", lines, one, other)
	}
}

// wantEach: of each line alone this is told, and nothing comes of it; neither
// where nothing was done yet, nor where there is something to tell.
func wantEach(t *testing.T, want string, lines ...string) {
	t.Helper()
	for _, d := range []*desk.Desk{desk.New(), busy(t)} {
		had := asked(t, d)
		for _, s := range lines {
			wantDo(t, d, []string{s}, want)
		}
		if has := asked(t, d); has != had {
			t.Errorf("%.300q: it was %q and is %q", lines, had, has)
		}
	}
}

// busy: a desk with records, packets of both kinds, and a call that is open.
func busy(t *testing.T) *desk.Desk {
	t.Helper()
	d := desk.New()
	wantDo(t, d, []string{"call 0 make a", "call 1 append a x y", "calm", "call 1 read a", "send 1", "deliver 0", "call 2 make b", "send 2"},
		told("ok", "ok", "calm 1", "ok", "ok", "ok", "ok", "ok"))
	return d
}

func TestNew(t *testing.T) {
	d := desk.New()
	if d == nil {
		t.Fatal("New is nil")
	}
	wantTalk(t, talk{
		"packets", "end", "log", "end", "then 0", "end", "then 1", "no 9",
		"done 0", "end", "done 1", "end", "done 2", "end", "calm", "calm 0",
		"send 0", "no 6", "send 1", "no 6", "send 2", "no 6", "deliver 0", "no 6",
	})
	if desk.New() == d {
		t.Error("New is the same one twice")
	}
}

func TestNoLines(t *testing.T) {
	for _, d := range []*desk.Desk{desk.New(), busy(t)} {
		had := asked(t, d)
		wantDo(t, d, nil, "")
		wantDo(t, d, []string{}, "")
		wantDo(t, d, make([]string, 0, 9), "")
		if has := asked(t, d); has != had {
			t.Errorf("it was %q and is %q", had, has)
		}
	}
}

// TestAsWritten is a session with each line of the table.
func TestAsWritten(t *testing.T) {
	wantTalk(t, talk{
		"call 0 make a", "ok",
		"packets", "end",
		"send 0", "ok",
		"packets", "call 0 1 make a|end",
		"double 0", "ok",
		"packets", "call 0 1 make a|call 0 1 make a|end",
		"deliver 0", "ok",
		"packets", "call 0 1 make a|reply 0 1 make a: ok|end",
		"log", "0 1 make a: ok|end",
		"done 0", "end",
		"lose 1", "ok",
		"packets", "call 0 1 make a|end",
		"tear 0 3", "ok",
		"packets", "end",
		"log", "0 1 make a: ok|end",
		"crash", "ok",
		"send 0", "ok",
		"deliver 0", "ok",
		"deliver 0", "ok",
		"packets", "end",
		"done 0", "0 1 make a: ok|end",
		"then 0", "end",
		"then 1", "a=|end",
		"then 2", "no 9",
		"calm", "calm 0",
	})
}

func TestPackets(t *testing.T) {
	wantTalk(t, talk{
		"packets", "end",
		"call 0 make b", "ok", "call 1 append b x  y ", "ok", "call 2 list", "ok",
		"packets", "end",
		"send 2", "ok", "send 0", "ok", "send 1", "ok", "send 2", "ok",
		"packets", "call 2 1 list|call 0 1 make b|call 1 1 append b x  y |call 2 1 list|end",
		"deliver 0", "ok",
		"packets", "call 0 1 make b|call 1 1 append b x  y |call 2 1 list|reply 2 1 list: ok|end",
		"deliver 1", "ok",
		"packets", "call 0 1 make b|call 2 1 list|reply 2 1 list: ok|reply 1 1 append b x  y : no 6|end",
		"deliver 0", "ok", "deliver 0", "ok",
		"packets", "reply 2 1 list: ok|reply 1 1 append b x  y : no 6|reply 0 1 make b: ok|reply 2 1 list: ok b|end",
		"deliver -1", "ok", // 2^64 - 1 is 3 by 4
		"packets", "reply 2 1 list: ok|reply 1 1 append b x  y : no 6|reply 0 1 make b: ok|end",
		"done 2", "2 1 list: ok b|end",
		"call 2 rename b c", "ok", "send 2", "ok", "deliver 0", "ok", "deliver 2", "ok",
		"packets", "reply 1 1 append b x  y : no 6|reply 0 1 make b: ok|reply 2 2 rename b c: ok|end",
	})
}

func TestDone(t *testing.T) {
	wantTalk(t, talk{
		"done 0", "end", "done 1", "end", "done 2", "end",
		"call 1 make a", "ok", "done 1", "end", "send 1", "ok", "done 1", "end", "deliver 0", "ok", "done 1", "end", "deliver 0", "ok",
		"done 1", "1 1 make a: ok|end", "done 0", "end",
		"call 1 make a", "ok", "calm", "calm 1",
		"call 1 append a 1 2 ", "ok", "calm", "calm 1",
		"call 1 read a", "ok", "calm", "calm 1",
		"call 1 rename a b", "ok", "calm", "calm 1",
		"call 1 list", "ok", "calm", "calm 1",
		"call 1 read a", "ok", "calm", "calm 1",
		"call 1 remove b", "ok", "calm", "calm 1",
		"call 1 list", "ok", "calm", "calm 1",
		"done 1", "1 1 make a: ok|1 2 make a: no 5|1 3 append a 1 2 : ok|1 4 read a: ok 1 2 |1 5 rename a b: ok|1 6 list: ok b|1 7 read a: no 6|1 8 remove b: ok|1 9 list: ok|end",
		"done 0", "end", "done 2", "end",
		"log", "1 1 make a: ok|1 2 make a: no 5|1 3 append a 1 2 : ok|1 5 rename a b: ok|1 8 remove b: ok|end",
	})
}

func TestLogAndThen(t *testing.T) {
	wantTalk(t, talk{
		"log", "end", "then 0", "end", "then 1", "no 9", "then -1", "no 9",
		"call 0 make b", "ok", "log", "end", "then 1", "no 9", "calm", "calm 1",
		"log", "0 1 make b: ok|end", "then 0", "end", "then 1", "b=|end", "then 2", "no 9",
		"call 0 append b = x", "ok", "call 1 make a", "ok", "call 2 remove zz", "ok", "calm", "calm 1",
		"log", "0 1 make b: ok|0 2 append b = x: ok|1 1 make a: ok|2 1 remove zz: no 6|end",
		"then 0", "end",
		"then 1", "b=|end",
		"then 2", "b== x|end",
		"then 3", "a=|b== x|end",
		"then 4", "a=|b== x|end",
		"then 5", "no 9",
		"then -1", "no 9", "then -4", "no 9", "then 4294967296", "no 9",
		"then 9223372036854775807", "no 9", "then -9223372036854775808", "no 9",
		"call 2 read b", "ok", "calm", "calm 1",
		"then 5", "no 9",
	})
}

func TestCalm(t *testing.T) {
	wantTalk(t, talk{
		"calm", "calm 0", "calm", "calm 0",
		"call 0 make a", "ok", "calm", "calm 1", "calm", "calm 0",
		"call 0 list", "ok", "call 1 list", "ok", "call 2 list", "ok", "calm", "calm 1",
		"call 2 list", "ok", "send 2", "ok", "calm", "calm 0", // it was on its way already
		"call 1 list", "ok", "send 1", "ok", "lose 0", "ok", "calm", "calm 1",
		"done 1", "1 1 list: ok a|1 2 list: ok a|end", "packets", "end",
	})
}

// full: a desk in whose log only 5 bytes are left, and no files.
func full(t *testing.T) *desk.Desk {
	t.Helper()
	d := desk.New()
	for range 95 {
		wantDo(t, d, []string{"call 0 append abcde 12345678", "calm"}, told("ok", "calm 1"))
	}
	return d
}

// TestCalmWithAFullLog: it gives up behind three times; what only asks is answered.
func TestCalmWithAFullLog(t *testing.T) {
	d := full(t)
	wantDo(t, d, []string{"call 0 make a", "calm", "calm", "call 1 list", "calm", "done 1", "call 0 list"},
		told("ok", "calm 3", "calm 3", "ok", "calm 3", "1 1 list: ok", "end", "no 11"))
	wantDo(t, d, []string{"send 0", "tear 0 99", "packets", "send 0", "deliver 0", "packets"},
		told("ok", "no 7", "end", "ok", "ok", "end"))
	wantDo(t, d, []string{"then 95", "then 96"}, told("end", "no 9"))
	s, _ := d.Do([]string{"log"})
	if want := 96; strings.Count(s, "\n") != want || !strings.HasSuffix(s, "0 95 append abcde 12345678: no 6\nend\n") {
		t.Errorf("the log is %q, want %d lines", s, want)
	}
}

func TestStepsOfPackets(t *testing.T) {
	for _, s := range []string{"deliver 0", "lose 0", "double 0", "tear 0 0", "deliver 1", "lose -1", "double 9223372036854775807", "tear -1 99"} {
		wantTalk(t, talk{s, "no 6", "call 0 list", "ok", s, "no 6", "packets", "end"})
		wantTalk(t, talk{"call 0 list", "ok", "send 0", "ok", s, "ok"})
	}
	three := talk{
		"call 0 list", "ok", "call 1 list", "ok", "call 2 list", "ok",
		"send 0", "ok", "send 1", "ok", "send 2", "ok",
	}
	for n, left := range map[string]string{
		"0": "call 1 1 list|call 2 1 list|end", "1": "call 0 1 list|call 2 1 list|end", "2": "call 0 1 list|call 1 1 list|end",
		"3": "call 1 1 list|call 2 1 list|end", "-1": "call 1 1 list|call 2 1 list|end", "-2": "call 0 1 list|call 1 1 list|end",
		"9223372036854775807": "call 0 1 list|call 2 1 list|end", "-9223372036854775808": "call 0 1 list|call 1 1 list|end",
	} {
		wantTalk(t, slices.Concat(three, talk{"lose " + n, "ok", "packets", left}))
		wantTalk(t, slices.Concat(three, talk{"tear " + n + " 9", "ok", "packets", left}))
	}
	wantTalk(t, slices.Concat(three, talk{"double 1", "ok", "packets", "call 0 1 list|call 1 1 list|call 2 1 list|call 1 1 list|end"}))
	wantTalk(t, slices.Concat(three, talk{"deliver 1", "ok", "packets", "call 0 1 list|call 2 1 list|reply 1 1 list: ok|end"}))
}

// TestMailIsFull: there is room for MaxMail packets and no more.
func TestMailIsFull(t *testing.T) {
	d := desk.New()
	wantDo(t, d, []string{"call 0 list", "send 0"}, told("ok", "ok"))
	for range api.MaxMail - 1 {
		wantDo(t, d, []string{"double 0"}, told("ok"))
	}
	wantDo(t, d, []string{"double 0", "send 0", "send 1", "lose 0", "send 0", "send 0"}, told("no 7", "no 7", "no 6", "ok", "ok", "no 7"))
	wantDo(t, d, []string{"packets"}, strings.Repeat("call 0 1 list\n", api.MaxMail)+"end\n")
}

// TestTear: a record of make a has 9 bytes. With all of them it stands in the log;
// with fewer nothing of it does, and it is done when it comes again.
func TestTear(t *testing.T) {
	for keep, stands := range map[string]bool{
		"0": false, "1": false, "8": false, "9": true, "10": true, "99": true, "-1": false,
		"9223372036854775807": true, "-9223372036854775808": false,
	} {
		log, then := "end", "no 9"
		if stands {
			log, then = "0 1 make a: ok|end", "a=|end"
		}
		wantTalk(t, talk{
			"call 0 make a", "ok", "send 0", "ok", "tear 0 " + keep, "ok", "packets", "end", "log", log, "then 1", then,
			"done 0", "end", "calm", "calm 1", "done 0", "0 1 make a: ok|end", "log", "0 1 make a: ok|end",
		})
	}
}

// TestTearOfAnOldCall: the packet is gone, and the code is told.
func TestTearOfAnOldCall(t *testing.T) {
	wantTalk(t, talk{
		"call 0 make a", "ok", "send 0", "ok", "double 0", "ok", "deliver 0", "ok", "deliver 1", "ok",
		"call 0 make b", "ok", "send 0", "ok", "deliver 1", "ok",
		"packets", "call 0 1 make a|reply 0 2 make b: ok|end",
		"tear 0 99", "no 10",
		"packets", "reply 0 2 make b: ok|end",
		"tear 0 99", "ok",
		"packets", "end", "done 0", "0 1 make a: ok|end", "calm", "calm 1", "done 0", "0 1 make a: ok|0 2 make b: ok|end",
	})
}

func TestCallsOfAClientAreFull(t *testing.T) {
	d := desk.New()
	for range api.MaxCalls {
		wantDo(t, d, []string{"call 1 list", "calm"}, told("ok", "calm 1"))
	}
	wantDo(t, d, []string{"call 1 list", "call 1 make a", "call 0 list", "call 0 list", "send 1"}, told("no 7", "no 7", "ok", "no 11", "no 6"))
	s, _ := d.Do([]string{"done 1"})
	if strings.Count(s, "\n") != api.MaxCalls+1 || !strings.HasSuffix(s, "\n1 200 list: ok\nend\n") {
		t.Errorf("done 1 is %q", s)
	}
}

// TestCallsRefused: the codes of the line, then those of the client.
func TestCallsRefused(t *testing.T) {
	for _, x := range []struct {
		line, code string
	}{
		{"", "no 12"}, {"what", "no 12"}, {"make", "no 12"}, {"make a b", "no 12"}, {"list a", "no 12"}, {"List", "no 12"}, {"call 0 list", "no 12"},
		{"make A", "no 2"}, {"make abcdef", "no 2"}, {"make ", "no 2"}, {"rename a B", "no 2"}, {"rename a b c", "no 2"}, {"append A x", "no 2"},
		{"append a ", "no 4"}, {"append a 123456789", "no 4"}, {"append a \x7f", "no 4"}, {"append a \t", "no 4"},
	} {
		for _, n := range []string{"0", "1", "2"} {
			wantEach(t, told(x.code), "call "+n+" "+x.line)
		}
		// The line is read ahead of the client.
		wantEach(t, told(x.code), "call 3 "+x.line, "call -1 "+x.line, "call 9223372036854775807 "+x.line)
		// And the number ahead of the line.
		wantEach(t, told("what"), "call x "+x.line, "call 00 "+x.line, "call  "+x.line, "call 9223372036854775808 "+x.line)
	}
	wantTalk(t, talk{"call 0 list", "ok", "call 0 what", "no 12", "call 0 list", "no 11", "call 0 make A", "no 2", "call x list", "what"})
}

func TestClientsThatThereAreNot(t *testing.T) {
	for _, n := range []string{"3", "4", "-1", "-3", "99", "256", "4294967296", "9223372036854775807", "-9223372036854775808"} {
		wantEach(t, told("no 9"), "send "+n, "done "+n, "call "+n+" list", "call "+n+" make a", "call "+n+" append a  x ")
	}
}

func TestMostLines(t *testing.T) {
	lines, want := []string{"call 0 list"}, told("ok")
	for len(lines) < api.MaxLines {
		lines, want = append(lines, "call 0 list"), want+told("no 11")
	}
	wantDo(t, desk.New(), lines, want)
	wantDo(t, desk.New(), make([]string, api.MaxLines), "")

	for _, d := range []*desk.Desk{desk.New(), busy(t)} {
		had := asked(t, d)
		for _, more := range []int{1, 2, api.MaxLines, 1 << 16} {
			wantFault(t, d, make([]string, api.MaxLines+more), api.ErrMany, -1)
			many := slices.Repeat([]string{"calm"}, api.MaxLines+more)
			wantFault(t, d, many, api.ErrMany, -1)
			many[0], many[api.MaxLines] = "\n", "a\nb" // there are too many, whatever they are
			wantFault(t, d, many, api.ErrMany, -1)
		}
		if has := asked(t, d); has != had {
			t.Errorf("it was %q and is %q", had, has)
		}
		wantDo(t, d, lines[:0], "")
	}
}

func TestNewlines(t *testing.T) {
	for _, broken := range []string{"\n", "\ncalm", "ca\nlm", "calm\n", "  \n", "call 0 append a \n", "call 0 list\n", "call 0\n list", "x\n", "\n\n", "\r\n", strings.Repeat("x", 1<<16) + "\n"} {
		for _, size := range []int{1, 2, 3, 50, api.MaxLines} {
			for _, at := range []int{0, 1, size / 2, size - 1} {
				if at >= size {
					continue
				}
				d := busy(t)
				had := asked(t, d)
				lines := slices.Repeat([]string{"calm"}, size)
				lines[at] = broken
				wantFault(t, d, lines, api.ErrLine, at)
				lines[size-1] = broken
				wantFault(t, d, lines, api.ErrLine, at)
				if has := asked(t, d); has != had {
					t.Errorf("%q at %d: it was %q and is %q", broken, at, had, has)
				}
			}
		}
	}
}

// TestOtherEndsOfLines: no other byte ends a line.
func TestOtherEndsOfLines(t *testing.T) {
	wantEach(t, told("what"), "\r", "calm\r", "\rcalm", "\v", "\f", "\u0085", "\u2028", "\x00", "calm\x00", "crash\t")
}

func TestLinesWithoutWords(t *testing.T) {
	for n := range 70 {
		wantEach(t, "", strings.Repeat(" ", n))
	}
	wantEach(t, "", strings.Repeat(" ", 1<<20))
	wantTalk(t, talk{"", "", " ", "", "calm", "calm 0", "   ", "", "log", "end", "", ""})
}

// TestMoreBlanks: ahead of, between and behind the words of lines but call.
func TestMoreBlanks(t *testing.T) {
	for _, x := range []struct {
		words []string
		told  string
	}{
		{[]string{"send", "2"}, "ok"}, {[]string{"deliver", "0"}, "ok"}, {[]string{"lose", "0"}, "ok"}, {[]string{"double", "0"}, "ok"},
		{[]string{"crash"}, "ok"}, {[]string{"tear", "0", "4"}, "ok"}, {[]string{"calm"}, "calm 0"},
		{[]string{"packets"}, "reply 1 2 read a: ok x y\ncall 2 1 make b\nend"},
		{[]string{"done", "1"}, "1 1 append a x y: ok\nend"},
		{[]string{"log"}, "0 1 make a: ok\n1 1 append a x y: ok\nend"},
		{[]string{"then", "2"}, "a=x y\nend"},
	} {
		for _, gap := range []string{" ", "  ", "   ", strings.Repeat(" ", 5000)} {
			for _, ahead := range []string{"", gap} {
				for _, behind := range []string{"", gap} {
					wantDo(t, busy(t), []string{ahead + strings.Join(x.words, gap) + behind}, told(x.told))
				}
			}
		}
	}
	wantDo(t, busy(t), []string{" tear   0 4"}, told("ok"))
	wantDo(t, busy(t), []string{"tear 0     4  "}, told("ok"))
	wantEach(t, told("what"), "c alm", "calm calm", "sen d 0", "send - 1", "then 1 0", "tear 0 1 0", "tear 01", "\tcalm", "send\t0", "send 0\t", "send\u00a00", "tear 0\x001")
}

// TestBlanksOfCalls: one each, and what stands behind the second one is the line's.
func TestBlanksOfCalls(t *testing.T) {
	wantEach(t, told("what"),
		" call 0 list", "  call 0 list", "call  0 list", "call   0 list", " call  0  list", "call", "call ", "call  ", "call   ", " call", "  call  ",
		"call 0", "call -1", "call x", " call 0", "call  0", "call  0 ", "call x ", "call\t0 list", "call 0\tlist", "call\u00a00 list", "call list", "call list 0", "0 call list")
	wantEach(t, told("no 12"),
		"call 0 ", "call 0  ", "call 0   ", "call 0  list", "call 0   list", "call 0 list ", "call 0 list  ", "call 0 make  a", "call 0 make a ", "call 0  make a",
		"call 0  append a x", "call 9 ", "call -1  list", "call 0 \tlist", "call 0 list\t")
	wantEach(t, told("no 2"), "call 0 rename a  b", "call 0 rename  a b", "call 0 rename a b ", "call 0 append  a x", "call 0 make ")
	wantTalk(t, talk{
		"call 0 append a  ", "ok", "call 1 append a  x  y ", "ok", "call 2 append a         ", "ok",
		"send 0", "ok", "send 1", "ok", "send 2", "ok",
		"packets", "call 0 1 append a  |call 1 1 append a  x  y |call 2 1 append a         |end",
		"calm", "calm 0",
		"log", "0 1 append a  : no 6|1 1 append a  x  y : no 6|2 1 append a         : no 6|end",
	})
	wantTalk(t, talk{"call 0 make a", "ok", "calm", "calm 1", "call 0 append a   x ", "ok", "calm", "calm 1", "call 0 read a", "ok", "calm", "calm 1",
		"then 2", "a=  x |end", "done 0", "0 1 make a: ok|0 2 append a   x : ok|0 3 read a: ok   x |end"})
}

func TestTooFewAndTooManyWords(t *testing.T) {
	wantEach(t, told("what"),
		"send", "deliver", "lose", "double", "tear", "tear 0", "done", "then", "call", "call 0",
		"send 0 0", "deliver 0 0", "lose 0 0", "double 0 0", "tear 0 0 0", "tear 0 0 0 0", "done 0 0", "then 0 0",
		"crash 0", "calm 0", "packets 0", "log 0", "crash crash", "calm x", "packets packets", "log log",
		"send 0 x", "deliver 0 x", "tear 0 0 x", "done 0 send 0", "then 0 1 2 3 4 5 6 7 8 9", "crash 0 0", "log 0 0 0", "calm 0 0 0 0",
		"send "+strings.Repeat("0 ", 1<<16), "calm"+strings.Repeat(" 0", 1<<16))
}

func TestOtherWords(t *testing.T) {
	wantEach(t, told("what"),
		"what", "ok", "no 9", "end", "x", "0", "-1", "call0 list", "calls 0 list", "list", "make a", "reply 0 1 list: ok", "0 1 list: ok", "a=x",
		"Send 0", "SEND 0", "Deliver 0", "LOSE 0", "doublE 0", "Crash", "CRASH", "Tear 0 0", "Calm", "CALM", "Packets", "Done 0", "Log", "LOG", "Then 0",
		"Call 0 list", "CALL 0 list", "cALL 0 list",
		"sends 0", "sen 0", "s 0", "delivers 0", "deliver0", "send0", "los 0", "doubled 0", "crashes", "cras", "tears 0 0", "calms", "cal", "packet", "packetss", "don 0", "dones 0", "logs", "lo", "the 0", "thens 0",
		"0 send", "0 0 tear", "tear0 0", "0 then")
	// The bytes of a word stand for themselves, in any letters.
	wantEach(t, told("what"), "ſend 0", "cra\u017fh", "\xffcalm", "calm\xff", "ca\u00adlm", "log\u0301", "ｌｏｇ")
}

func TestEveryByte(t *testing.T) {
	for n := range 256 {
		b := string([]byte{byte(n)})
		if b == "\n" {
			wantFault(t, desk.New(), []string{b}, api.ErrLine, 0)
			continue
		}
		if b == " " {
			wantEach(t, "", b, b+b)
			continue
		}
		wantEach(t, told("what"), b, b+"calm", "calm"+b, "ca"+b+"lm", "calm "+b, b+" calm", "crash"+b, "call"+b+"0 list", "call 0"+b+"list", b+"call 0 list", "tear 0"+b+"0")
		if n < '0' || n > '9' {
			wantEach(t, told("what"), "send "+b, "done "+b, "done 1"+b, "then 1"+b+"1", "lose "+b+"x", "call "+b+" list", "call 1"+b+" list", "tear 0 "+b, "tear "+b+" 0")
		}
		if (n < '0' || n > '9') && b != "-" {
			wantEach(t, told("what"), "send "+b+"1", "done "+b+"1", "call "+b+"1 list")
		}
		wantEach(t, told("no 12"), "call 0 "+b, "call 0 list"+b)
	}
}

// good are numbers as short as can be, the least and the greatest among them.
func good() []string {
	return []string{"0", "1", "2", "9", "10", "-1", "-2", "-9", "-10", "100", "-100", "2147483647", "-2147483648", "2147483648", "4294967296",
		"1000000000000000000", "999999999999999999", "9223372036854775806", "9223372036854775807", "-9223372036854775807", "-9223372036854775808"}
}

// bad are texts without blanks that are no such numbers.
func bad() []string {
	return []string{"00", "01", "000", "007", "-0", "-00", "-01", "+0", "+1", "+", "-", "--1", "-+1", "+-1", "1-", "0-", "1-1",
		"9223372036854775808", "-9223372036854775809", "9223372036854775810", "10000000000000000000", "18446744073709551615", "18446744073709551616", "99999999999999999999", "-99999999999999999999",
		"09223372036854775807", "-09223372036854775808", "0000000000000000000000000",
		"1x", "x1", "1x1", "0x1", "0x", "0b1", "0o1", "1e1", "1.0", "1.", ".1", "1_0", "1,0", "_1", "1\t", "\t1", "1\x00", "١", "１", "1\xff", "NaN", "Inf", "one", "a", "A",
		strings.Repeat("1", 1<<16), "-" + strings.Repeat("9", 1<<16), strings.Repeat("0", 1<<16), strings.Repeat("0", 1<<16) + "1"}
}

func TestNumbers(t *testing.T) {
	there := map[string]bool{"0": true, "1": true, "2": true}
	for _, n := range good() {
		d, in := desk.New(), told("no 9")
		if there[n] {
			in = told("ok")
		}
		wantDo(t, d, []string{"call " + n + " list"}, in)
		wantDo(t, d, []string{"send " + n}, in)
		if there[n] {
			in = told("end")
		}
		wantDo(t, d, []string{"done " + n}, in)
		wantDo(t, busy(t), []string{"double " + n, "deliver " + n, "lose " + n}, told("ok", "ok", "ok"))
		for _, m := range good() {
			wantDo(t, busy(t), []string{"tear " + n + " " + m}, told("ok"))
		}
	}
	for _, n := range bad() {
		wantEach(t, told("what"), "call "+n+" list", "call "+n+" what", "call "+n+" ", "send "+n, "deliver "+n, "lose "+n, "double "+n, "done "+n, "then "+n, "tear "+n+" 0", "tear 0 "+n, "tear "+n+" "+n)
	}
	wantEach(t, told("what"), "send ", "deliver  ", "tear 0 ", "tear  0", "call  list", "done ", "then ")
}
