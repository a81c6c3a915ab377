package client_test

import (
	"math"
	"slices"
	"strconv"
	"strings"
	"testing"
	"unsafe"

	"postilion/api"
	"postilion/client"
	"postilion/files"
)

// calls: some of each kind, no two the same.
func calls() []api.Call {
	return []api.Call{
		{Kind: api.CMake, Name: "a"},
		{Kind: api.CMake, Name: "abcde"},
		{Kind: api.CRemove, Name: "a"},
		{Kind: api.CRename, Name: "a", To: "b"},
		{Kind: api.CRename, Name: "b", To: "b"},
		{Kind: api.CAppend, Name: "a", Text: "x y"},
		{Kind: api.CAppend, Name: "a", Text: " ~345678"},
		{Kind: api.CRead, Name: "a"},
		{Kind: api.CRead, Name: "b"},
		{Kind: api.CList},
	}
}

// wrong: calls with each of files.Check's codes.
func wrong() []api.Call {
	return []api.Call{
		{},
		{Kind: -1, Name: "a"},
		{Kind: api.CList + 1},
		{Kind: math.MinInt},
		{Kind: math.MaxInt},
		{Kind: api.CList, Name: "a"},
		{Kind: api.CMake, Name: "a", To: "b"},
		{Kind: api.CRead, Name: "a", Text: "x"},
		{Kind: api.CMake},
		{Kind: api.CRead, Name: "abcdef"},
		{Kind: api.CRename, Name: "a", To: "B"},
		{Kind: api.CRemove, Name: strings.Repeat("a", 1<<16)},
		{Kind: api.CAppend, Name: "a"},
		{Kind: api.CAppend, Name: "a", Text: "123456789"},
		{Kind: api.CAppend, Name: "a", Text: "\x7f"},
		{Kind: api.CAppend, Name: "a", Text: "\x1f"},
	}
}

func fresh(t *testing.T, me int) *client.Client {
	t.Helper()
	c := client.New(me)
	if c == nil {
		t.Fatalf("there is no client %d", me)
	}
	return c
}

func wantCall(t *testing.T, c *client.Client, x api.Call, want int) {
	t.Helper()
	if got := c.Call(x); got != want {
		t.Fatalf("Call(%+v): %d, want %d", x, got, want)
	}
}

func wantHear(t *testing.T, c *client.Client, p api.Packet, want bool) {
	t.Helper()
	if got := c.Hear(p); got != want {
		t.Fatalf("Hear(%+v): %v, want %v", p, got, want)
	}
}

// state: all that can be asked of a client without a change.
type state struct {
	open, ok bool
	p        api.Packet
	done     []api.Record
}

func told(c *client.Client) state {
	s := state{open: c.Open(), done: c.Done()}
	s.p, s.ok = c.Send()
	return s
}

func wantState(t *testing.T, c *client.Client, want state) {
	t.Helper()
	got := told(c)
	if got.open != want.open || got.ok != want.ok || got.p != want.p || !slices.Equal(got.done, want.done) {
		t.Fatalf("the client tells\n%+v, want\n%+v", got, want)
	}
}

// idle: what a client tells that has no call but those that were answered.
func idle(done ...api.Record) state { return state{done: done} }

// waiting: what a client tells that has the call x, behind those that were answered.
func waiting(me int, x api.Call, done ...api.Record) state {
	return state{open: true, ok: true, p: api.Packet{Client: me, No: len(done) + 1, Call: x}, done: done}
}

// replied: what the server sends back.
func replied(p api.Packet, a api.Answer) api.Packet {
	p.Reply, p.Answer = true, a
	return p
}

func reply(me, no int, x api.Call, text string) api.Packet {
	return api.Packet{Reply: true, Client: me, No: no, Call: x, Answer: api.Answer{Text: text}}
}

func record(me, no int, x api.Call, text string) api.Record {
	return api.Record{Client: me, No: no, Call: x, Answer: api.Answer{Text: text}}
}

// many: a client with so many calls that were answered, and their records.
func many(t *testing.T, me, n int) (*client.Client, []api.Record) {
	t.Helper()
	c, done := fresh(t, me), []api.Record(nil)
	for no := 1; no <= n; no++ {
		x, text := calls()[no%len(calls())], "t"+strconv.Itoa(no)
		wantCall(t, c, x, 0)
		wantHear(t, c, reply(me, no, x, text), true)
		done = append(done, record(me, no, x, text))
	}
	return c, done
}

func TestNewOfEachClient(t *testing.T) {
	for me := range api.Clients {
		c := fresh(t, me)
		wantState(t, c, idle())
		wantCall(t, c, calls()[0], 0)
		wantState(t, c, waiting(me, calls()[0]))
	}
}

func TestNewOfNoClient(t *testing.T) {
	for _, me := range []int{-1, -2, -api.Clients, api.Clients, api.Clients + 1, 1 << 8, 1 << 31, 1 << 32, 1<<32 + 1, -1 << 32, math.MinInt, math.MinInt + 1, math.MaxInt - 1, math.MaxInt} {
		if client.New(me) != nil {
			t.Errorf("New(%d) is a client", me)
		}
	}
}

func TestCallOfEachKind(t *testing.T) {
	var done []api.Record
	c := fresh(t, 2)
	for n, x := range calls() {
		wantCall(t, c, x, 0)
		wantState(t, c, waiting(2, x, done...))
		wantHear(t, c, reply(2, n+1, x, "t"), true)
		done = append(done, record(2, n+1, x, "t"))
		wantState(t, c, idle(done...))
	}
}

func TestNoCallNoPacket(t *testing.T) {
	c := fresh(t, 0)
	for range 2 {
		if p, ok := c.Send(); ok || p != (api.Packet{}) {
			t.Errorf("Send without a call: %+v, %v", p, ok)
		}
		if c.Open() || len(c.Done()) != 0 {
			t.Errorf("without a call: Open %v, Done %+v", c.Open(), c.Done())
		}
	}
}

func TestWrongCallsHaveTheirCodes(t *testing.T) {
	free, _ := many(t, 1, 2)
	busy, done := many(t, 1, 2)
	wantCall(t, busy, calls()[3], 0)
	full, all := many(t, 1, api.MaxCalls)
	seen := map[int]int{}
	for _, x := range wrong() {
		code := files.Check(x)
		seen[code]++
		for _, c := range []*client.Client{fresh(t, 0), free, busy, full} {
			before := told(c)
			wantCall(t, c, x, code)
			wantState(t, c, before)
		}
	}
	for _, code := range []int{api.ErrKind, api.ErrForm, api.ErrName, api.ErrLong} {
		if seen[code] == 0 {
			t.Errorf("no call has the code %d", code)
		}
	}
	if len(seen) != 4 {
		t.Errorf("the codes were %v", seen)
	}
	wantState(t, free, idle(done...))
	wantState(t, busy, waiting(1, calls()[3], done...))
	wantState(t, full, idle(all...))
}

// TestCodesByHand holds the codes against the document's words, not against files.
func TestCodesByHand(t *testing.T) {
	c := fresh(t, 0)
	wantCall(t, c, api.Call{Kind: 7}, 1)
	wantCall(t, c, api.Call{Kind: 5, Name: "A"}, 2)
	wantCall(t, c, api.Call{Kind: 6, Name: "a"}, 3)
	wantCall(t, c, api.Call{Kind: 4, Name: "a", Text: "123456789"}, 4)
	wantCall(t, c, api.Call{Kind: 6}, 0)
	wantCall(t, c, api.Call{Kind: 6}, 11)
	wantCall(t, c, api.Call{Kind: 7}, 1)
}

func TestBusy(t *testing.T) {
	for _, first := range calls() {
		c := fresh(t, 1)
		wantCall(t, c, first, 0)
		for _, x := range calls() {
			wantCall(t, c, x, api.ErrBusy)
			wantState(t, c, waiting(1, first))
			if x != first { // what was refused is not the client's call
				wantHear(t, c, reply(1, 1, x, "t"), false)
			}
			wantHear(t, c, reply(1, 2, x, "t"), false)
		}
		wantState(t, c, waiting(1, first))
		wantHear(t, c, reply(1, 1, first, "t"), true)
		wantCall(t, c, calls()[0], 0)
	}
}

func TestRefusedCallsHaveNoNumber(t *testing.T) {
	c := fresh(t, 0)
	for _, x := range wrong() {
		c.Call(x)
	}
	x := calls()[7]
	wantCall(t, c, x, 0)
	for range 300 {
		wantCall(t, c, x, api.ErrBusy)
	}
	wantState(t, c, waiting(0, x))
	wantHear(t, c, reply(0, 1, x, "t"), true)
	wantCall(t, c, x, 0)
	wantState(t, c, waiting(0, x, record(0, 1, x, "t")))
}

func TestFull(t *testing.T) {
	for me := range api.Clients {
		c, done := many(t, me, api.MaxCalls-1)
		x := calls()[5]
		wantCall(t, c, x, 0)
		wantState(t, c, waiting(me, x, done...))
		wantCall(t, c, x, api.ErrBusy) // it had MaxCalls, too, but the chapter names this first
		wantHear(t, c, reply(me, api.MaxCalls, x, "last"), true)
		done = append(done, record(me, api.MaxCalls, x, "last"))
		for _, y := range calls() {
			wantCall(t, c, y, api.ErrFull)
			wantState(t, c, idle(done...))
			wantHear(t, c, reply(me, api.MaxCalls+1, y, "t"), false)
		}
		wantState(t, c, idle(done...))
	}
}

func TestSendAgain(t *testing.T) {
	c, done := many(t, 2, 4)
	x := calls()[3]
	wantCall(t, c, x, 0)
	for range 100 {
		wantState(t, c, waiting(2, x, done...))
	}
	wantHear(t, c, reply(2, 5, x, "t"), true)
	for range 2 {
		wantState(t, c, idle(append(done, record(2, 5, x, "t"))...))
	}
}

// TestSentAndAnswered: the way of a call as it goes through a world.
func TestSentAndAnswered(t *testing.T) {
	c := fresh(t, 1)
	wantCall(t, c, api.Call{Kind: api.CRead, Name: "a"}, 0)
	p, _ := c.Send()
	wantHear(t, c, replied(p, api.Answer{Code: api.ErrNone}), true)
	want := api.Record{Client: 1, No: 1, Call: api.Call{Kind: api.CRead, Name: "a"}, Answer: api.Answer{Code: api.ErrNone}}
	wantState(t, c, idle(want))
}

// turned: packets that are another one's but for one thing, which makes them nothing.
func turned(r api.Packet) []api.Packet {
	var out []api.Packet
	turn := func(f func(p *api.Packet)) {
		p := r
		f(&p)
		out = append(out, p)
	}
	turn(func(p *api.Packet) { p.Reply = false })
	for _, n := range []int{-1, 0, 1, 2, 3, 1 << 32, r.Client + 1<<32, -r.Client - 1, math.MinInt, math.MaxInt} {
		if n != r.Client {
			turn(func(p *api.Packet) { p.Client = n })
		}
	}
	for _, n := range []int{-1, 0, 1, r.No - 1, r.No + 1, -r.No, r.No + 1<<8, r.No + 1<<32, api.MaxCalls, api.MaxCalls + 1, math.MinInt, math.MaxInt} {
		if n != r.No {
			turn(func(p *api.Packet) { p.No = n })
		}
	}
	for _, x := range append(calls(), wrong()...) {
		if x != r.Call {
			turn(func(p *api.Packet) { p.Call = x })
		}
	}
	turn(func(p *api.Packet) { p.Call.Kind += 1 << 32 })
	turn(func(p *api.Packet) { p.Call.Name += "a" })
	turn(func(p *api.Packet) { p.Call.Name += "\x00" })
	turn(func(p *api.Packet) { p.Call.Name = strings.ToUpper(p.Call.Name) + "A" })
	turn(func(p *api.Packet) { p.Call.To += "a" })
	turn(func(p *api.Packet) { p.Call.Text += " " })
	turn(func(p *api.Packet) { p.Call.Name = strings.Repeat("a", 1<<16) })
	return out
}

func TestOtherPacketsAreNothing(t *testing.T) {
	for me := range api.Clients {
		for before := range 3 {
			for _, x := range calls() {
				c, done := many(t, me, before)
				wantCall(t, c, x, 0)
				r := reply(me, before+1, x, "t")
				for _, p := range turned(r) {
					wantHear(t, c, p, false)
					wantState(t, c, waiting(me, x, done...))
				}
				wantHear(t, c, api.Packet{}, false)
				wantHear(t, c, api.Packet{Reply: true}, false)
				wantState(t, c, waiting(me, x, done...))
				wantHear(t, c, r, true)
				wantState(t, c, idle(append(done, record(me, before+1, x, "t"))...))
			}
		}
	}
}

func TestOwnPacketIsNothing(t *testing.T) {
	c := fresh(t, 1)
	wantCall(t, c, calls()[0], 0)
	p, _ := c.Send()
	wantHear(t, c, p, false)
	p.Answer = api.Answer{Text: "t"}
	wantHear(t, c, p, false)
	wantState(t, c, waiting(1, calls()[0]))
}

func TestWithoutCallAllIsNothing(t *testing.T) {
	for me := range api.Clients {
		c := fresh(t, me)
		for no := -1; no <= 2; no++ {
			for _, x := range append(calls(), api.Call{}) {
				wantHear(t, c, reply(me, no, x, ""), false)
				wantHear(t, c, reply(me, no, x, "t"), false)
			}
		}
		wantState(t, c, idle())
		wantCall(t, c, calls()[0], 0)
		wantState(t, c, waiting(me, calls()[0]))
	}
}

func TestBehindTheAnswerAllIsNothing(t *testing.T) {
	c, done := many(t, 1, 3)
	last := done[2]
	hearAll := func() {
		for _, text := range []string{last.Answer.Text, "", "another"} {
			wantHear(t, c, reply(1, 3, last.Call, text), false)
			wantHear(t, c, reply(1, 4, last.Call, text), false)
			wantHear(t, c, reply(1, 4, api.Call{}, text), false)
			wantHear(t, c, reply(1, 1, done[0].Call, text), false)
		}
	}
	hearAll()
	wantState(t, c, idle(done...))
	next := calls()[9]
	wantCall(t, c, next, 0)
	hearAll()
	wantHear(t, c, reply(1, 3, next, "t"), false)
	wantState(t, c, waiting(1, next, done...))
	wantHear(t, c, reply(1, 4, next, "t"), true)
	wantState(t, c, idle(append(done, record(1, 4, next, "t"))...))
}

// TestSameCallAgain: a late answer of the call before is told apart by its number alone.
func TestSameCallAgain(t *testing.T) {
	c, x := fresh(t, 0), calls()[7]
	wantCall(t, c, x, 0)
	wantHear(t, c, reply(0, 1, x, "old"), true)
	wantCall(t, c, x, 0)
	wantHear(t, c, reply(0, 1, x, "old"), false)
	wantHear(t, c, reply(0, 2, x, "new"), true)
	wantHear(t, c, reply(0, 2, x, "newer"), false)
	wantState(t, c, idle(record(0, 1, x, "old"), record(0, 2, x, "new")))
}

func TestUnsentCallIsAnswered(t *testing.T) {
	c, x := fresh(t, 0), calls()[9]
	wantCall(t, c, x, 0)
	wantHear(t, c, reply(0, 1, x, "t"), true)
	wantState(t, c, idle(record(0, 1, x, "t")))
}

func TestAnyAnswerIsTheAnswer(t *testing.T) {
	answers := []api.Answer{
		{}, {Code: api.ErrThere}, {Code: -1}, {Code: math.MinInt}, {Code: math.MaxInt, Text: "t"},
		{Text: "a b c"}, {Text: "\x00\xff\n"}, {Text: "日本"}, {Text: strings.Repeat("x", 1<<16)},
	}
	c, done := fresh(t, 2), []api.Record(nil)
	for n, a := range answers {
		x := calls()[n]
		wantCall(t, c, x, 0)
		p, _ := c.Send()
		wantHear(t, c, replied(p, a), true)
		done = append(done, api.Record{Client: 2, No: n + 1, Call: x, Answer: a})
		wantState(t, c, idle(done...))
	}
}

func TestDoneIsNewMemory(t *testing.T) {
	c, done := many(t, 1, 3)
	first, second := c.Done(), c.Done()
	clear(first[:cap(first)])
	first = append(first[:1], done...)
	first[0].Call.Name = "spoilt"
	if !slices.Equal(second, done) {
		t.Errorf("two lists share memory: %+v", second)
	}
	wantState(t, c, idle(done...))
}

func TestDoneStaysAsItWas(t *testing.T) {
	for n := range 12 {
		c, done := many(t, 1, n)
		was := c.Done()
		x := calls()[0]
		steps := []func(){
			func() { c.Call(x) },
			func() { c.Send() },
			func() { c.Hear(api.Packet{}) },
			func() { c.Hear(reply(1, n+1, x, "t")) },
			func() { clear(c.Done()) },
			func() { c.Call(calls()[1]); c.Hear(reply(1, n+2, calls()[1], "t")) },
		}
		for k, step := range steps {
			step()
			if !slices.Equal(was, done) {
				t.Fatalf("step %d: what was told of %d calls is now %+v", k, n, was)
			}
		}
		now := told(c)
		clear(was[:cap(was)])
		wantState(t, c, now)
	}
}

// texts: all texts of a record.
func texts(r api.Record) []string {
	return []string{r.Call.Name, r.Call.To, r.Call.Text, r.Answer.Text}
}

// ofPacket: its texts, as those of a record.
func ofPacket(p api.Packet) api.Record { return api.Record{Call: p.Call, Answer: p.Answer} }

// apart: do two have no text in the same memory?
func apart(t *testing.T, what string, a, b api.Record) {
	t.Helper()
	for _, s := range texts(a) {
		for _, u := range texts(b) {
			if s != "" && u != "" && unsafe.StringData(s) == unsafe.StringData(u) {
				t.Errorf("%s: %q shares memory", what, s)
			}
		}
	}
}

func TestTextsAreNewMemory(t *testing.T) {
	for _, x := range calls() {
		c := fresh(t, 0)
		wantCall(t, c, x, 0)
		given := api.Record{Call: x}
		p, _ := c.Send()
		q, _ := c.Send()
		apart(t, "called and sent", given, ofPacket(p))
		apart(t, "sent twice", ofPacket(p), ofPacket(q))
		heard := replied(p, api.Answer{Text: "answer"})
		wantHear(t, c, heard, true)
		first, second := c.Done()[0], c.Done()[0]
		for _, r := range []api.Record{given, ofPacket(p), ofPacket(q), ofPacket(heard), second} {
			apart(t, "done", first, r)
		}
	}
}

// borrowed: a text whose memory the test can still change, to see whether it is kept.
func borrowed(b []byte) string { return unsafe.String(&b[0], len(b)) }

func TestTextsAreNotKept(t *testing.T) {
	for _, x := range []api.Call{{Kind: api.CRename, Name: "name", To: "to"}, {Kind: api.CAppend, Name: "name", Text: "text"}} {
		c, given := fresh(t, 0), x
		var all [][]byte
		lend := func(s *string) {
			if *s != "" {
				b := []byte(*s)
				all = append(all, b)
				*s = borrowed(b)
			}
		}
		spoil := func() {
			for _, b := range all {
				b[0] = '?'
			}
		}
		lend(&given.Name)
		lend(&given.To)
		lend(&given.Text)
		wantCall(t, c, given, 0)
		spoil()
		wantState(t, c, waiting(0, x))
		p := reply(0, 1, x, "answer")
		lend(&p.Call.Name)
		lend(&p.Answer.Text)
		wantHear(t, c, p, true)
		spoil()
		wantState(t, c, idle(record(0, 1, x, "answer")))
	}
}

func TestObjectsStandApart(t *testing.T) {
	a, b, other := fresh(t, 1), fresh(t, 1), fresh(t, 2)
	x, y := calls()[0], calls()[1]
	wantCall(t, a, x, 0)
	wantState(t, b, idle())
	wantState(t, other, idle())
	wantCall(t, b, y, 0)
	wantCall(t, other, x, 0)
	wantHear(t, a, reply(1, 1, y, "t"), false)
	wantHear(t, other, reply(1, 1, x, "t"), false)
	wantHear(t, a, reply(1, 1, x, "t"), true)
	wantState(t, a, idle(record(1, 1, x, "t")))
	wantState(t, b, waiting(1, y))
	wantState(t, other, waiting(2, x))
	wantState(t, fresh(t, 1), idle())
}

// history: all calls that a client was given, each with the packet that answered
// it, if one did. What the client tells is worked out from it anew each time.
type history struct {
	me    int
	calls []api.Call
	heard map[int]api.Packet
}

func (h *history) open() bool { return len(h.heard) < len(h.calls) }

func (h *history) call(x api.Call) int {
	switch code := files.Check(x); {
	case code != 0:
		return code
	case h.open():
		return api.ErrBusy
	case len(h.calls) == api.MaxCalls:
		return api.ErrFull
	}
	h.calls = append(h.calls, x)
	return 0
}

func (h *history) hear(p api.Packet) bool {
	if !h.open() || p.No != len(h.calls) {
		return false
	}
	want := replied(api.Packet{Client: h.me, No: len(h.calls), Call: h.calls[len(h.calls)-1]}, p.Answer)
	if p != want {
		return false
	}
	h.heard[p.No] = p
	return true
}

func (h *history) told() state {
	var done []api.Record
	for no := 1; no <= len(h.heard); no++ {
		p := h.heard[no]
		done = append(done, api.Record{Client: h.me, No: no, Call: p.Call, Answer: p.Answer})
	}
	if h.open() {
		return waiting(h.me, h.calls[len(h.calls)-1], done...)
	}
	return idle(done...)
}

// walk: one client beside its history, and all that it ever sent.
type walk struct {
	c, twin *client.Client
	h       *history
	sent    []api.Packet
	seen    map[string]int
}

func newWalk(t *testing.T, me int) *walk {
	return &walk{c: fresh(t, me), twin: fresh(t, me), h: &history{me: me, heard: map[int]api.Packet{}}, seen: map[string]int{}}
}

func (w *walk) call(t *testing.T, x api.Call) {
	got, want := w.c.Call(x), w.h.call(x)
	if twin := w.twin.Call(x); got != want || twin != want {
		t.Fatalf("Call(%+v): %d, and %d of its twin, want %d", x, got, twin, want)
	}
	w.seen["call "+strconv.Itoa(got)]++
}

func (w *walk) hear(t *testing.T, p api.Packet) {
	got, want := w.c.Hear(p), w.h.hear(p)
	if twin := w.twin.Hear(p); got != want || twin != want {
		t.Fatalf("Hear(%+v): %v, and %v of its twin, want %v", p, got, twin, want)
	}
	w.seen["hear "+strconv.FormatBool(got)]++
}

func (w *walk) send() {
	p, ok := w.c.Send()
	w.twin.Send()
	if ok {
		w.sent = append(w.sent, p)
	}
	w.seen["send "+strconv.FormatBool(ok)]++
}

// step takes one of the things that may come; next tells which.
func (w *walk) step(t *testing.T, next func(n int) int) {
	all := append(calls(), wrong()...)
	switch kind := next(4); {
	case kind == 0:
		w.call(t, all[next(len(all))])
	case kind == 1 || len(w.sent) == 0:
		w.send()
	default:
		// late ones, too: any of the last few that were sent
		p := w.sent[len(w.sent)-1-next(min(len(w.sent), 4))]
		r := replied(p, api.Answer{Code: next(15), Text: strconv.Itoa(next(1000))})
		if kind == 2 {
			others := turned(r)
			r = others[next(len(others))]
		}
		w.hear(t, r)
	}
}

func TestLongWalksAsTheHistory(t *testing.T) {
	seed := uint32(1)
	next := func(n int) int {
		seed = seed*1664525 + 1013904223
		return int(seed>>16) % n
	}
	for me := range api.Clients {
		w := newWalk(t, me)
		for range 6000 {
			w.step(t, next)
			wantState(t, w.c, w.h.told())
		}
		wantState(t, w.twin, w.h.told())
		for _, what := range []string{"call 0", "call 1", "call 2", "call 3", "call 4", "call 7", "call 11", "hear true", "hear false", "send true", "send false"} {
			if w.seen[what] == 0 {
				t.Errorf("client %d: there was no %s", me, what)
			}
		}
	}
}
