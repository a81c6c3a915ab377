package world_test

import (
	"math"
	"reflect"
	"slices"
	"strings"
	"testing"
	"unsafe"

	"postilion/api"
	"postilion/codec"
	"postilion/files"
	"postilion/world"
)

func create(n string) api.Call    { return api.Call{Kind: api.CMake, Name: n} }
func remove(n string) api.Call    { return api.Call{Kind: api.CRemove, Name: n} }
func rename(n, m string) api.Call { return api.Call{Kind: api.CRename, Name: n, To: m} }
func put(n, s string) api.Call    { return api.Call{Kind: api.CAppend, Name: n, Text: s} }
func read(n string) api.Call      { return api.Call{Kind: api.CRead, Name: n} }
func list() api.Call              { return api.Call{Kind: api.CList} }

func has(n int, c api.Call) api.Step { return api.Step{Kind: api.SCall, N: n, Call: c} }
func send(n int) api.Step            { return api.Step{Kind: api.SSend, N: n} }
func deliver(n int) api.Step         { return api.Step{Kind: api.SDeliver, N: n} }
func lose(n int) api.Step            { return api.Step{Kind: api.SLose, N: n} }
func double(n int) api.Step          { return api.Step{Kind: api.SDouble, N: n} }
func crash() api.Step                { return api.Step{Kind: api.SCrash} }
func tear(n, keep int) api.Step      { return api.Step{Kind: api.STear, N: n, Keep: keep} }

func asks(client, no int, c api.Call) api.Packet {
	return api.Packet{Client: client, No: no, Call: c}
}

func reply(client, no int, c api.Call, a api.Answer) api.Packet {
	return api.Packet{Reply: true, Client: client, No: no, Call: c, Answer: a}
}

func record(client, no int, c api.Call, a api.Answer) api.Record {
	return api.Record{Client: client, No: no, Call: c, Answer: a}
}

func code(n int) api.Answer    { return api.Answer{Code: n} }
func text(s string) api.Answer { return api.Answer{Text: s} }

// run takes steps one behind the other, all of which are to have no code.
func run(t *testing.T, w *world.World, steps ...api.Step) {
	t.Helper()
	for n, x := range steps {
		if got := w.Step(x); got != 0 {
			t.Fatalf("step %d, %+v: %d", n, x, got)
		}
	}
}

// refused takes a step that is to have a code, and to change nothing.
func refused(t *testing.T, w *world.World, x api.Step, want int) {
	t.Helper()
	before := told(w)
	if got := w.Step(x); got != want {
		t.Fatalf("%+v: %d, want %d", x, got, want)
	}
	wantState(t, w, before)
}

// state: all that can be asked of a world without a change. Files: of each name what it has.
type state struct {
	Packets []api.Packet
	Log     string
	Files   map[string]string
	Last    [api.Clients]int
	Open    [api.Clients]bool
	Done    [api.Clients][]api.Record
}

func told(w *world.World) state {
	s := state{Packets: w.Packets(), Log: string(w.Log()), Files: map[string]string{}}
	for _, n := range w.Names() {
		s.Files[n] = w.Do(read(n)).Text
	}
	for n := range api.Clients {
		s.Last[n], s.Open[n], s.Done[n] = w.Last(n), w.Client(n).Open(), w.Client(n).Done()
	}
	return s
}

func sameState(a, b state) bool {
	if !slices.Equal(a.Packets, b.Packets) || a.Log != b.Log || !reflect.DeepEqual(a.Files, b.Files) || a.Last != b.Last || a.Open != b.Open {
		return false
	}
	for n := range api.Clients {
		if !slices.Equal(a.Done[n], b.Done[n]) {
			return false
		}
	}
	return true
}

func wantState(t *testing.T, w *world.World, want state) {
	t.Helper()
	if got := told(w); !sameState(got, want) {
		t.Fatalf("the world tells\n%+v, want\n%+v", got, want)
	}
}

func wantPackets(t *testing.T, w *world.World, want ...api.Packet) {
	t.Helper()
	if got := w.Packets(); !slices.Equal(got, want) {
		t.Fatalf("the packets are\n%+v, want\n%+v", got, want)
	}
}

func wantDone(t *testing.T, w *world.World, n int, open bool, want ...api.Record) {
	t.Helper()
	if got := w.Client(n).Done(); w.Client(n).Open() != open || !slices.Equal(got, want) {
		t.Fatalf("client %d: Open %v, Done\n%+v, want %v,\n%+v", n, w.Client(n).Open(), got, open, want)
	}
}

func wantLog(t *testing.T, w *world.World, want ...api.Record) {
	t.Helper()
	if got := w.Log(); string(got) != string(written(t, want...)) {
		all, _ := codec.All(got)
		t.Fatalf("the log has\n%+v (%d bytes), want\n%+v", all, len(got), want)
	}
}

func wantNames(t *testing.T, w *world.World, want ...string) {
	t.Helper()
	if got := w.Names(); !slices.Equal(got, want) {
		t.Fatalf("the names are %q, want %q", got, want)
	}
}

func wantCalm(t *testing.T, w *world.World, want int) {
	t.Helper()
	if got := w.Calm(); got != want {
		t.Fatalf("Calm: %d, want %d", got, want)
	}
}

func written(t *testing.T, all ...api.Record) []byte {
	t.Helper()
	var out []byte
	for _, r := range all {
		b, code := codec.Encode(r)
		if code != 0 {
			t.Fatalf("%+v is no record: %d", r, code)
		}
		out = append(out, b...)
	}
	return out
}

// asked lets a client have a call, and all packets come until it is answered.
func asked(t *testing.T, w *world.World, n int, c api.Call) {
	t.Helper()
	run(t, w, has(n, c), send(n), deliver(len(w.Packets())))
	run(t, w, deliver(len(w.Packets())-1))
	if w.Client(n).Open() {
		t.Fatalf("the call %+v of client %d was not answered", c, n)
	}
}

// odd: numbers that are no client's, and are all in order as those of a packet.
func odd() []int {
	return []int{-1, -2, -api.Clients, api.Clients, api.Clients + 1, 1 << 8, 1 << 31, 1 << 32, 1<<32 + 1, -1 << 32, math.MinInt, math.MinInt + 1, math.MaxInt - 1, math.MaxInt}
}

// fullMail: a world with a call of client 1 that is MaxMail times on its way.
func fullMail(t *testing.T, c api.Call) *world.World {
	t.Helper()
	w := world.New()
	run(t, w, has(1, c))
	for range api.MaxMail {
		run(t, w, send(1))
	}
	return w
}

// fullLog: a world whose log has no room for any record, by calls of client 0 and 1.
func fullLog(t *testing.T) *world.World {
	t.Helper()
	w := world.New()
	for n := 0; len(w.Log()) <= api.MaxBytes-9; n++ {
		asked(t, w, n%2, create("a"))
	}
	return w
}

func TestNew(t *testing.T) {
	w := world.New()
	wantState(t, w, state{Files: map[string]string{}})
	if got := w.Do(list()); got != text("") {
		t.Errorf("list: %+v", got)
	}
	wantCalm(t, w, 0)
	wantState(t, w, state{Files: map[string]string{}})
}

func TestClientOfEachNumber(t *testing.T) {
	w := world.New()
	for n := range api.Clients {
		if w.Client(n) == nil {
			t.Fatalf("there is no client %d", n)
		}
		run(t, w, has(n, list()))
		for other := range api.Clients {
			if got := w.Client(other).Open(); got != (other <= n) {
				t.Errorf("behind the call of %d, client %d: Open %v", n, other, got)
			}
		}
	}
}

func TestClientOfNoNumber(t *testing.T) {
	w := world.New()
	for _, n := range odd() {
		if w.Client(n) != nil {
			t.Errorf("there is a client %d", n)
		}
	}
}

// TestClientIsThatOfTheWorld: one that was answered ahead tells what came behind.
func TestClientIsThatOfTheWorld(t *testing.T) {
	w := world.New()
	c := w.Client(2)
	asked(t, w, 2, create("a"))
	if got := c.Done(); !slices.Equal(got, []api.Record{record(2, 1, create("a"), code(0))}) {
		t.Errorf("Done: %+v", got)
	}
	run(t, w, has(2, list()))
	if !c.Open() {
		t.Errorf("it has no call")
	}
}

func TestCallOfNoClient(t *testing.T) {
	for _, n := range odd() {
		w := world.New()
		for _, c := range []api.Call{list(), create("a"), {}, {Kind: 99}} {
			refused(t, w, has(n, c), api.ErrRange)
		}
	}
}

func TestCallsCodes(t *testing.T) {
	for n := range api.Clients {
		w := world.New()
		refused(t, w, has(n, api.Call{Kind: 7}), api.ErrKind)
		refused(t, w, has(n, api.Call{Kind: api.CList, Name: "a"}), api.ErrForm)
		refused(t, w, has(n, read("A")), api.ErrName)
		refused(t, w, has(n, put("a", "123456789")), api.ErrLong)
		run(t, w, has(n, list()))
		refused(t, w, has(n, list()), api.ErrBusy)
		refused(t, w, has(n, create("a")), api.ErrBusy)
		refused(t, w, has(n, api.Call{Kind: 7}), api.ErrKind)
		run(t, w, send(n))
		refused(t, w, has(n, list()), api.ErrBusy)
		run(t, w, deliver(0))
		refused(t, w, has(n, list()), api.ErrBusy)
		run(t, w, deliver(0), has(n, list()))
	}
}

func TestCallSendsNothing(t *testing.T) {
	w := world.New()
	run(t, w, has(0, create("a")), has(2, list()))
	wantPackets(t, w)
	wantLog(t, w)
	wantDone(t, w, 0, true)
	wantDone(t, w, 1, false)
	wantDone(t, w, 2, true)
}

func TestAClientHasMaxCalls(t *testing.T) {
	w := world.New()
	for range api.MaxCalls {
		asked(t, w, 1, list())
	}
	refused(t, w, has(1, list()), api.ErrFull)
	refused(t, w, has(1, create("a")), api.ErrFull)
	refused(t, w, has(1, api.Call{}), api.ErrKind)
	refused(t, w, send(1), api.ErrNone)
	wantCalm(t, w, 0)
	asked(t, w, 0, list())
	if got := len(w.Client(1).Done()); got != api.MaxCalls {
		t.Errorf("client 1 was answered %d calls", got)
	}
}

// TestTheLastCallOfAClientIsDone: a record with the number MaxCalls has its place in the log.
func TestTheLastCallOfAClientIsDone(t *testing.T) {
	w := world.New()
	for range api.MaxCalls - 1 {
		asked(t, w, 2, list())
	}
	asked(t, w, 2, create("a"))
	wantLog(t, w, record(2, api.MaxCalls, create("a"), code(0)))
	refused(t, w, has(2, list()), api.ErrFull)
}

func TestSendOfNoClient(t *testing.T) {
	for _, w := range []*world.World{world.New(), fullMail(t, list())} {
		for _, n := range odd() {
			refused(t, w, send(n), api.ErrRange)
		}
	}
}

func TestSendWithoutACall(t *testing.T) {
	w := world.New()
	for n := range api.Clients {
		refused(t, w, send(n), api.ErrNone)
		asked(t, w, n, create("a"))
		refused(t, w, send(n), api.ErrNone)
	}
	w = fullMail(t, list())
	refused(t, w, send(0), api.ErrNone)
	refused(t, w, send(2), api.ErrNone)
}

func TestSendAgainAndAgain(t *testing.T) {
	w := world.New()
	run(t, w, has(2, create("a")), has(0, list()), send(2), send(0), send(2))
	a, b := asks(2, 1, create("a")), asks(0, 1, list())
	wantPackets(t, w, a, b, a)
	run(t, w, deliver(0), send(2))
	wantPackets(t, w, b, a, reply(2, 1, create("a"), code(0)), a)
}

func TestSendWithMaxMail(t *testing.T) {
	w := fullMail(t, list())
	run(t, w, has(0, create("a")))
	refused(t, w, send(0), api.ErrFull)
	refused(t, w, send(1), api.ErrFull)
	run(t, w, lose(0), send(0))
	refused(t, w, send(0), api.ErrFull)
	got := w.Packets()
	if len(got) != api.MaxMail || got[api.MaxMail-1] != asks(0, 1, create("a")) {
		t.Errorf("the packets are %+v", got)
	}
}

// TestDeliverWithMaxMail: the packet that comes makes room for the reply.
func TestDeliverWithMaxMail(t *testing.T) {
	w := fullMail(t, list())
	for range api.MaxMail {
		run(t, w, deliver(0))
		if got := len(w.Packets()); got != api.MaxMail {
			t.Fatalf("there are %d packets", got)
		}
	}
	for n, p := range w.Packets() {
		if p != reply(1, 1, list(), text("")) {
			t.Errorf("packet %d is %+v", n, p)
		}
	}
	refused(t, w, send(1), api.ErrFull)
	wantCalm(t, w, 0)
	wantPackets(t, w)
	wantDone(t, w, 1, false, record(1, 1, list(), text("")))
}

func TestWithoutAPacket(t *testing.T) {
	empty, busy := world.New(), world.New()
	asked(t, busy, 0, create("a"))
	run(t, busy, has(1, put("a", "x")), send(1), lose(0))
	for _, w := range []*world.World{empty, busy} {
		for _, n := range append(odd(), 0, 1, 2) {
			refused(t, w, deliver(n), api.ErrNone)
			refused(t, w, lose(n), api.ErrNone)
			refused(t, w, double(n), api.ErrNone)
			for _, keep := range []int{0, 1, 99, -1, math.MinInt, math.MaxInt} {
				refused(t, w, tear(n, keep), api.ErrNone)
			}
		}
		before := told(w)
		run(t, w, crash())
		wantState(t, w, before)
	}
}

func TestDouble(t *testing.T) {
	w := world.New()
	run(t, w, has(0, create("a")), has(1, list()), send(0), send(1), double(0))
	a, b := asks(0, 1, create("a")), asks(1, 1, list())
	wantPackets(t, w, a, b, a)
	run(t, w, double(1), double(4))
	wantPackets(t, w, a, b, a, b, a) // 4 of 4 is the first one
	run(t, w, deliver(1), double(-1))
	r := reply(1, 1, list(), text(""))
	wantPackets(t, w, a, a, b, a, r, a) // 2^64-1 of 5 is 0
	run(t, w, double(4))
	wantPackets(t, w, a, a, b, a, r, a, r)
}

func TestDoubleWithMaxMail(t *testing.T) {
	w := world.New()
	run(t, w, has(0, list()), send(0))
	for range api.MaxMail - 1 {
		run(t, w, double(0))
	}
	for _, n := range append(odd(), 0, api.MaxMail-1, api.MaxMail) {
		refused(t, w, double(n), api.ErrFull)
	}
	run(t, w, lose(3), double(7))
	refused(t, w, double(0), api.ErrFull)
}

// trio: the packets of three clients, in their order.
func trio(t *testing.T, w *world.World) []api.Packet {
	t.Helper()
	run(t, w, has(0, create("a")), has(1, create("b")), has(2, list()), send(0), send(1), send(2))
	return w.Packets()
}

// TestCountedRound: 2^64 is 1 by 3, so that -1 is 0 by 3, and -2 is 2.
func TestCountedRound(t *testing.T) {
	for n, want := range map[int]int{0: 0, 1: 1, 2: 2, 3: 0, 4: 1, 5: 2, -1: 0, -2: 2, -3: 1, math.MaxInt: 1, math.MinInt: 2, math.MinInt + 1: 0} {
		for _, x := range []api.Step{lose(n), deliver(n), tear(n, 0), double(n)} {
			w := world.New()
			three := trio(t, w)
			run(t, w, x)
			left := slices.Delete(slices.Clone(three), want, want+1)
			switch x.Kind {
			case api.SDouble:
				left = append(three, three[want])
			case api.SDeliver:
				p := three[want]
				p.Reply = true
				left = append(left, p)
			}
			wantPackets(t, w, left...)
		}
	}
}

func TestLose(t *testing.T) {
	w := world.New()
	three := trio(t, w)
	before := told(w)
	for _, left := range [][]api.Packet{{three[0], three[2]}, {three[0]}, nil} {
		run(t, w, lose(1))
		before.Packets = left
		wantState(t, w, before)
	}
	refused(t, w, lose(1), api.ErrNone)
}

// TestDeliverOfACall: it is done, and the same packet goes back, behind all others.
func TestDeliverOfACall(t *testing.T) {
	w := world.New()
	three := trio(t, w)
	run(t, w, deliver(1))
	wantPackets(t, w, three[0], three[2], reply(1, 1, create("b"), code(0)))
	wantLog(t, w, record(1, 1, create("b"), code(0)))
	wantNames(t, w, "b")
	wantDone(t, w, 1, true)
	run(t, w, deliver(1))
	wantPackets(t, w, three[0], reply(1, 1, create("b"), code(0)), reply(2, 1, list(), text("b")))
	wantLog(t, w, record(1, 1, create("b"), code(0)))
	run(t, w, deliver(2), deliver(1))
	wantPackets(t, w, three[0])
	wantDone(t, w, 0, true)
	wantDone(t, w, 1, false, record(1, 1, create("b"), code(0)))
	wantDone(t, w, 2, false, record(2, 1, list(), text("b")))
}

// TestAnswersThatAreCodes: a call that files refuse is answered, and stands in the log, too.
func TestAnswersThatAreCodes(t *testing.T) {
	w := world.New()
	asked(t, w, 0, remove("a"))
	asked(t, w, 1, read("a"))
	asked(t, w, 0, create("a"))
	asked(t, w, 2, create("a"))
	wantLog(t, w, record(0, 1, remove("a"), code(api.ErrNone)), record(0, 2, create("a"), code(0)), record(2, 1, create("a"), code(api.ErrThere)))
	wantDone(t, w, 0, false, record(0, 1, remove("a"), code(api.ErrNone)), record(0, 2, create("a"), code(0)))
	wantDone(t, w, 1, false, record(1, 1, read("a"), code(api.ErrNone)))
	wantDone(t, w, 2, false, record(2, 1, create("a"), code(api.ErrThere)))
}

func TestEachKindOfCall(t *testing.T) {
	w := world.New()
	asked(t, w, 0, create("b"))
	asked(t, w, 1, put("b", "x y"))
	asked(t, w, 2, read("b"))
	asked(t, w, 0, rename("b", "c"))
	asked(t, w, 1, create("a"))
	asked(t, w, 2, list())
	asked(t, w, 0, remove("a"))
	asked(t, w, 2, list())
	wantLog(t, w,
		record(0, 1, create("b"), code(0)), record(1, 1, put("b", "x y"), code(0)), record(0, 2, rename("b", "c"), code(0)),
		record(1, 2, create("a"), code(0)), record(0, 3, remove("a"), code(0)))
	wantDone(t, w, 2, false, record(2, 1, read("b"), text("x y")), record(2, 2, list(), text("a c")), record(2, 3, list(), text("c")))
	for n, want := range []int{3, 2, 0} {
		if got := w.Last(n); got != want {
			t.Errorf("Last(%d): %d, want %d", n, got, want)
		}
	}
}

// TestTwiceIsDoneOnce: the document's first example.
func TestTwiceIsDoneOnce(t *testing.T) {
	w := world.New()
	run(t, w, has(0, create("a")), send(0), double(0), deliver(0), deliver(0))
	r := reply(0, 1, create("a"), code(0))
	wantPackets(t, w, r, r)
	wantLog(t, w, record(0, 1, create("a"), code(0)))
	run(t, w, deliver(0), deliver(0))
	wantPackets(t, w)
	wantDone(t, w, 0, false, record(0, 1, create("a"), code(0)))
}

// TestLateReplies: of a call that was answered, and of one ahead of the call that the client has.
func TestLateReplies(t *testing.T) {
	w := world.New()
	run(t, w, has(0, read("a")), send(0), double(0), double(0), deliver(0), deliver(0), deliver(0), deliver(0))
	done := record(0, 1, read("a"), code(api.ErrNone))
	wantDone(t, w, 0, false, done)
	run(t, w, deliver(0))
	wantDone(t, w, 0, false, done)
	run(t, w, has(0, read("a")), deliver(0))
	wantPackets(t, w)
	wantDone(t, w, 0, true, done)
	asked(t, w, 1, create("a"))
	wantCalm(t, w, 1)
	wantDone(t, w, 0, false, done, record(0, 2, read("a"), text("")))
}

// TestReadTwice: each packet of a call that changes nothing is answered anew; the first reply that comes is the answer.
func TestReadTwice(t *testing.T) {
	w := world.New()
	asked(t, w, 0, create("a"))
	run(t, w, has(1, read("a")), send(1), double(0), deliver(0))
	run(t, w, has(0, put("a", "x")), send(0), deliver(2), lose(2))
	run(t, w, deliver(0))
	wantPackets(t, w, reply(1, 1, read("a"), text("")), reply(1, 1, read("a"), text("x")))
	run(t, w, deliver(1), deliver(0))
	wantDone(t, w, 1, false, record(1, 1, read("a"), text("x")))
	wantDone(t, w, 0, true, record(0, 1, create("a"), code(0)))
}

// TestOldCallsAreNotAnswered: the document's third example.
func TestOldCallsAreNotAnswered(t *testing.T) {
	w := world.New()
	run(t, w, has(0, create("a")), send(0), double(0), double(0), deliver(0), deliver(2))
	asked(t, w, 0, remove("a"))
	left := asks(0, 1, create("a"))
	before := told(w)
	wantPackets(t, w, left, left)
	run(t, w, deliver(1))
	before.Packets = []api.Packet{left}
	wantState(t, w, before)
	run(t, w, deliver(0))
	before.Packets = nil
	wantState(t, w, before)
}

func TestTearOfAnOldCallHasItsCode(t *testing.T) {
	for _, keep := range []int{math.MinInt, -1, 0, 5, 9, 99, math.MaxInt} {
		w := world.New()
		run(t, w, has(0, create("a")), send(0), double(0), deliver(0), deliver(1))
		asked(t, w, 0, remove("a"))
		before := told(w)
		if got := w.Step(tear(0, keep)); got != api.ErrOld {
			t.Errorf("tear: %d, want ErrOld", got)
		}
		before.Packets = nil // it is taken all the same
		wantState(t, w, before)
	}
}

func TestTearOfAReply(t *testing.T) {
	for _, keep := range []int{math.MinInt, -1, 0, 5, 9, 99, math.MaxInt} {
		w := world.New()
		run(t, w, has(0, create("a")), has(1, list()), send(0), send(1), deliver(0))
		run(t, w, tear(1, keep))
		wantPackets(t, w, asks(1, 1, list()))
		wantDone(t, w, 0, true)
		wantLog(t, w, record(0, 1, create("a"), code(0)))
		run(t, w, send(0), deliver(1), deliver(1))
		wantDone(t, w, 0, false, record(0, 1, create("a"), code(0)))
		wantLog(t, w, record(0, 1, create("a"), code(0)))
	}
}

// TestTearOfACall with each number of bytes kept: the document's second example.
func TestTearOfACall(t *testing.T) {
	for _, c := range []api.Call{create("b"), create("a"), remove("a"), rename("a", "bcd"), put("a", "12345678"), put("q", "x")} {
		answer := files.New()
		answer.Do(create("a"))
		mine := record(1, 1, c, answer.Do(c))
		whole := len(written(t, mine))
		for _, keep := range append([]int{math.MinInt, math.MinInt + 1, -1, 256, 1 << 32, -1 << 32, math.MaxInt}, upTo(whole+3)...) {
			w := world.New()
			asked(t, w, 0, create("a"))
			want := []api.Record{record(0, 1, create("a"), code(0))}
			run(t, w, has(1, c), send(1), double(0), tear(0, keep))
			wantPackets(t, w, asks(1, 1, c))
			if keep >= whole {
				want = append(want, mine)
				wantLog(t, w, want...)
				wantNames(t, w, answer.Names()...)
			} else {
				wantLog(t, w, want...)
				wantNames(t, w, "a")
				want = append(want, mine)
			}
			wantDone(t, w, 1, true)
			run(t, w, deliver(0), deliver(0))
			wantLog(t, w, want...)
			wantDone(t, w, 1, false, mine)
		}
	}
}

func upTo(n int) []int {
	var out []int
	for k := range n + 1 {
		out = append(out, k)
	}
	return out
}

// TestTearOfACallThatIsDone: it brings nothing to the log, and nothing is lost.
func TestTearOfACallThatIsDone(t *testing.T) {
	for keep := -1; keep < 12; keep++ {
		w := world.New()
		run(t, w, has(0, create("a")), send(0), double(0), deliver(0), lose(1))
		before := told(w)
		run(t, w, tear(0, keep))
		before.Packets = nil
		wantState(t, w, before)
		wantCalm(t, w, 1)
		wantDone(t, w, 0, false, record(0, 1, create("a"), code(0)))
		wantLog(t, w, record(0, 1, create("a"), code(0)))
	}
}

func TestTearOfACallThatAsks(t *testing.T) {
	for keep := -1; keep < 12; keep++ {
		w := world.New()
		asked(t, w, 0, create("a"))
		run(t, w, has(1, read("a")), send(1))
		before := told(w)
		run(t, w, tear(0, keep))
		before.Packets = nil
		wantState(t, w, before)
	}
}

// TestCrashAtAnyTime: between any two steps a crash changes nothing that can be asked.
func TestCrashAtAnyTime(t *testing.T) {
	steps := []api.Step{
		has(0, create("a")), send(0), double(0), deliver(0), deliver(1), has(1, put("a", "x")), send(1), has(2, read("a")), send(2),
		deliver(1), tear(0, 5), deliver(0), deliver(0), deliver(0), has(0, rename("a", "b")), send(0), tear(0, 99), send(0), lose(0), send(0), deliver(0), deliver(0),
	}
	for at := range len(steps) + 1 {
		w, calm := world.New(), world.New()
		for n, x := range steps {
			if n == at {
				run(t, w, crash(), crash())
			}
			if got, want := w.Step(x), calm.Step(x); got != want {
				t.Fatalf("crash at %d, step %d: %d, want %d", at, n, got, want)
			}
			wantState(t, w, told(calm))
		}
		run(t, w, crash())
		wantState(t, w, told(calm))
	}
}

func TestNoSuchKind(t *testing.T) {
	worlds := []*world.World{world.New(), fullMail(t, create("a"))}
	for _, w := range worlds {
		for _, kind := range []int{0, -1, 8, 9, 1 << 8, 1<<8 + 1, 1 << 32, 1<<32 + 3, -1 << 32, math.MinInt, math.MaxInt} {
			for _, n := range append(odd(), 0, 1) {
				refused(t, w, api.Step{Kind: kind, N: n, Keep: 3, Call: create("a")}, api.ErrKind)
			}
		}
	}
}

// TestCodesByHand holds the codes against the document's numbers.
func TestCodesByHand(t *testing.T) {
	w := world.New()
	for n, x := range []struct {
		s    api.Step
		want int
	}{
		{api.Step{Kind: 1, N: 3, Call: api.Call{Kind: 6}}, 9},
		{api.Step{Kind: 1, N: 0, Call: api.Call{Kind: 7}}, 1},
		{api.Step{Kind: 2, N: -1}, 9},
		{api.Step{Kind: 2, N: 2}, 6},
		{api.Step{Kind: 3}, 6},
		{api.Step{Kind: 4}, 6},
		{api.Step{Kind: 5}, 6},
		{api.Step{Kind: 6}, 0},
		{api.Step{Kind: 7}, 6},
		{api.Step{Kind: 8}, 1},
		{api.Step{Kind: 1, N: 2, Call: api.Call{Kind: 6}}, 0},
		{api.Step{Kind: 1, N: 2, Call: api.Call{Kind: 6}}, 11},
		{api.Step{Kind: 2, N: 2}, 0},
		{api.Step{Kind: 3}, 0},
		{api.Step{Kind: 5}, 0},
		{api.Step{Kind: 3}, 0},
		{api.Step{Kind: 4}, 0},
		{api.Step{Kind: 3}, 6},
	} {
		if got := w.Step(x.s); got != x.want {
			t.Errorf("step %d, %+v: %d, want %d", n, x.s, got, x.want)
		}
	}
}

// TestOnlyItsOwnFieldsCount: what a kind of step does not speak of may be anything.
func TestOnlyItsOwnFieldsCount(t *testing.T) {
	steps := []api.Step{has(1, create("a")), send(1), double(0), deliver(0), lose(0), crash(), deliver(0), has(1, list()), send(1), crash(), tear(0, 4), has(1, api.Call{}), send(1)}
	other := []api.Call{{}, create("z"), {Kind: -1, Name: strings.Repeat("\xff", 1<<16)}}
	for _, n := range []int{-7, 5, math.MaxInt} {
		for _, c := range other {
			w, plain := world.New(), world.New()
			for _, x := range steps {
				y := x
				if x.Kind != api.SCall {
					y.Call = c
				}
				if x.Kind != api.STear {
					y.Keep = n
				}
				if x.Kind == api.SCrash {
					y.N = n
				}
				if got, want := w.Step(y), plain.Step(x); got != want {
					t.Fatalf("%+v: %d, want %d", y, got, want)
				}
				wantState(t, w, told(plain))
			}
		}
	}
}

func TestCalmWithNothingOpen(t *testing.T) {
	w := world.New()
	run(t, w, has(0, create("a")), send(0), double(0), double(0), deliver(0), deliver(2))
	before := told(w)
	wantCalm(t, w, 0)
	before.Packets = nil
	wantState(t, w, before)
	wantCalm(t, w, 0)
	wantState(t, w, before)
}

// TestCalmOfPacketsOnTheirWay: what is on its way is answered without another sending.
func TestCalmOfPacketsOnTheirWay(t *testing.T) {
	w := world.New()
	trio(t, w)
	run(t, w, deliver(0))
	wantCalm(t, w, 0)
	wantPackets(t, w)
	wantLog(t, w, record(0, 1, create("a"), code(0)), record(1, 1, create("b"), code(0)))
	wantDone(t, w, 0, false, record(0, 1, create("a"), code(0)))
	wantDone(t, w, 1, false, record(1, 1, create("b"), code(0)))
	wantDone(t, w, 2, false, record(2, 1, list(), text("a b")))
}

// TestCalmTakesTheFirstPacket: not the last one, nor a reply ahead of a call.
func TestCalmTakesTheFirstPacket(t *testing.T) {
	w := world.New()
	run(t, w, has(2, create("a")), has(0, read("a")), has(1, remove("a")), send(0), send(2), send(0), send(1))
	wantCalm(t, w, 0)
	wantLog(t, w, record(2, 1, create("a"), code(0)), record(1, 1, remove("a"), code(0)))
	wantDone(t, w, 0, false, record(0, 1, read("a"), code(api.ErrNone)))
}

// TestCalmSends: all clients that have a call, from the first to the last, is once.
func TestCalmSends(t *testing.T) {
	w := world.New()
	run(t, w, has(2, create("a")), has(1, remove("a")), has(0, put("a", "x")))
	wantCalm(t, w, 1)
	wantPackets(t, w)
	wantLog(t, w, record(0, 1, put("a", "x"), code(api.ErrNone)), record(1, 1, remove("a"), code(api.ErrNone)), record(2, 1, create("a"), code(0)))
	for n := range api.Clients {
		if w.Client(n).Open() || len(w.Client(n).Done()) != 1 {
			t.Errorf("client %d was not answered", n)
		}
	}
	run(t, w, has(1, list()))
	wantCalm(t, w, 1)
	wantDone(t, w, 1, false, record(1, 1, remove("a"), code(api.ErrNone)), record(1, 2, list(), text("a")))
	wantCalm(t, w, 0)
}

func TestCalmOfOneThatWasLostAndOneThatWasNot(t *testing.T) {
	w := world.New()
	run(t, w, has(0, create("a")), has(1, list()), send(0), send(1), lose(0))
	wantCalm(t, w, 1)
	wantDone(t, w, 0, false, record(0, 1, create("a"), code(0)))
	wantDone(t, w, 1, false, record(1, 1, list(), text("")))
}

func TestCalmWithLostDoubledAndLatePackets(t *testing.T) {
	w := world.New()
	run(t, w, has(0, create("a")), send(0), double(0), double(0), deliver(0), deliver(2)) // two late ones
	run(t, w, has(0, remove("a")), send(0), lose(2))                                      // a lost one
	run(t, w, has(1, create("b")), send(1), tear(2, 99))                                  // a lost reply
	run(t, w, has(2, create("c")), send(2), tear(2, 4))                                   // a torn one
	wantPackets(t, w, asks(0, 1, create("a")), asks(0, 1, create("a")))
	wantCalm(t, w, 1)
	wantPackets(t, w)
	wantLog(t, w, record(0, 1, create("a"), code(0)), record(1, 1, create("b"), code(0)), record(0, 2, remove("a"), code(0)), record(2, 1, create("c"), code(0)))
	wantDone(t, w, 0, false, record(0, 1, create("a"), code(0)), record(0, 2, remove("a"), code(0)))
	wantDone(t, w, 1, false, record(1, 1, create("b"), code(0)))
	wantDone(t, w, 2, false, record(2, 1, create("c"), code(0)))
}

// TestCalmWithMaxMail: all places are taken when it begins.
func TestCalmWithMaxMail(t *testing.T) {
	w := fullMail(t, create("a"))
	run(t, w, has(0, list()))
	wantCalm(t, w, 1)
	wantPackets(t, w)
	wantLog(t, w, record(1, 1, create("a"), code(0)))
	wantDone(t, w, 0, false, record(0, 1, list(), text("a")))
	wantDone(t, w, 1, false, record(1, 1, create("a"), code(0)))
}

func TestAFullLogAnswersNoNewCall(t *testing.T) {
	w := fullLog(t)
	run(t, w, has(2, remove("a")), send(2))
	before := told(w)
	before.Packets = nil
	run(t, w, deliver(0))
	wantState(t, w, before)
	for _, keep := range []int{-1, 0, 5, 99} {
		run(t, w, send(2))
		if got := w.Step(tear(0, keep)); got != api.ErrFull {
			t.Errorf("tear: %d, want ErrFull", got)
		}
		wantState(t, w, before) // it is taken all the same
	}
	run(t, w, crash())
	wantState(t, w, before)
}

// TestCalmWithAFullLog: the clients send three times, and what has no room is not
// answered; what only asks is.
func TestCalmWithAFullLog(t *testing.T) {
	w := fullLog(t)
	run(t, w, has(2, remove("a")), send(2), has(0, list()), has(1, remove("a")))
	before := told(w)
	for range 3 {
		wantCalm(t, w, 3)
		before.Packets, before.Open[0], before.Done[0] = nil, false, w.Client(0).Done()
		wantState(t, w, before)
	}
	got := before.Done[0][len(before.Done[0])-1]
	if got.Call != list() || got.Answer != text("a") {
		t.Errorf("the list is %+v", got)
	}
	wantDone(t, w, 2, true)
	refused(t, w, has(2, list()), api.ErrBusy)
}

// TestCalmWithRoomForSome: one that has no room, behind it one that has.
func TestCalmWithRoomForSome(t *testing.T) {
	w := world.New()
	for n := 0; len(w.Log()) < api.MaxBytes-20; n++ {
		asked(t, w, 2*(n%2), create("a"))
	}
	room := api.MaxBytes - len(w.Log())
	run(t, w, has(0, put("abcde", "12345678")), has(1, create("b")))
	if len(written(t, record(0, 1, put("abcde", "12345678"), code(0)))) <= room || room < 9 {
		t.Fatalf("there is room for %d bytes", room)
	}
	wantCalm(t, w, 3)
	wantPackets(t, w)
	wantDone(t, w, 1, false, record(1, 1, create("b"), code(0)))
	if !w.Client(0).Open() || w.Last(1) != 1 {
		t.Errorf("client 0: Open %v, client 1: Last %d", w.Client(0).Open(), w.Last(1))
	}
	wantNames(t, w, "a", "b")
}

// TestTheLogFullToTheLastByte: there the bound is MaxBytes, and not one less.
func TestTheLogFullToTheLastByte(t *testing.T) {
	w := world.New()
	for range api.MaxBytes / 10 {
		asked(t, w, 1, create("ab"))
	}
	if got := len(w.Log()); got != api.MaxBytes {
		t.Fatalf("the log has %d bytes", got)
	}
	refused(t, w, has(1, create("ab")), api.ErrFull)
	run(t, w, has(0, create("a")))
	wantCalm(t, w, 3)
	wantDone(t, w, 0, true)
}

func TestWrongSteps(t *testing.T) {
	w := fullMail(t, create("a"))
	long := strings.Repeat("a", 1<<16)
	for _, c := range []api.Call{{}, {Kind: math.MinInt}, {Kind: math.MaxInt}, create(long), put("a", long), put("a", "\x00"), rename("a", long), {Kind: api.CList, Text: long}, read("ä"), create("a b")} {
		for n := range api.Clients {
			want := files.Check(c)
			refused(t, w, has(n, c), want)
			refused(t, world.New(), has(n, c), want)
		}
	}
}

func TestPacketsAreNewMemory(t *testing.T) {
	w := world.New()
	trio(t, w)
	before := told(w)
	first, second := w.Packets(), w.Packets()
	clear(first[:cap(first)])
	if !slices.Equal(second, before.Packets) {
		t.Errorf("two lists share memory: %+v", second)
	}
	_ = append(second[:1], api.Packet{}, api.Packet{})
	clear(w.Log())
	clear(w.Names())
	clear(w.Client(0).Done())
	wantState(t, w, before)
	was := w.Packets()
	run(t, w, deliver(0), lose(0), double(0))
	if !slices.Equal(was, before.Packets) {
		t.Errorf("what was told is now %+v", was)
	}
}

// apart: has no text of the one list its place in the memory of the other?
func apart(t *testing.T, what string, a, b []string) {
	t.Helper()
	for _, s := range a {
		for _, u := range b {
			if s != "" && u != "" && unsafe.StringData(s) == unsafe.StringData(u) {
				t.Errorf("%s: %q shares memory", what, s)
			}
		}
	}
}

func texts(p api.Packet) []string {
	return []string{p.Call.Name, p.Call.To, p.Call.Text, p.Answer.Text}
}

func TestTextsAreNewMemory(t *testing.T) {
	w := world.New()
	asked(t, w, 1, create("abc"))
	for _, c := range []api.Call{put("abc", "xyz"), read("abc"), list(), rename("abc", "def")} {
		given := texts(asks(0, 0, c))
		run(t, w, has(0, c), send(0), double(0))
		two := w.Packets()
		apart(t, "given and sent", given, texts(two[0]))
		apart(t, "two packets", texts(two[0]), texts(two[1]))
		run(t, w, deliver(0), deliver(0))
		replies, again := w.Packets(), w.Packets()
		apart(t, "two replies", texts(replies[0]), texts(replies[1]))
		apart(t, "told twice", texts(replies[0]), texts(again[0]))
		run(t, w, deliver(0), deliver(0))
		done := w.Client(0).Done()
		last := done[len(done)-1]
		mine := texts(reply(0, 0, last.Call, last.Answer))
		for _, other := range [][]string{given, texts(two[0]), texts(replies[0]), texts(replies[1]), w.Names()} {
			apart(t, "done", mine, other)
		}
	}
}

// TestTextsAreNotKept: the bytes of the texts of a step are turned once it is taken.
func TestTextsAreNotKept(t *testing.T) {
	w, plain := world.New(), world.New()
	for n, c := range []api.Call{create("abc"), put("abc", "xyz"), read("abc"), rename("abc", "def"), list(), remove("def")} {
		lent := c
		var all [][]byte
		for _, s := range []*string{&lent.Name, &lent.To, &lent.Text} {
			if *s != "" {
				b := []byte(*s)
				all = append(all, b)
				*s = unsafe.String(&b[0], len(b))
			}
		}
		run(t, w, has(n%2, lent))
		for _, b := range all {
			b[0] = '?'
		}
		run(t, plain, has(n%2, c))
		for _, x := range []api.Step{send(n % 2), double(0), deliver(0), deliver(1), lose(0)} {
			run(t, w, x)
			run(t, plain, x)
			wantState(t, w, told(plain))
		}
	}
}

func TestWorldsStandApart(t *testing.T) {
	a, b := world.New(), world.New()
	asked(t, a, 0, create("a"))
	run(t, a, has(1, list()), send(1))
	wantState(t, b, told(world.New()))
	run(t, b, has(1, create("b")), send(1), deliver(0))
	wantNames(t, a, "a")
	wantPackets(t, a, asks(1, 1, list()))
	before := told(a)
	wantCalm(t, b, 0)
	run(t, b, crash())
	wantState(t, a, before)
}
