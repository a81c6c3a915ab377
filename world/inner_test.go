package world

import (
	"math"
	"slices"
	"testing"

	"postilion/api"
)

// strange: packets that no client of the world sent, and no store answered. None
// comes by steps alone, so that they are laid into the mail here.
func strange() []api.Packet {
	read, create := api.Call{Kind: api.CRead, Name: "a"}, api.Call{Kind: api.CMake, Name: "b"}
	var out []api.Packet
	for _, n := range []int{-1, api.Clients, api.Clients + 1, 1 << 32, math.MinInt, math.MaxInt} {
		out = append(out,
			api.Packet{Reply: true, Client: n, No: 1, Call: create},
			api.Packet{Reply: true, Client: n, No: 1, Call: read, Answer: api.Answer{Text: "x"}},
			api.Packet{Client: n, No: 1, Call: create},
			api.Packet{Client: n, No: 1, Call: read})
	}
	for _, no := range []int{0, -1, api.MaxCalls + 1, math.MinInt, math.MaxInt} {
		out = append(out, api.Packet{Client: 1, No: no, Call: create}, api.Packet{Reply: true, Client: 1, No: no, Call: create})
	}
	return append(out,
		api.Packet{}, api.Packet{Reply: true},
		api.Packet{Client: 1, No: 1, Call: api.Call{Kind: api.CMake, Name: "A"}},
		api.Packet{Reply: true, Client: 1, No: 1, Call: read},
		api.Packet{Reply: true, Client: 1, No: 2, Call: create})
}

// ready: a world with one file, and an open call of client 1.
func ready(t *testing.T) *World {
	t.Helper()
	w := New()
	for _, x := range []api.Step{
		{Kind: api.SCall, Call: api.Call{Kind: api.CMake, Name: "a"}}, {Kind: api.SSend}, {Kind: api.SDeliver}, {Kind: api.SDeliver},
		{Kind: api.SCall, N: 1, Call: api.Call{Kind: api.CMake, Name: "b"}},
	} {
		if code := w.Step(x); code != 0 {
			t.Fatalf("%+v: %d", x, code)
		}
	}
	return w
}

// unmoved: nothing came of a packet.
func unmoved(t *testing.T, w *World, p api.Packet) {
	t.Helper()
	if w.mail.Len() != 0 || len(w.Log()) != 9 || !slices.Equal(w.Names(), []string{"a"}) || !w.Client(1).Open() || len(w.Client(1).Done()) != 0 || len(w.Client(0).Done()) != 1 || w.Client(2).Open() {
		t.Errorf("%+v: packets %+v, log %q, names %q", p, w.Packets(), w.Log(), w.Names())
	}
}

func TestStrangePacketsAreNothing(t *testing.T) {
	for _, p := range strange() {
		w := ready(t)
		w.mail.Send(p)
		if code := w.Step(api.Step{Kind: api.SDeliver}); code != 0 {
			t.Errorf("%+v: %d", p, code)
		}
		unmoved(t, w, p)
	}
}

// TestStrangePacketsTorn: the store's code is told, of a Reply none.
func TestStrangePacketsTorn(t *testing.T) {
	for _, p := range strange() {
		w := ready(t)
		want := 0
		if !p.Reply {
			_, want = ready(t).Call(p.Client, p.No, p.Call)
		}
		w.mail.Send(p)
		if code := w.Step(api.Step{Kind: api.STear, Keep: 99}); code != want {
			t.Errorf("%+v: %d, want %d", p, code, want)
		}
		unmoved(t, w, p)
	}
}

func TestCalmWithStrangePackets(t *testing.T) {
	w := ready(t)
	for _, p := range strange() {
		w.mail.Send(p)
	}
	if got := w.Calm(); got != 1 || w.mail.Len() != 0 || len(w.Client(1).Done()) != 1 || len(w.Log()) != 18 {
		t.Errorf("Calm: %d, packets %+v, log %q", got, w.Packets(), w.Log())
	}
}

// TestCrashForgetsAllButTheLog: a file is made past the log here, as no step makes
// one, because all else that a store has follows from its log.
func TestCrashForgetsAllButTheLog(t *testing.T) {
	past := api.Call{Kind: api.CMake, Name: "z"}
	call := api.Packet{Client: 2, No: 1, Call: api.Call{Kind: api.CList}}
	answer := api.Packet{Reply: true, Client: 2, No: 1, Call: call.Call}
	old := api.Packet{No: 0, Call: past}
	for _, x := range []struct {
		p     api.Packet
		s     api.Step
		names []string
	}{
		{call, api.Step{Kind: api.SCrash}, []string{"a"}},
		{call, api.Step{Kind: api.STear}, []string{"a"}},
		{answer, api.Step{Kind: api.STear}, []string{"a"}},
		{old, api.Step{Kind: api.STear}, []string{"a", "z"}}, // it has a code: nothing is done
		{call, api.Step{Kind: api.SLose}, []string{"a", "z"}},
		{call, api.Step{Kind: api.SDeliver}, []string{"a", "z"}},
		{answer, api.Step{Kind: api.SDeliver}, []string{"a", "z"}},
	} {
		w := ready(t)
		w.mail.Send(x.p)
		w.Do(past)
		w.Step(x.s)
		if got := w.Names(); !slices.Equal(got, x.names) {
			t.Errorf("%+v of %+v: the names are %q, want %q", x.s, x.p, got, x.names)
		}
	}
}
