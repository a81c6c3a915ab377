package story_test

import (
	"slices"
	"testing"

	"postilion/api"
	"postilion/codec"
	"postilion/files"
	"postilion/store"
	"postilion/story"
	"postilion/world"
)

// dice is a row of numbers that is the same each time.
type dice uint32

func (d *dice) roll(n int) int {
	*d = *d*1664525 + 1013904223
	return int(*d>>16) % n
}

func (d *dice) name() string { return []string{"a", "b", "c", "dd", "eeeee", "f", "g"}[d.roll(7)] }

// change is a call that may change something, on few names, so that all answers come up.
func (d *dice) change() api.Call {
	switch d.roll(8) {
	case 0, 1, 2:
		return create(d.name())
	case 3:
		return remove(d.name())
	case 4:
		return rename(d.name(), d.name())
	}
	return put(d.name(), "12345678"[:1+d.roll(8)])
}

// call only asks now and then, and now and then it is wrong.
func (d *dice) call() api.Call {
	switch d.roll(8) {
	case 0:
		return read(d.name())
	case 1:
		return list()
	case 2:
		return api.Call{Kind: d.roll(9) - 1, Name: "abcdefg"[:d.roll(8)], To: "x"[:d.roll(2)], Text: "123456789"[:d.roll(10)]}
	}
	return d.change()
}

// step: calls are sent and doubled, and their packets come, most of the time; at
// times they are lost or torn, or the server crashes.
func (d *dice) step() api.Step {
	kinds := []int{
		api.SCall, api.SCall, api.SCall, api.SSend, api.SSend, api.SSend, api.SSend, api.SDouble, api.SLose, api.STear, api.SCrash,
	}
	for range 11 {
		kinds = append(kinds, api.SDeliver)
	}
	return api.Step{Kind: kinds[d.roll(len(kinds))], N: d.roll(api.Clients), Keep: d.roll(30) - 3, Call: d.call()}
}

// textOf: what a store's files have, told by the store.
func textOf(names []string, do func(api.Call) api.Answer) string {
	out := ""
	for _, n := range names {
		out += n + "=" + do(read(n)).Text + "\n"
	}
	return out
}

// TestLogsOfDrawnScripts: the story of a world's log tells what the world tells, as
// the log grows, and behind its end.
func TestLogsOfDrawnScripts(t *testing.T) {
	longest := 0
	for seed := range 40 {
		d, w := dice(seed*7919), world.New()
		for k := range 3000 {
			w.Step(d.step())
			if k%150 == 0 {
				wantWorld(t, w)
			}
		}
		wantWorld(t, w)
		w.Calm()
		s := wantWorld(t, w)
		all, _ := codec.All(w.Log())
		wantStory(t, s, all)
		longest = max(longest, s.Len())
	}
	if longest < 100 {
		t.Errorf("the longest log has only %d records", longest)
	}
}

// wantWorld: at the log's end the files are the world's; each record's answer is
// what its call would be answered behind those ahead of it; and each call that was
// answered stands there once, if it may change something, and else not.
func wantWorld(t *testing.T, w *world.World) *story.Story {
	t.Helper()
	s := story.Of(w.Log())
	wantText(t, s, s.Len(), textOf(w.Names(), w.Do), true)
	for _, c := range []api.Call{list(), read("a"), read("dd"), read("zzz")} {
		wantWould(t, s, s.Len(), c, w.Do(c), true)
	}
	for n := range s.Len() {
		r, ok := s.Record(n)
		if !ok {
			t.Fatalf("of %d records there is no %d", s.Len(), n)
		}
		wantWould(t, s, n, r.Call, r.Answer, true)
		wantTimes(t, s, r.Client, r.No, 1)
	}
	for n := range api.Clients {
		for _, r := range w.Client(n).Done() {
			want := 0
			if files.Changes(r.Call.Kind) {
				want = 1
			}
			wantTimes(t, s, n, r.No, want)
		}
	}
	return s
}

// TestCutLogsOfDrawnScripts: the story of a log that is cut somewhere is that of
// what a store makes of it.
func TestCutLogsOfDrawnScripts(t *testing.T) {
	for seed := range 6 {
		d, w := dice(seed*104729+1), world.New()
		for range 700 {
			w.Step(d.step())
		}
		log := w.Log()
		for size := 0; size <= len(log); size += 1 + d.roll(9) {
			opened, _ := store.Open(log[:size])
			all, _ := codec.All(log)
			s := story.Of(log[:size])
			wantText(t, s, s.Len(), textOf(opened.Names(), opened.Do), true)
			wantText(t, s, s.Len()+1, "", false)
			if got := written(t, all[:s.Len()]...); !slices.Equal(got, opened.Log()) {
				t.Fatalf("of %d bytes the story has %d, the store %d", size, len(got), len(opened.Log()))
			}
			wantRecord(t, s, s.Len(), api.Record{}, false)
		}
	}
}

// TestDrawnRecords: of records with any client, number and answer, and with bytes
// turned and laid behind, as no store writes them.
func TestDrawnRecords(t *testing.T) {
	cut := 0
	for seed := range 300 {
		d := dice(seed*31 + 7)
		var all []api.Record
		for range d.roll(60) {
			all = append(all, record(d.roll(api.Clients), 1+d.roll(5)*d.roll(40), d.change(), d.roll(100)))
		}
		b := written(t, all...)
		for range d.roll(3) * d.roll(2) {
			if len(b) > 0 {
				b[d.roll(len(b))] = byte(d.roll(256))
			}
		}
		for range d.roll(12) {
			b = append(b, byte(d.roll(12)))
		}
		had := slices.Clone(b)
		left, n := codec.All(b)
		if n < len(b) {
			cut++
		}
		s := story.Of(b)
		wantStory(t, s, left)
		for range 60 {
			n, c := d.roll(len(left)+1), d.call()
			wantWould(t, s, n, c, plainOf(left[:n]).do(c), true)
		}
		wantStory(t, s, left)
		if !slices.Equal(b, had) {
			t.Fatalf("the bytes were %q, and are %q", had, b)
		}
	}
	if cut < 100 {
		t.Errorf("only %d had other bytes behind", cut)
	}
}
