package world_test

import (
	"math"
	"slices"
	"strconv"
	"testing"

	"postilion/api"
	"postilion/codec"
	"postilion/files"
	"postilion/world"
)

// dice is a row of numbers that is the same each time.
type dice uint32

func (d *dice) roll(n int) int {
	*d = *d*1664525 + 1013904223
	return int(*d>>16) % n
}

func (d *dice) name() string { return []string{"a", "b", "c", "dd", "eeeee", "f", "g"}[d.roll(7)] }

// call is on few names, so that all answers come up; now and then it is wrong.
func (d *dice) call() api.Call {
	switch d.roll(12) {
	case 0, 1, 2:
		return create(d.name())
	case 3:
		return remove(d.name())
	case 4:
		return rename(d.name(), d.name())
	case 5, 6, 7:
		return put(d.name(), "12345678"[:1+d.roll(8)])
	case 8, 9:
		return read(d.name())
	case 10:
		return list()
	}
	return api.Call{Kind: d.roll(8), Name: "abcdefg"[:d.roll(7)], Text: "x"[:d.roll(2)]}
}

// mood: how often a script has each kind of step, by its number; 0 stands for
// all that is no step.
type mood [api.STear + 1]int

func moods() []mood {
	return []mood{
		{api.SCall: 4, api.SSend: 4, api.SDeliver: 8},
		{1, api.SCall: 4, api.SSend: 6, api.SDeliver: 4, api.SLose: 1, api.SDouble: 6, api.SCrash: 1, api.STear: 1},
		{1, api.SCall: 4, api.SSend: 6, api.SDeliver: 10, api.SLose: 2, api.SDouble: 2, api.SCrash: 1, api.STear: 1},
		{1, api.SCall: 4, api.SSend: 6, api.SDeliver: 14, api.SLose: 1, api.SDouble: 6, api.SCrash: 1, api.STear: 1},
		{1, api.SCall: 4, api.SSend: 8, api.SDeliver: 6, api.SLose: 1, api.SDouble: 1, api.SCrash: 2, api.STear: 6},
		{1, api.SCall: 4, api.SSend: 6, api.SDeliver: 6, api.SLose: 6, api.SDouble: 1, api.SCrash: 1, api.STear: 1},
	}
}

// step: one of a mood. A packet's number is often 0 or the last one's, so that
// packets come early, late, and in another order.
func (d *dice) step(m mood) api.Step {
	all := 0
	for _, n := range m {
		all += n
	}
	kind, at := 0, d.roll(all)
	for at >= m[kind] {
		at -= m[kind]
		kind++
	}
	x := api.Step{Kind: kind, N: d.roll(api.Clients), Keep: d.roll(30) - 3, Call: d.call()}
	switch kind {
	case 0:
		x.Kind = []int{0, -1, 8, 99, math.MinInt}[d.roll(5)]
	case api.SCall, api.SSend:
		if d.roll(20) == 0 {
			x.N = []int{-1, api.Clients, math.MaxInt}[d.roll(3)]
		}
	default:
		x.N = []int{0, 0, d.roll(50), -d.roll(50), math.MinInt + d.roll(50)}[d.roll(5)]
	}
	return x
}

// orderly: steps by which so many calls are done, one behind the other, before a
// script begins, so that it meets with a log that has little room.
func (d *dice) orderly(calls int) []api.Step {
	var out []api.Step
	for n := range calls {
		c, x := n%api.Clients, put(d.name(), "12345678")
		if n < 5 {
			x = create(d.name())
		}
		out = append(out, has(c, x), send(c), deliver(0), deliver(0))
	}
	return out
}

// script: an orderly part, or none, and so many steps of a mood.
func (d *dice) script(m mood, calls, steps int) []api.Step {
	out := d.orderly(calls)
	for range steps {
		out = append(out, d.step(m))
	}
	return out
}

// plain is a world as the chapter's words say it: records, packets, and of each
// client all its calls; files are made anew from the records each time.
type plain struct {
	log   []api.Record
	mail  []api.Packet
	calls [api.Clients][]api.Call
	done  [api.Clients][]api.Record
}

func filesOf(log []api.Record) *files.Files {
	f := files.New()
	for _, r := range log {
		f.Do(r.Call)
	}
	return f
}

func (p *plain) open(n int) bool { return len(p.done[n]) < len(p.calls[n]) }

// come: what a call is answered, the store's code, and the record that it brings, if any.
func (p *plain) come(t *testing.T, m api.Packet) (api.Answer, int, []api.Record) {
	if m.Call.Kind == api.CRead || m.Call.Kind == api.CList {
		return filesOf(p.log).Do(m.Call), 0, nil
	}
	for _, r := range slices.Backward(p.log) {
		if r.Client == m.Client && r.No == m.No {
			return r.Answer, 0, nil
		}
		if r.Client == m.Client && r.No > m.No {
			return api.Answer{}, api.ErrOld, nil
		}
	}
	r := record(m.Client, m.No, m.Call, api.Answer{})
	if len(written(t, p.log...))+len(written(t, r)) > api.MaxBytes {
		return api.Answer{}, api.ErrFull, nil
	}
	r.Answer = filesOf(p.log).Do(m.Call)
	return r.Answer, 0, []api.Record{r}
}

func (p *plain) has(n int, c api.Call) int {
	if n < 0 || n >= api.Clients {
		return api.ErrRange
	}
	if code := files.Check(c); code != 0 {
		return code
	}
	if p.open(n) {
		return api.ErrBusy
	}
	if len(p.calls[n]) == api.MaxCalls {
		return api.ErrFull
	}
	p.calls[n] = append(p.calls[n], c)
	return 0
}

func (p *plain) send(n int) int {
	if n < 0 || n >= api.Clients {
		return api.ErrRange
	}
	if !p.open(n) {
		return api.ErrNone
	}
	if len(p.mail) == api.MaxMail {
		return api.ErrFull
	}
	no := len(p.calls[n])
	p.mail = append(p.mail, asks(n, no, p.calls[n][no-1]))
	return 0
}

func (p *plain) deliver(t *testing.T, m api.Packet) {
	if m.Reply {
		if n := m.Client; p.open(n) && m.No == len(p.calls[n]) {
			p.done[n] = append(p.done[n], record(n, m.No, m.Call, m.Answer))
		}
		return
	}
	a, code, more := p.come(t, m)
	p.log = append(p.log, more...)
	if code == 0 {
		p.mail = append(p.mail, reply(m.Client, m.No, m.Call, a))
	}
}

func (p *plain) tear(t *testing.T, m api.Packet, keep int) int {
	if m.Reply {
		return 0
	}
	_, code, more := p.come(t, m)
	if keep >= len(written(t, more...)) {
		p.log = append(p.log, more...)
	}
	return code
}

func (p *plain) step(t *testing.T, x api.Step) int {
	switch x.Kind {
	case api.SCall:
		return p.has(x.N, x.Call)
	case api.SSend:
		return p.send(x.N)
	case api.SCrash:
		return 0
	case api.SDeliver, api.SLose, api.SDouble, api.STear:
	default:
		return api.ErrKind
	}
	if len(p.mail) == 0 {
		return api.ErrNone
	}
	at := uint64(x.N) % uint64(len(p.mail))
	m := p.mail[at]
	if x.Kind == api.SDouble {
		if len(p.mail) == api.MaxMail {
			return api.ErrFull
		}
		p.mail = append(p.mail, m)
		return 0
	}
	p.mail = append(slices.Clone(p.mail[:at]), p.mail[at+1:]...)
	switch x.Kind {
	case api.SDeliver:
		p.deliver(t, m)
	case api.STear:
		return p.tear(t, m, x.Keep)
	}
	return 0
}

// calm by steps alone, as the chapter says it.
func (p *plain) calm(t *testing.T) int {
	for sent := 0; ; sent++ {
		for p.step(t, deliver(0)) == 0 {
		}
		some := false
		for n := range api.Clients {
			some = some || p.open(n)
		}
		if !some || sent == 3 {
			return sent
		}
		for n := range api.Clients {
			p.send(n)
		}
	}
}

func (p *plain) told(t *testing.T) state {
	s := state{Packets: p.mail, Log: string(written(t, p.log...)), Files: map[string]string{}, Done: p.done}
	f := filesOf(p.log)
	for _, n := range f.Names() {
		s.Files[n] = f.Do(read(n)).Text
	}
	for _, r := range p.log {
		s.Last[r.Client] = r.No
	}
	for n := range api.Clients {
		s.Open[n] = p.open(n)
	}
	return s
}

// TestScriptsAsThePlainWorld: long drawn scripts, held against the plain world at each step.
func TestScriptsAsThePlainWorld(t *testing.T) {
	seen := map[string]int{}
	for n, m := range moods() {
		for seed := range 6 {
			d := dice(seed*7919 + n)
			w, twin, p := world.New(), world.New(), &plain{}
			for k, x := range d.script(m, seed%3*48, 1200) {
				if d.roll(200) == 0 {
					got, again, want := w.Calm(), twin.Calm(), p.calm(t)
					if got != want || again != want {
						t.Fatalf("mood %d, seed %d, step %d: Calm: %d, and %d of its twin, want %d", n, seed, k, got, again, want)
					}
					seen["calm "+strconv.Itoa(got)]++
				}
				got, again, want := w.Step(x), twin.Step(x), p.step(t, x)
				if got != want || again != want {
					t.Fatalf("mood %d, seed %d, step %d, %+v: %d, and %d of its twin, want %d", n, seed, k, x, got, again, want)
				}
				seen[strconv.Itoa(x.Kind)+" "+strconv.Itoa(got)]++
				wantState(t, w, p.told(t))
			}
			wantState(t, twin, p.told(t))
		}
	}
	for _, what := range []string{
		"1 0", "1 1", "1 2", "1 3", "1 9", "1 11", "2 0", "2 6", "2 7", "2 9", "3 0", "3 6", "4 0", "4 6",
		"5 0", "5 6", "5 7", "6 0", "7 0", "7 6", "7 7", "7 10", "0 1", "8 1", "-1 1", "calm 0", "calm 1", "calm 3"} {
		if seen[what] == 0 {
			t.Errorf("no script came by %q", what)
		}
	}
}

// witness stands beside a world, and knows of it only what was asked and what was
// told: it holds the world against what follows from the chapter.
type witness struct {
	w     *world.World
	calls [api.Clients][]api.Call
	// from: how many records the log had when the client's last call came.
	from   [api.Clients]int
	before state
	// reads, changes: how many were answered.
	reads, changes int
}

func newWitness() *witness {
	w := world.New()
	return &witness{w: w, before: told(w)}
}

// step takes a step, and then looks at all.
func (v *witness) step(t *testing.T, x api.Step) {
	t.Helper()
	if code := v.w.Step(x); code == 0 && x.Kind == api.SCall {
		log, _ := codec.All(v.w.Log())
		v.calls[x.N] = append(v.calls[x.N], x.Call)
		v.from[x.N] = len(log)
	}
	v.look(t)
}

func (v *witness) look(t *testing.T) {
	t.Helper()
	now := told(v.w)
	log, n := codec.All([]byte(now.Log))
	if n != len(now.Log) {
		t.Fatalf("of the log's %d bytes %d are records", len(now.Log), n)
	}
	v.stays(t, now)
	v.inOrder(t, log)
	for c := range api.Clients {
		v.once(t, c, now, log)
	}
	v.before = now
}

// stays: what was answered and what stands in the log, stays.
func (v *witness) stays(t *testing.T, now state) {
	t.Helper()
	if len(now.Log) < len(v.before.Log) || now.Log[:len(v.before.Log)] != v.before.Log {
		t.Fatalf("the log was\n%q, and is\n%q", v.before.Log, now.Log)
	}
	for c := range api.Clients {
		was := v.before.Done[c]
		if len(now.Done[c]) < len(was) || !slices.Equal(now.Done[c][:len(was)], was) {
			t.Fatalf("client %d was answered\n%+v, and now\n%+v", c, was, now.Done[c])
		}
	}
}

// inOrder: all answers of the log are what files tell that have just these calls;
// and the files are those.
func (v *witness) inOrder(t *testing.T, log []api.Record) {
	t.Helper()
	f := files.New()
	for n, r := range log {
		if got := f.Do(r.Call); got != r.Answer {
			t.Fatalf("record %d is %+v, but files tell %+v", n, r, got)
		}
	}
	if !slices.Equal(f.Names(), v.w.Names()) {
		t.Fatalf("the names are %q, want %q", v.w.Names(), f.Names())
	}
	for _, n := range f.Names() {
		if got, want := v.w.Do(read(n)), f.Do(read(n)); got != want {
			t.Fatalf("%s has %+v, want %+v", n, got, want)
		}
	}
}

// once: of a client's calls those that were answered and may change something stand
// in the log just once, with that answer; the one that was not, once at most; and
// nothing else of that client stands there.
func (v *witness) once(t *testing.T, c int, now state, log []api.Record) {
	t.Helper()
	done, mine := now.Done[c], 0
	for _, r := range log {
		if r.Client == c {
			mine++
		}
	}
	if len(done) > len(v.calls[c]) || now.Open[c] != (len(done) < len(v.calls[c])) || len(v.calls[c])-len(done) > 1 {
		t.Fatalf("client %d has %d calls, %d answers, Open %v", c, len(v.calls[c]), len(done), now.Open[c])
	}
	want := 0
	for n, x := range v.calls[c] {
		times := 0
		for _, r := range log {
			if r.Client == c && r.No == n+1 {
				times++
			}
			if r.Client == c && r.No == n+1 && (r.Call != x || n < len(done) && r != done[n]) {
				t.Fatalf("client %d, call %d, %+v: the log has %+v", c, n+1, x, r)
			}
		}
		want += times
		answered := n < len(done)
		if changes := files.Changes(x.Kind); times > 1 || !changes && times != 0 || changes && answered && times != 1 {
			t.Fatalf("client %d, call %d, %+v, answered %v: it stands in the log %d times", c, n+1, x, answered, times)
		}
		if answered && (done[n].Client != c || done[n].No != n+1 || done[n].Call != x) {
			t.Fatalf("client %d, call %d, %+v: it was answered as %+v", c, n+1, x, done[n])
		}
	}
	if mine != want {
		t.Fatalf("client %d: the log has %d records that are none of its calls", c, mine-want)
	}
	v.inTime(t, c, now, log)
}

// inTime: what was done came to the log behind the call; what was read was so at
// some time between the call and its answer: files at these times are those of the
// log's first records, so many as there were at the call, or more.
func (v *witness) inTime(t *testing.T, c int, now state, log []api.Record) {
	t.Helper()
	no := len(v.calls[c])
	for _, r := range log[:v.from[c]] {
		if r.Client == c && r.No == no {
			t.Fatalf("client %d, call %d: it was in the log ahead of the call", c, no)
		}
	}
	if len(now.Done[c]) == len(v.before.Done[c]) {
		return
	}
	x, a := v.calls[c][no-1], now.Done[c][no-1].Answer
	if files.Changes(x.Kind) {
		v.changes++
		return
	}
	v.reads++
	for n := v.from[c]; n <= len(log); n++ {
		if filesOf(log[:n]).Do(x) == a {
			return
		}
	}
	t.Fatalf("client %d, call %d, %+v: the answer was %+v, but files never told that", c, no, x, a)
}

// TestEachCallIsDoneJustOnce, and as if one behind the other: over long drawn
// scripts, at each step, with the clients' calls brought to an end.
func TestEachCallIsDoneJustOnce(t *testing.T) {
	for n, m := range moods() {
		reads, changes := 0, 0
		for seed := range 6 {
			d, v := dice(seed*104729+n), newWitness()
			for _, x := range d.script(m, seed%3*48, 700) {
				v.step(t, x)
			}
			for range 2 * api.MaxMail {
				v.step(t, deliver(0))
			}
			for range 2 {
				v.calm(t)
			}
			reads, changes = reads+v.reads, changes+v.changes
		}
		if reads < 20 || changes < 200 {
			t.Errorf("mood %d: %d were read and %d changed", n, reads, changes)
		}
	}
}

// calm: behind it no packet is left, and only a log without room leaves a call open.
func (v *witness) calm(t *testing.T) {
	t.Helper()
	sent := v.w.Calm()
	v.look(t)
	wantPackets(t, v.w)
	for c := range api.Clients {
		if !v.w.Client(c).Open() {
			continue
		}
		no := len(v.calls[c])
		x := v.calls[c][no-1]
		if sent != 3 || !files.Changes(x.Kind) || len(v.w.Log())+len(written(t, record(c, no, x, code(0)))) <= api.MaxBytes {
			t.Fatalf("Calm: %d, but client %d has %+v", sent, c, x)
		}
	}
}

// TestReadsWithinTime: the files are turned while replies of a read are late.
func TestReadsWithinTime(t *testing.T) {
	reads := 0
	for seed := range 40 {
		d, v := dice(seed*31+7), newWitness()
		run := func(all ...api.Step) {
			for _, x := range all {
				v.step(t, x)
			}
		}
		run(has(0, create("a")), send(0), deliver(0), deliver(0))
		for n := range 40 {
			run(has(1, read("a")), send(1), double(0), has(0, put("a", strconv.Itoa(n%10))), send(0))
			for range d.roll(6) {
				run(deliver(d.roll(8)))
			}
			run(has(2, list()), send(2), has(0, []api.Call{remove("a"), create("a")}[d.roll(2)]), send(0))
			for range d.roll(12) {
				run(deliver(d.roll(8)))
			}
		}
		reads += v.reads
	}
	if reads < 500 {
		t.Errorf("only %d were read", reads)
	}
}
