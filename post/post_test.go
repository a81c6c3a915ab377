package post_test

import (
	"math"
	"math/big"
	"runtime"
	"slices"
	"strconv"
	"strings"
	"testing"
	"unsafe"

	"postilion/api"
	"postilion/post"
)

// packet: one that is told apart from all others by its number.
func packet(no int) api.Packet {
	text := strconv.Itoa(no)
	return api.Packet{
		Reply: no%2 == 0, Client: no % api.Clients, No: no,
		Call:   api.Call{Kind: no%6 + 1, Name: "n" + text, To: "o" + text, Text: "t" + text},
		Answer: api.Answer{Code: no % 15, Text: "a" + text},
	}
}

func packets(numbers ...int) []api.Packet {
	var out []api.Packet
	for _, no := range numbers {
		out = append(out, packet(no))
	}
	return out
}

// holding: a post with the packets 0, 1 and so on.
func holding(t *testing.T, many int) *post.Post {
	t.Helper()
	p := post.New()
	for no := range many {
		if !p.Send(packet(no)) {
			t.Fatalf("Send of packet %d is false", no)
		}
	}
	return p
}

func wantList(t *testing.T, p *post.Post, want ...api.Packet) {
	t.Helper()
	if got := p.List(); !slices.Equal(got, want) {
		t.Errorf("List: %+v, want %+v", got, want)
	}
	if got := p.Len(); got != len(want) {
		t.Errorf("Len: %d, want %d", got, len(want))
	}
}

func wantTake(t *testing.T, p *post.Post, n int, want api.Packet) {
	t.Helper()
	if got, ok := p.Take(n); !ok || got != want {
		t.Errorf("Take(%d): %+v, %v, want %+v, true", n, got, ok, want)
	}
}

func upTo(many int) []int {
	var out []int
	for n := range many {
		out = append(out, n)
	}
	return out
}

// numbers: those whose place is asked when there are many.
func numbers(many int) []int {
	out := []int{math.MinInt, math.MinInt + 1, math.MinInt + many, -1 << 32, -1<<32 - 1, -1 << 31, 1<<31 - 1, 1 << 31, 1<<32 - 1, 1 << 32, 1<<32 + 1,
		math.MaxInt - many, math.MaxInt - 1, math.MaxInt}
	for n := -2*many - 2; n <= 3*many+1; n++ {
		out = append(out, n)
	}
	return out
}

// place reckons with numbers of any size, in another way than the program.
func place(n, many int) int {
	x := big.NewInt(int64(n))
	if n < 0 {
		x.Add(x, new(big.Int).Lsh(big.NewInt(1), 64))
	}
	return int(x.Mod(x, big.NewInt(int64(many))).Int64())
}

func TestNewHasNone(t *testing.T) {
	p := post.New()
	wantList(t, p)
	for _, n := range numbers(1) {
		if m, ok := p.Take(n); ok || m != (api.Packet{}) {
			t.Errorf("Take(%d) of none: %+v, %v", n, m, ok)
		}
		if p.Double(n) {
			t.Errorf("Double(%d) of none is true", n)
		}
	}
	wantList(t, p)
	if !p.Send(packet(1)) {
		t.Error("Send behind a Take of none is false")
	}
	wantList(t, p, packet(1))
}

func TestSendComesBehindAllOthers(t *testing.T) {
	p := post.New()
	for n, no := range []int{5, 3, 9, 3} {
		if !p.Send(packet(no)) {
			t.Errorf("Send of packet %d is false", no)
		}
		wantList(t, p, packets([]int{5, 3, 9, 3}[:n+1]...)...)
	}
}

func TestEmptiedHasNone(t *testing.T) {
	p := holding(t, 2)
	wantTake(t, p, 1, packet(1))
	wantTake(t, p, 1, packet(0))
	wantList(t, p)
	if m, ok := p.Take(0); ok || m != (api.Packet{}) || p.Double(0) {
		t.Errorf("there is none, but Take tells %+v, %v", m, ok)
	}
	wantList(t, p)
}

func TestSendWhenFull(t *testing.T) {
	p := holding(t, api.MaxMail-1)
	if p.Len() != api.MaxMail-1 || !p.Send(packet(100)) {
		t.Fatal("there is room for one more, but Send is false")
	}
	all := append(packets(upTo(api.MaxMail-1)...), packet(100))
	wantList(t, p, all...)
	for range 3 {
		if p.Send(packet(101)) {
			t.Error("Send of a full post is true")
		}
		wantList(t, p, all...)
	}
	wantTake(t, p, 0, packet(0))
	if !p.Send(packet(102)) || p.Send(packet(103)) {
		t.Error("a packet was taken: there is room for just one")
	}
	wantList(t, p, append(all[1:], packet(102))...)
}

func TestDoubleWhenFull(t *testing.T) {
	p := holding(t, api.MaxMail-1)
	if !p.Double(3) {
		t.Fatal("there is room for one more, but Double is false")
	}
	all := append(packets(upTo(api.MaxMail-1)...), packet(3))
	wantList(t, p, all...)
	for _, n := range numbers(api.MaxMail) {
		if p.Double(n) {
			t.Errorf("Double(%d) of a full post is true", n)
		}
	}
	wantList(t, p, all...)
	wantTake(t, p, api.MaxMail-1, packet(3))
	if !p.Double(0) || p.Double(0) {
		t.Error("a packet was taken: there is room for just one")
	}
}

// TestRoundByHand has its places worked out by hand: 2^64 is 1 by 3, 2 by 7, 16 by 40.
func TestRoundByHand(t *testing.T) {
	for _, x := range []struct{ many, n, want int }{
		{1, 0, 0}, {1, 1, 0}, {1, -1, 0}, {1, math.MinInt, 0}, {1, math.MaxInt, 0},
		{2, 1, 1}, {2, 2, 0}, {2, -1, 1}, {2, -2, 0}, {2, math.MinInt, 0}, {2, math.MaxInt, 1},
		{3, 0, 0}, {3, 2, 2}, {3, 3, 0}, {3, 4, 1}, {3, -1, 0}, {3, -2, 2}, {3, -3, 1}, {3, math.MinInt, 2}, {3, math.MaxInt, 1},
		{7, 6, 6}, {7, 7, 0}, {7, 8, 1}, {7, 700, 0}, {7, -1, 1}, {7, -7, 2}, {7, math.MinInt, 1}, {7, math.MaxInt, 0},
		{40, 39, 39}, {40, 40, 0}, {40, 41, 1}, {40, -1, 15}, {40, -16, 0}, {40, -17, 39}, {40, math.MinInt, 8}, {40, math.MaxInt, 7},
	} {
		wantTake(t, holding(t, x.many), x.n, packet(x.want))
	}
}

func TestTakeOfEveryNumber(t *testing.T) {
	for many := 1; many <= api.MaxMail; many++ {
		all := packets(upTo(many)...)
		for _, n := range numbers(many) {
			p, at := holding(t, many), place(n, many)
			wantTake(t, p, n, all[at])
			wantList(t, p, slices.Concat(all[:at], all[at+1:])...)
		}
	}
}

func TestDoubleOfEveryNumber(t *testing.T) {
	for many := 1; many < api.MaxMail; many++ {
		all := packets(upTo(many)...)
		for _, n := range numbers(many) {
			p := holding(t, many)
			if !p.Double(n) {
				t.Errorf("Double(%d) of %d is false", n, many)
			}
			wantList(t, p, append(slices.Clone(all), all[place(n, many)])...)
		}
	}
}

func TestTakeKeepsTheOrderOfTheOthers(t *testing.T) {
	p := holding(t, 6)
	wantTake(t, p, 2, packet(2))
	wantList(t, p, packets(0, 1, 3, 4, 5)...)
	wantTake(t, p, 0, packet(0))
	wantList(t, p, packets(1, 3, 4, 5)...)
	wantTake(t, p, 3, packet(5))
	wantList(t, p, packets(1, 3, 4)...)
	p.Send(packet(2))
	wantTake(t, p, 1, packet(3))
	wantList(t, p, packets(1, 4, 2)...)
}

// TestCountsRoundAnew: the same number means another packet when there are others.
func TestCountsRoundAnew(t *testing.T) {
	p := holding(t, 4)
	for _, want := range []int{1, 3, 2, 0} { // 5 is 1 by 4, 2 by 3, 1 by 2, 0 by 1
		wantTake(t, p, 5, packet(want))
	}
	wantList(t, p)
}

func TestDoubledStandApart(t *testing.T) {
	p := holding(t, 3)
	if !p.Double(1) || !p.Double(1) {
		t.Fatal("Double is false")
	}
	wantList(t, p, packets(0, 1, 2, 1, 1)...)
	wantTake(t, p, 1, packet(1))
	wantList(t, p, packets(0, 2, 1, 1)...)
	wantTake(t, p, 3, packet(1))
	wantTake(t, p, 2, packet(1))
	wantList(t, p, packets(0, 2)...)
}

func TestAnyPacketIsCarried(t *testing.T) {
	odd := []api.Packet{
		{},
		{Reply: true},
		{Client: -1, No: -1, Call: api.Call{Kind: -1}, Answer: api.Answer{Code: -1}},
		{Client: math.MinInt, No: math.MaxInt, Call: api.Call{Kind: math.MinInt}, Answer: api.Answer{Code: math.MaxInt}},
		{Client: api.Clients, No: api.MaxCalls + 1, Call: api.Call{Kind: 99, Name: "NO NAME", To: "\x00", Text: "\xff\n"}, Answer: api.Answer{Text: "日本"}},
		{Reply: true, Call: api.Call{Name: strings.Repeat("n", 1<<16), To: strings.Repeat("o", 1<<16), Text: strings.Repeat("t", 1<<16)}, Answer: api.Answer{Text: strings.Repeat("a", 1<<16)}},
	}
	p := post.New()
	for n, m := range odd {
		if !p.Send(m) || !p.Double(n) {
			t.Fatalf("packet %d is not carried", n)
		}
		if back, ok := p.Take(n); !ok || back != m {
			t.Fatalf("packet %d came as another one", n)
		}
	}
	if !slices.Equal(p.List(), odd) {
		t.Error("the packets are not as they were sent")
	}
}

func TestListChangesNothing(t *testing.T) {
	p := holding(t, 3)
	for range 2 {
		wantList(t, p, packets(0, 1, 2)...)
	}
}

func TestListIsNewMemory(t *testing.T) {
	p := holding(t, 3)
	first, second := p.List(), p.List()
	first[0] = packet(99)
	first = append(first, packet(98))
	first[1].Call.Name = "spoilt"
	wantList(t, p, packets(0, 1, 2)...)
	if !slices.Equal(second, packets(0, 1, 2)) {
		t.Errorf("two lists share memory: %+v", second)
	}
}

func TestListStaysAsItWas(t *testing.T) {
	steps := []func(p *post.Post){
		func(p *post.Post) { p.Take(0) },
		func(p *post.Post) { p.Take(1) },
		func(p *post.Post) { p.Take(-1) },
		func(p *post.Post) { p.Send(packet(50)) },
		func(p *post.Post) { p.Double(1) },
		func(p *post.Post) { p.Take(0); p.Send(packet(51)); p.Take(0); p.Double(0) },
		func(p *post.Post) { clear(p.List()) },
		func(p *post.Post) {
			for range api.MaxMail {
				p.Take(0)
			}
			for range api.MaxMail {
				p.Send(packet(52))
			}
		},
	}
	for n, step := range steps {
		for many := 2; many <= 5; many++ {
			p := holding(t, many)
			told := p.List()
			step(p)
			if !slices.Equal(told, packets(upTo(many)...)) {
				t.Errorf("step %d: what was told of %d packets is now %+v", n, many, told)
			}
			now := p.List()
			clear(told[:cap(told)])
			wantList(t, p, now...)
		}
	}
}

// texts: all texts of a packet.
func texts(m api.Packet) []string {
	return []string{m.Call.Name, m.Call.To, m.Call.Text, m.Answer.Text}
}

func apart(t *testing.T, what string, a, b api.Packet) {
	t.Helper()
	other := texts(b)
	for n, s := range texts(a) {
		if s != other[n] {
			t.Errorf("%s: text %d is %q and %q", what, n, s, other[n])
		}
		if unsafe.StringData(s) == unsafe.StringData(other[n]) {
			t.Errorf("%s: text %d shares memory", what, n)
		}
	}
}

func TestTextsAreNewMemory(t *testing.T) {
	p, given := post.New(), packet(7)
	p.Send(given)
	p.Double(0)
	told, again := p.List(), p.List()
	apart(t, "sent and listed", given, told[0])
	apart(t, "listed twice", told[0], again[0])
	apart(t, "doubled and listed", told[0], told[1])
	first, _ := p.Take(0)
	rest := p.List()
	second, _ := p.Take(0)
	apart(t, "sent and taken", given, first)
	apart(t, "listed and taken", told[0], first)
	apart(t, "taken and its double listed", first, rest[0])
	apart(t, "listed and taken behind it", rest[0], second)
	apart(t, "taken and its double taken", first, second)
}

// borrowed: a text whose memory the test can still change, to see whether it is kept.
func borrowed(b []byte) string { return unsafe.String(&b[0], len(b)) }

func TestTextsAreNotKept(t *testing.T) {
	name, to, text, answer := []byte("name"), []byte("to"), []byte("text"), []byte("answer")
	want := api.Packet{Call: api.Call{Name: "name", To: "to", Text: "text"}, Answer: api.Answer{Text: "answer"}}
	p := post.New()
	p.Send(api.Packet{Call: api.Call{Name: borrowed(name), To: borrowed(to), Text: borrowed(text)}, Answer: api.Answer{Text: borrowed(answer)}})
	for _, b := range [][]byte{name, to, text, answer} {
		b[0] = '?'
	}
	wantList(t, p, want)
	p.Double(0)
	wantTake(t, p, 0, want)
	wantTake(t, p, 0, want)
}

// TestDoubledTextIsKeptOnce: doubled packets bring no text in, so they must not fill the memory.
func TestDoubledTextIsKeptOnce(t *testing.T) {
	const size = 1 << 20
	p := post.New()
	p.Send(api.Packet{Call: api.Call{Text: strings.Repeat("x", size)}})
	var before, after runtime.MemStats
	runtime.ReadMemStats(&before)
	for range api.MaxMail {
		p.Double(0)
	}
	runtime.ReadMemStats(&after)
	if p.Len() != api.MaxMail {
		t.Errorf("there are %d packets", p.Len())
	}
	if made := after.TotalAlloc - before.TotalAlloc; made >= size {
		t.Errorf("the doubled packets took %d bytes", made)
	}
}

func TestObjectsStandApart(t *testing.T) {
	p, q := holding(t, 2), holding(t, 2)
	wantTake(t, p, 0, packet(0))
	q.Double(1)
	p.Send(packet(9))
	wantList(t, p, packets(1, 9)...)
	wantList(t, q, packets(0, 1, 1)...)
	wantList(t, post.New())
}

// knot: packets on their way as a chain, in another way than the program.
type knot struct {
	m    api.Packet
	next *knot
}

// chain begins with a knot that is no packet.
type chain struct{ head knot }

func (c *chain) list() []api.Packet {
	var out []api.Packet
	for k := c.head.next; k != nil; k = k.next {
		out = append(out, k.m)
	}
	return out
}

func (c *chain) before(n int) *knot {
	k := &c.head
	for range place(n, len(c.list())) {
		k = k.next
	}
	return k
}

func (c *chain) send(m api.Packet) bool {
	if len(c.list()) == api.MaxMail {
		return false
	}
	k := &c.head
	for k.next != nil {
		k = k.next
	}
	k.next = &knot{m: m}
	return true
}

func (c *chain) take(n int) (api.Packet, bool) {
	if c.head.next == nil {
		return api.Packet{}, false
	}
	k := c.before(n)
	m := k.next.m
	k.next = k.next.next
	return m, true
}

func (c *chain) double(n int) bool {
	return c.head.next != nil && c.send(c.before(n).next.m)
}

// event: what was asked and answered in one step of a walk.
type event struct {
	kind, n int
	m       api.Packet
	ok      bool
}

// faces: what a post and a chain have in common.
type faces struct {
	send, double func(n int) bool
	take         func(n int) (api.Packet, bool)
}

func (f faces) do(kind, n int) event {
	e := event{kind: kind, n: n}
	switch kind {
	case 0:
		e.ok = f.send(n)
	case 1:
		e.ok = f.double(n)
	case 2:
		e.m, e.ok = f.take(n)
	}
	return e
}

func ofPost(p *post.Post) faces {
	return faces{func(n int) bool { return p.Send(api.Packet{No: n}) }, p.Double, p.Take}
}

func ofChain(c *chain) faces {
	return faces{func(n int) bool { return c.send(api.Packet{No: n}) }, c.double, c.take}
}

func TestLongWalksAsTheChain(t *testing.T) {
	seed, seen := uint32(1), map[event]int{}
	next := func(n int) int {
		seed = seed*1664525 + 1013904223
		return int(seed>>16) % n
	}
	p, twin, c := post.New(), post.New(), &chain{}
	for step := range 30000 {
		kind, all := next(3), numbers(max(p.Len(), 1))
		if next(2) == 0 {
			kind = step / 200 % 2 * 2 // 200 steps send more than they take, so that it is full, the next 200 empty it
		}
		n := all[next(len(all))]
		got, want := ofPost(p).do(kind, n), ofChain(c).do(kind, n)
		if got != want {
			t.Fatalf("step %d: %+v, want %+v", step, got, want)
		}
		if again := ofPost(twin).do(kind, n); again != got {
			t.Fatalf("step %d: %+v, but another post with the same steps tells %+v", step, got, again)
		}
		if list := p.List(); !slices.Equal(list, c.list()) || p.Len() != len(list) {
			t.Fatalf("step %d, %+v: the list is\n%+v, want\n%+v", step, got, list, c.list())
		}
		seen[event{kind: kind, ok: got.ok}]++
	}
	for kind := range 3 {
		for _, ok := range []bool{false, true} {
			if seen[event{kind: kind, ok: ok}] == 0 {
				t.Errorf("no step of kind %d was answered %v", kind, ok)
			}
		}
	}
}
