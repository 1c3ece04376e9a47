package plan_test

import (
	"math"
	"reflect"
	"slices"
	"testing"

	"stillwater/api"
	"stillwater/cache"
	"stillwater/plan"
)

// die: numbers that look drawn, the same each time.
type die uint64

func (d *die) n(most int) int {
	*d = *d*6364136223846793005 + 1442695040888963407
	return int(uint64(*d>>33) % uint64(most))
}

// Some blocks; none of them is noughts.
var (
	x = api.Block{1}
	y = api.Block{7: 1}
	z = api.Block{1, 7: 1}
)

// few: one of so many blocks; the first one is noughts, and some are alike but for one byte.
func few(i int) api.Block {
	var b api.Block
	b[i%2*7] = byte(i)
	return b
}

// numbered: blocks of which no two are alike, and none is noughts.
func numbered(n int) []api.Block {
	l := make([]api.Block, n)
	for i := range l {
		l[i] = api.Block{byte(i), byte(i >> 8), 9}
	}
	return l
}

// putsAt: at each of these places a block that is nowhere else.
func putsAt(places ...int) []api.Put {
	var l []api.Put
	for i, at := range places {
		l = append(l, api.Put{At: at, Data: api.Block{200, byte(i), 1}})
	}
	return l
}

// packetsAt: at each of these places a literal block.
func packetsAt(places ...int) []api.Packet {
	var l []api.Packet
	for i, at := range places {
		l = append(l, api.Packet{At: at, Kind: api.Literal, Data: api.Block{200, byte(i), 1}})
	}
	return l
}

// all: the places of n blocks.
func all(n int) []int {
	var l []int
	for at := range n {
		l = append(l, at)
	}
	return l
}

func wantPackets(t *testing.T, what string, puts []api.Put, peer, had []api.Block, want []api.Packet) {
	t.Helper()
	got, err := plan.Packets(puts, peer, had)
	if err != nil || !slices.Equal(got, want) {
		t.Errorf("%s: Packets(%v, %v, %v) = %v, %v; wanted is %v", what, puts, peer, had, got, err, want)
	}
}

func wantApply(t *testing.T, what string, packets []api.Packet, peer, had []api.Block, wantPuts []api.Put, wantMissing []int) {
	t.Helper()
	puts, missing, err := plan.Apply(packets, peer, had)
	if err != nil || !slices.Equal(puts, wantPuts) || !slices.Equal(missing, wantMissing) {
		t.Errorf("%s: Apply(%v, %v, %v) = %v, %v, %v; wanted is %v, %v", what, packets, peer, had, puts, missing, err, wantPuts, wantMissing)
	}
}

func wantHad(t *testing.T, what string, had []api.Block, packets []api.Packet, want []api.Block) {
	t.Helper()
	got, err := plan.Had(had, packets)
	if err != nil || !slices.Equal(got, want) {
		t.Errorf("%s: Had(%v, %v) = %v, %v; wanted is %v", what, had, packets, got, err, want)
	}
}

// wantError: each list beside an error is empty.
func wantError(t *testing.T, what string, err error, want api.Errno, lists ...any) {
	t.Helper()
	if err != error(want) {
		t.Errorf("%s: %v; wanted is %v", what, err, want)
	}
	for _, l := range lists {
		if reflect.ValueOf(l).Len() > 0 {
			t.Errorf("%s: beside an error it answers %v", what, l)
		}
	}
}

func wantPacketsError(t *testing.T, what string, puts []api.Put, peer, had []api.Block, want api.Errno) {
	t.Helper()
	got, err := plan.Packets(puts, peer, had)
	wantError(t, what+": Packets", err, want, got)
}

func wantApplyError(t *testing.T, what string, packets []api.Packet, peer, had []api.Block, want api.Errno) {
	t.Helper()
	puts, missing, err := plan.Apply(packets, peer, had)
	wantError(t, what+": Apply", err, want, puts, missing)
}

func TestTheDocumentsExamples(t *testing.T) {
	peer := []api.Block{x, y, y}
	puts := []api.Put{{At: 0, Data: x}, {At: 1}, {At: 2, Data: y}}
	wantPackets(t, "G1", puts, peer, nil, []api.Packet{{At: 1, Kind: api.Zero}})
	puts = []api.Put{{At: 0, Data: y}, {At: 1, Data: z}}
	wantPackets(t, "G1", puts, peer, []api.Block{z}, []api.Packet{{At: 0, Kind: api.Same, From: 1}, {At: 1, Kind: api.Cached, From: 0}})
}

func TestPacketsOfEachKind(t *testing.T) {
	cases := []struct {
		name      string
		b         api.Block
		peer, had []api.Block
		want      api.Packet
	}{
		{"noughts", api.Block{}, []api.Block{x}, nil, api.Packet{Kind: api.Zero}},
		{"noughts that the peer has", api.Block{}, []api.Block{x, {}, {}}, nil, api.Packet{Kind: api.Zero}},
		{"noughts that the peer had", api.Block{}, []api.Block{x}, []api.Block{y, {}}, api.Packet{Kind: api.Zero}},
		{"noughts that it has and had", api.Block{}, []api.Block{x, {}}, []api.Block{{}}, api.Packet{Kind: api.Zero}},
		{"what the peer has", y, []api.Block{x, z, y}, nil, api.Packet{Kind: api.Same, From: 2}},
		{"what it has at several places", y, []api.Block{x, y, z, y, y}, nil, api.Packet{Kind: api.Same, From: 1}},
		{"what it has and had", y, []api.Block{x, z, y}, []api.Block{y, z}, api.Packet{Kind: api.Same, From: 2}},
		{"what it had first", y, []api.Block{x}, []api.Block{y, x}, api.Packet{Kind: api.Cached, From: 0}},
		{"what it had", y, []api.Block{x}, []api.Block{x, z, {}, y}, api.Packet{Kind: api.Cached, From: 3}},
		{"what it had at the end", y, []api.Block{x}, append(numbered(api.MaxCache-1), y), api.Packet{Kind: api.Cached, From: api.MaxCache - 1}},
		{"what is new", y, []api.Block{x, z, {}}, []api.Block{x, z, {}}, api.Packet{Kind: api.Literal, Data: y}},
		{"what is new to a peer of noughts", y, make([]api.Block, api.MaxBlocks), nil, api.Packet{Kind: api.Literal, Data: y}},
	}
	for _, k := range cases {
		put := api.Put{At: 0, Data: k.b}
		wantPackets(t, "G1: "+k.name, []api.Put{put}, k.peer, k.had, []api.Packet{k.want})
		wantApply(t, "G2: "+k.name, []api.Packet{k.want}, k.peer, k.had, []api.Put{put}, nil)
	}
}

func TestPacketsAtTheLastPlace(t *testing.T) {
	peer := numbered(api.MaxBlocks)
	last := api.MaxBlocks - 1
	wantPackets(t, "G1", []api.Put{{At: last, Data: peer[0]}}, peer, nil, []api.Packet{{At: last, Kind: api.Same, From: 0}})
	wantPackets(t, "G1", []api.Put{{At: 0, Data: peer[last]}}, peer, nil, []api.Packet{{At: 0, Kind: api.Same, From: last}})
	wantPackets(t, "G1", []api.Put{{At: last, Data: peer[last]}}, peer, nil, nil)
}

func TestPutsOfWhatThePeerHasThere(t *testing.T) {
	for _, n := range []int{1, 5, api.MaxBlocks} {
		var puts []api.Put
		for at, b := range numbered(n) {
			puts = append(puts, api.Put{At: at, Data: b})
		}
		wantPackets(t, "G1: what is there", puts, numbered(n), numbered(min(n, api.MaxCache)), nil)
		wantPackets(t, "G1: noughts that are there", []api.Put{{At: n - 1}}, make([]api.Block, n), nil, nil)
		wantPackets(t, "G1: nothing", nil, numbered(n), nil, nil)
		wantPackets(t, "G1: nothing", []api.Put{}, numbered(n), nil, nil)
	}
}

// The peer's blocks are taken as they are ahead of the puts: a block that a put ahead brings, or takes away, counts as it was.
func TestPacketsSpeakOfThePeerAsItIs(t *testing.T) {
	puts := []api.Put{{At: 0, Data: y}, {At: 1, Data: x}, {At: 2, Data: z}, {At: 3, Data: z}}
	peer := []api.Block{x, y, {}, {}}
	packets := []api.Packet{
		{At: 0, Kind: api.Same, From: 1},
		{At: 1, Kind: api.Same, From: 0},
		{At: 2, Kind: api.Literal, Data: z},
		{At: 3, Kind: api.Literal, Data: z},
	}
	wantPackets(t, "G1", puts, peer, nil, packets)
	wantApply(t, "G2", packets, peer, nil, puts, nil)
}

// packetOf: the packet for a put, as the promise tells it, kind by kind.
func packetOf(p api.Put, peer, had []api.Block) api.Packet {
	if p.Data == (api.Block{}) {
		return api.Packet{At: p.At, Kind: api.Zero}
	}
	for from := range peer {
		if peer[from] == p.Data {
			return api.Packet{At: p.At, Kind: api.Same, From: from}
		}
	}
	for from := range had {
		if had[from] == p.Data {
			return api.Packet{At: p.At, Kind: api.Cached, From: from}
		}
	}
	return api.Packet{At: p.At, Kind: api.Literal, Data: p.Data}
}

// wantBoth: the packets are those of the promise, and, applied, the puts they were made of.
func wantBoth(t *testing.T, puts []api.Put, peer, had []api.Block) {
	t.Helper()
	var packets []api.Packet
	var told []api.Put
	for _, p := range puts {
		if peer[p.At] != p.Data {
			packets = append(packets, packetOf(p, peer, had))
			told = append(told, p)
		}
	}
	wantPackets(t, "G1", puts, peer, had, packets)
	wantApply(t, "G2", packets, peer, had, told, nil)
}

// All there is of three places, and of few blocks that the peer has, had, and is to have.
func TestAllOfThreePlaces(t *testing.T) {
	hads := [][]api.Block{nil, {few(0)}, {few(1), few(2)}, {few(3), few(0), few(1)}, {few(2), few(1), few(0), few(3)}}
	for _, had := range hads {
		for i := range 3 * 3 * 3 {
			peer := []api.Block{few(i % 3), few(i / 3 % 3), few(i / 9)}
			for k := range 5 * 5 * 5 {
				var puts []api.Put
				for at, b := range []int{k % 5, k / 5 % 5, k / 25} {
					if b < 4 {
						puts = append(puts, api.Put{At: at, Data: few(b)})
					}
				}
				wantBoth(t, puts, peer, had)
			}
		}
	}
}

func TestManyPuts(t *testing.T) {
	d := die(3)
	for n := 1; n <= api.MaxBlocks; n++ {
		for range 40 {
			kinds := 1 + d.n(20)
			peer := make([]api.Block, n)
			for at := range peer {
				peer[at] = few(d.n(kinds))
			}
			var had []api.Block
			for range d.n(12) {
				had, _ = cache.Touch(had, few(d.n(20)))
			}
			var puts []api.Put
			for at := range n {
				if d.n(3) > 0 {
					puts = append(puts, api.Put{At: at, Data: few(d.n(20))})
				}
			}
			wantBoth(t, puts, peer, had)
		}
	}
}

func TestFromThatIsNoPlace(t *testing.T) {
	for _, n := range []int{1, 3, api.MaxBlocks} {
		peer := numbered(n)
		for many := range api.MaxCache + 1 {
			had := numbered(50)[50-many:]
			for _, from := range []int{-1, n, n + 1, 1 << 32, math.MaxInt, math.MinInt} {
				wantApply(t, "G2: no place of the peer's", []api.Packet{{At: n - 1, Kind: api.Same, From: from}}, peer, had, nil, []int{n - 1})
			}
			for _, from := range []int{-1, many, many + 1, api.MaxBlocks, 1 << 32, math.MaxInt, math.MinInt} {
				wantApply(t, "G2: no place of had's", []api.Packet{{At: 0, Kind: api.Cached, From: from}}, peer, had, nil, []int{0})
			}
			for from, b := range peer {
				wantApply(t, "G2: a place of the peer's", []api.Packet{{At: 0, Kind: api.Same, From: from}}, peer, had, []api.Put{{At: 0, Data: b}}, nil)
			}
			for from, b := range had {
				wantApply(t, "G2: a place of had's", []api.Packet{{At: n - 1, Kind: api.Cached, From: from}}, peer, had, []api.Put{{At: n - 1, Data: b}}, nil)
			}
		}
	}
}

func TestWhatIsMissingStandsBesideThePuts(t *testing.T) {
	peer, had := []api.Block{x, y, {}, z, x, x, x}, []api.Block{z, y}
	packets := []api.Packet{
		{At: 0, Kind: api.Cached, From: 2},
		{At: 1, Kind: api.Cached, From: 1},
		{At: 2, Kind: api.Same, From: 7},
		{At: 3, Kind: api.Zero},
		{At: 4, Kind: api.Same, From: 3},
		{At: 5, Kind: api.Same, From: -1},
		{At: 6, Kind: api.Literal, Data: y},
	}
	puts := []api.Put{{At: 1, Data: y}, {At: 3}, {At: 4, Data: z}, {At: 6, Data: y}}
	wantApply(t, "G2", packets, peer, had, puts, []int{0, 2, 5})
	wantApply(t, "G2: nothing", nil, peer, had, nil, nil)
	wantApply(t, "G2: nothing", []api.Packet{}, peer, had, nil, nil)
}

// A packet may say what Packets would not: noughts in full, what is there already, what its kind doesn't use.
func TestApplyOfPacketsThatPacketsDoesNotTell(t *testing.T) {
	peer, had := []api.Block{x, {}, y}, []api.Block{z, {}}
	cases := []struct {
		packet api.Packet
		want   api.Block
	}{
		{api.Packet{Kind: api.Zero, From: -1, Data: z}, api.Block{}},
		{api.Packet{Kind: api.Zero, From: 77, Data: z}, api.Block{}},
		{api.Packet{Kind: api.Same, From: 0, Data: z}, x},
		{api.Packet{Kind: api.Same, From: 1, Data: z}, api.Block{}},
		{api.Packet{Kind: api.Same, From: 2, Data: z}, y},
		{api.Packet{Kind: api.Cached, From: 0, Data: y}, z},
		{api.Packet{Kind: api.Cached, From: 1, Data: y}, api.Block{}},
		{api.Packet{Kind: api.Literal, From: -1, Data: z}, z},
		{api.Packet{Kind: api.Literal, From: 77, Data: x}, x},
		{api.Packet{Kind: api.Literal}, api.Block{}},
	}
	for _, k := range cases {
		wantApply(t, "G2", []api.Packet{k.packet}, peer, had, []api.Put{{At: 0, Data: k.want}}, nil)
	}
}

func TestPlacesThatAreNoneOrDoNotRise(t *testing.T) {
	for _, n := range []int{1, 2, 5, api.MaxBlocks} {
		wrong := [][]int{{-1}, {n}, {n + 1}, {1 << 32}, {math.MaxInt}, {math.MinInt}, {0, 0}, {n - 1, n - 1}, {0, n}, {-1, 0}, append(all(n), n-1), append(all(n), n)}
		if n > 1 {
			wrong = append(wrong, []int{1, 0}, []int{n - 1, 0}, []int{0, 1, 0}, []int{0, 1, 1})
		}
		for _, places := range wrong {
			wantPacketsError(t, "G1", putsAt(places...), numbered(n), nil, api.ErrRange)
			wantApplyError(t, "G2", packetsAt(places...), numbered(n), nil, api.ErrRange)
			missing := packetsAt(places...)
			for i := range missing {
				missing[i].Kind, missing[i].From = api.Same, -1
			}
			wantApplyError(t, "G2", missing, numbered(n), nil, api.ErrRange)
		}
		wantPackets(t, "G1", putsAt(all(n)...), numbered(n), nil, packetsAt(all(n)...))
		wantApply(t, "G2", packetsAt(all(n)...), numbered(n), nil, putsAt(all(n)...), nil)
	}
	// A put of what is there is looked at all the same.
	wantPacketsError(t, "G1", []api.Put{{At: 1, Data: y}, {At: 0, Data: x}}, []api.Block{x, y}, nil, api.ErrRange)
	wantPacketsError(t, "G1", []api.Put{{At: 1, Data: y}, {At: 1, Data: y}}, []api.Block{x, y}, nil, api.ErrRange)
}

func TestKindsThatAreNone(t *testing.T) {
	for _, kind := range []int{-1, api.Literal + 1, 5, 1 << 32, math.MaxInt, math.MinInt} {
		for i := range 3 {
			packets := packetsAt(0, 1, 2)
			packets[i].Kind = kind
			wantApplyError(t, "G2", packets, numbered(4), nil, api.ErrRange)
		}
	}
}

func TestPeersThatMayNotBe(t *testing.T) {
	twice := []api.Block{x, y, x}
	for _, peer := range [][]api.Block{nil, {}, numbered(api.MaxBlocks + 1), make([]api.Block, 300)} {
		for _, had := range [][]api.Block{nil, {x}, twice, numbered(api.MaxCache + 1)} {
			for _, places := range [][]int{nil, {0}, {-1}, {0, 0}} {
				wantPacketsError(t, "G1: a peer", putsAt(places...), peer, had, api.ErrRange)
				wantApplyError(t, "G2: a peer", packetsAt(places...), peer, had, api.ErrRange)
			}
		}
	}
}

// refused: lists of blocks that cache.Check refuses, and how.
func refused() map[api.Errno][][]api.Block {
	return map[api.Errno][][]api.Block{
		api.ErrForm:  {{x, x}, {{}, x, {}}, {x, y, z, y}, append(numbered(api.MaxCache-1), numbered(1)...), make([]api.Block, api.MaxCache)},
		api.ErrLimit: {numbered(api.MaxCache + 1), make([]api.Block, api.MaxCache+1), numbered(300)},
	}
}

// What is wrong with had is told ahead of what is wrong with puts and packets.
func TestHadThatMayNotBe(t *testing.T) {
	for want, lists := range refused() {
		for _, had := range lists {
			if err := cache.Check(had); err != error(want) {
				t.Fatalf("E2: Check(%v): %v", had, err)
			}
			for _, places := range [][]int{nil, {0}, {-1}, {0, 0}, {api.MaxBlocks}} {
				wantPacketsError(t, "G1: had", putsAt(places...), numbered(3), had, want)
				wantApplyError(t, "G2: had", packetsAt(places...), numbered(3), had, want)
				got, err := plan.Had(had, packetsAt(places...))
				wantError(t, "G3: Had", err, want, got)
			}
			wantApplyError(t, "G2: had", []api.Packet{{Kind: 9}}, numbered(3), had, want)
		}
	}
}

func TestHad(t *testing.T) {
	literal := func(b api.Block) api.Packet { return api.Packet{Kind: api.Literal, Data: b} }
	full := numbered(api.MaxCache)
	cases := []struct {
		name    string
		had     []api.Block
		packets []api.Packet
		want    []api.Block
	}{
		{"nothing", nil, nil, nil},
		{"no packets", []api.Block{x, y}, nil, []api.Block{x, y}},
		{"no packets, all that may be had", full, nil, full},
		{"a new one", []api.Block{x, y}, []api.Packet{literal(z)}, []api.Block{z, x, y}},
		{"two new ones", []api.Block{x}, []api.Packet{literal(y), literal(z)}, []api.Block{z, y, x}},
		{"one that was had", []api.Block{x, y, z}, []api.Packet{literal(z)}, []api.Block{z, x, y}},
		{"one twice", []api.Block{x}, []api.Packet{literal(y), literal(z), literal(y)}, []api.Block{y, z, x}},
		{"noughts", []api.Block{x}, []api.Packet{literal(api.Block{})}, []api.Block{{}, x}},
		{"one too many", full, []api.Packet{literal(x)}, append([]api.Block{x}, full[:api.MaxCache-1]...)},
		{"the last of all", full, []api.Packet{literal(full[api.MaxCache-1])}, append([]api.Block{full[api.MaxCache-1]}, full[:api.MaxCache-1]...)},
		{"other kinds", []api.Block{x}, []api.Packet{{Kind: api.Zero, Data: y}, {Kind: api.Same, Data: y}, {Kind: api.Cached, Data: y}}, []api.Block{x}},
		{"kinds that are none", []api.Block{x}, []api.Packet{{Kind: -1, Data: y}, {Kind: api.Literal + 1, Data: y}}, []api.Block{x}},
		{"between other kinds", nil, []api.Packet{{Kind: api.Zero, Data: y}, literal(x), {Kind: api.Cached, Data: z}}, []api.Block{x}},
		{"at places that are none, or fall", nil, []api.Packet{{At: 5, Kind: api.Literal, Data: x}, {At: -1, Kind: api.Literal, From: -9, Data: y}, {At: 5, Kind: api.Literal, Data: z}}, []api.Block{z, y, x}},
	}
	for _, k := range cases {
		wantHad(t, "G3: "+k.name, k.had, k.packets, k.want)
	}
}

// Of many literal blocks the last MaxCache stay that are not alike, the last one first.
func TestHadOfManyPackets(t *testing.T) {
	d := die(8)
	for range 200 {
		var packets []api.Packet
		var literals []api.Block
		for range d.n(60) {
			p := api.Packet{At: d.n(40), Kind: d.n(6) - 1, From: d.n(9), Data: few(d.n(14))}
			packets = append(packets, p)
			if p.Kind == api.Literal {
				literals = append(literals, p.Data)
			}
		}
		had := numbered(d.n(api.MaxCache + 1))
		var want []api.Block
		for _, b := range append(reversed(literals), had...) {
			if len(want) < api.MaxCache && !slices.Contains(want, b) {
				want = append(want, b)
			}
		}
		wantHad(t, "G3", had, packets, want)
	}
}

func reversed(l []api.Block) []api.Block {
	l = slices.Clone(l)
	slices.Reverse(l)
	return l
}

// spill: the list, with something behind its end.
func spill[T any](l []T, behind ...T) []T {
	return append(slices.Clone(l), behind...)[:len(l)]
}

// given: lists to hand in, each with something behind its end that would be found, if it were read.
type given struct {
	puts      []api.Put
	packets   []api.Packet
	peer, had []api.Block
}

func newGiven() given {
	return given{
		puts:    spill([]api.Put{{At: 0, Data: z}, {At: 1}, {At: 2, Data: x}, {At: 3, Data: few(9)}}, api.Put{At: 0, Data: z}),
		packets: spill([]api.Packet{{At: 0, Kind: api.Cached, From: 0}, {At: 1}, {At: 2, Kind: api.Same, From: 4}, {At: 3, Kind: api.Literal, Data: few(9)}}, api.Packet{At: -1, Kind: api.Literal, Data: y}),
		peer:    spill([]api.Block{x, y, y, y}, few(9)),
		had:     spill([]api.Block{z, y}, few(9), z, z),
	}
}

func (g given) is(o given) bool {
	return slices.Equal(g.puts[:5], o.puts[:5]) && slices.Equal(g.packets[:5], o.packets[:5]) && slices.Equal(g.peer[:5], o.peer[:5]) && slices.Equal(g.had[:5], o.had[:5])
}

func (g given) wipe() {
	clear(g.puts[:5])
	clear(g.packets[:5])
	clear(g.peer[:5])
	clear(g.had[:5])
}

// answers: of all calls, of what is given.
type answers struct {
	packets []api.Packet
	puts    []api.Put
	missing []int
	had     []api.Block
	same    []api.Block // had, where nothing is touched
}

func (g given) ask() answers {
	var a answers
	a.packets, _ = plan.Packets(g.puts, g.peer, g.had)
	a.puts, a.missing, _ = plan.Apply(g.packets, g.peer, g.had)
	a.had, _ = plan.Had(g.had, g.packets)
	a.same, _ = plan.Had(g.had, nil)
	return a
}

func (a answers) wipe() {
	clear(a.packets[:cap(a.packets)])
	clear(a.puts[:cap(a.puts)])
	clear(a.missing[:cap(a.missing)])
	clear(a.had[:cap(a.had)])
	clear(a.same[:cap(a.same)])
}

func TestListsAreTheCallersOwn(t *testing.T) {
	want := answers{
		packets: []api.Packet{{At: 0, Kind: api.Cached, From: 0}, {At: 1, Kind: api.Zero}, {At: 2, Kind: api.Same, From: 0}, {At: 3, Kind: api.Literal, Data: few(9)}},
		puts:    []api.Put{{At: 0, Data: z}, {At: 1}, {At: 3, Data: few(9)}},
		missing: []int{2},
		had:     []api.Block{few(9), z, y},
		same:    []api.Block{z, y},
	}
	g := newGiven()
	one, two := g.ask(), g.ask()
	if !reflect.DeepEqual(one, want) {
		t.Errorf("Z2: what stands behind a list was read: %v; wanted is %v", one, want)
	}
	if !g.is(newGiven()) {
		t.Errorf("Z2: what was handed in was written into: %v", g)
	}
	g.wipe()
	if !reflect.DeepEqual(one, want) {
		t.Errorf("Z2: what was handed in was kept: %v; wanted is %v", one, want)
	}
	one.wipe()
	if !reflect.DeepEqual(two, want) {
		t.Errorf("Z2: two answers share memory: %v; wanted is %v", two, want)
	}
}
