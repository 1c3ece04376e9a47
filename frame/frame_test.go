package frame_test

import (
	"bytes"
	"hash/crc32"
	"math"
	"reflect"
	"slices"
	"testing"

	"stillwater/api"
	"stillwater/frame"
)

// sealed: bytes with their sum behind them, made by another program's sum than the one that is tested.
func sealed(body ...byte) []byte {
	s := crc32.ChecksumIEEE(body)
	return append(slices.Clone(body), byte(s>>24), byte(s>>16), byte(s>>8), byte(s))
}

func repeat(n, times int) []int {
	return slices.Repeat([]int{n}, times)
}

// someBlocks: blocks of which no two bytes that follow one another are alike.
func someBlocks(n int) []api.Block {
	l := make([]api.Block, n)
	for i := range l {
		for k := range l[i] {
			l[i][k] = byte(8*i + k + 1)
		}
	}
	return l
}

// goodFrames: ordinary frames, and those at the edges.
func goodFrames() []frame.Frame {
	return []frame.Frame{
		{},
		{Kind: 15},
		{Kind: 2, Nums: []int{0, 300}},
		{Kind: 7, Nums: []int{1, 127, 128, 16383, 16384, 2097151, 2097152, 268435455, 268435456, api.MaxNumber}},
		{Kind: 1, Nums: repeat(0, api.MaxNums)},
		{Kind: 15, Nums: repeat(api.MaxNumber, api.MaxNums), Blocks: someBlocks(api.MaxLoad)},
		{Kind: 3, Blocks: someBlocks(1)},
		{Kind: 4, Blocks: make([]api.Block, api.MaxLoad)},
		{Kind: 9, Nums: []int{5}, Blocks: someBlocks(3)},
	}
}

func same(a, b frame.Frame) bool {
	return a.Kind == b.Kind && slices.Equal(a.Nums, b.Nums) && slices.Equal(a.Blocks, b.Blocks)
}

func mustPack(t *testing.T, f frame.Frame) []byte {
	t.Helper()
	b, err := frame.Pack(f)
	if err != nil {
		t.Fatalf("Pack(%v): %v", f, err)
	}
	return b
}

func refused(t *testing.T, what string, b []byte) {
	t.Helper()
	f, err := frame.Unpack(b)
	if err != error(api.ErrForm) || !reflect.ValueOf(f).IsZero() {
		t.Errorf("A3: %s: Unpack(% x) = %v, %v; ErrForm alone is wanted", what, b, f, err)
	}
}

func TestCheckLetsGoodFramesPass(t *testing.T) {
	for _, f := range goodFrames() {
		if err := frame.Check(f); err != nil {
			t.Errorf("A1: Check(%v): %v", f, err)
		}
	}
}

func TestCheckAndPackTellTheFirstError(t *testing.T) {
	tooManyNums, tooManyBlocks := repeat(0, api.MaxNums+1), make([]api.Block, api.MaxLoad+1)
	cases := []struct {
		f    frame.Frame
		want api.Errno
	}{
		{frame.Frame{Kind: -1}, api.ErrRange},
		{frame.Frame{Kind: 16}, api.ErrRange},
		{frame.Frame{Kind: math.MinInt}, api.ErrRange},
		{frame.Frame{Kind: math.MaxInt}, api.ErrRange},
		{frame.Frame{Kind: 256}, api.ErrRange},
		{frame.Frame{Nums: tooManyNums}, api.ErrLimit},
		{frame.Frame{Nums: repeat(0, 16)}, api.ErrLimit},
		{frame.Frame{Blocks: tooManyBlocks}, api.ErrLimit},
		{frame.Frame{Blocks: make([]api.Block, 256)}, api.ErrLimit},
		{frame.Frame{Nums: []int{-1}}, api.ErrRange},
		{frame.Frame{Nums: []int{api.MaxNumber + 1}}, api.ErrRange},
		{frame.Frame{Nums: []int{1, 2, math.MinInt}}, api.ErrRange},
		{frame.Frame{Nums: append(repeat(0, api.MaxNums-1), math.MaxInt)}, api.ErrRange},
		// Of several errors the one named first.
		{frame.Frame{Kind: 16, Nums: tooManyNums, Blocks: tooManyBlocks}, api.ErrRange},
		{frame.Frame{Nums: repeat(-1, api.MaxNums+1)}, api.ErrLimit},
		{frame.Frame{Nums: []int{-1}, Blocks: tooManyBlocks}, api.ErrLimit},
	}
	for _, c := range cases {
		if err := frame.Check(c.f); err != error(c.want) {
			t.Errorf("A1: Check(%v) = %v, %v is wanted", c.f, err, c.want)
		}
		if b, err := frame.Pack(c.f); err != error(c.want) || len(b) != 0 {
			t.Errorf("A1: Pack(%v) = % x, %v, %v alone is wanted", c.f, b, err, c.want)
		}
	}
}

func TestPackGivesTheBytesOfTheDocument(t *testing.T) {
	cases := []struct {
		f    frame.Frame
		want []byte
	}{
		{frame.Frame{}, []byte{0x00, 0x00, 0x41, 0xd9, 0x12, 0xff}},
		{frame.Frame{Kind: 2, Nums: []int{0, 300}}, []byte{0x22, 0x00, 0x00, 0xac, 0x02, 0x91, 0x9f, 0x19, 0xb0}},
	}
	for _, c := range cases {
		if b := mustPack(t, c.f); !bytes.Equal(b, c.want) {
			t.Errorf("A1: Pack(%v) = % x, % x is wanted", c.f, b, c.want)
		}
	}
}

func TestPackWritesEachNumberInAsFewGroupsAsHoldIt(t *testing.T) {
	cases := []struct {
		n      int
		groups []byte
	}{
		{0, []byte{0}},
		{1, []byte{1}},
		{127, []byte{0x7f}},
		{128, []byte{0x80, 1}},
		{300, []byte{0xac, 2}},
		{16383, []byte{0xff, 0x7f}},
		{16384, []byte{0x80, 0x80, 1}},
		{2097151, []byte{0xff, 0xff, 0x7f}},
		{2097152, []byte{0x80, 0x80, 0x80, 1}},
		{268435455, []byte{0xff, 0xff, 0xff, 0x7f}},
		{268435456, []byte{0x80, 0x80, 0x80, 0x80, 1}},
		{api.MaxNumber, []byte{0xff, 0xff, 0xff, 0xff, 7}},
	}
	for _, c := range cases {
		want := sealed(append([]byte{0x51, 0}, c.groups...)...)
		if b := mustPack(t, frame.Frame{Kind: 5, Nums: []int{c.n}}); !bytes.Equal(b, want) {
			t.Errorf("A1: %d is packed as % x, % x is wanted", c.n, b, want)
		}
	}
}

func TestPackAtTheEdges(t *testing.T) {
	full := []byte{0xfc, 32}
	for range api.MaxNums {
		full = append(full, 0xff, 0xff, 0xff, 0xff, 7)
	}
	for _, block := range someBlocks(api.MaxLoad) {
		full = append(full, block[:]...)
	}
	f := frame.Frame{Kind: 15, Nums: repeat(api.MaxNumber, api.MaxNums), Blocks: someBlocks(api.MaxLoad)}
	if b := mustPack(t, f); !bytes.Equal(b, sealed(full...)) {
		t.Errorf("A1: the greatest frame is packed as % x", b)
	}
	want := sealed(0x30, 1, 1, 2, 3, 4, 5, 6, 7, 8)
	if b := mustPack(t, frame.Frame{Kind: 3, Blocks: someBlocks(1)}); !bytes.Equal(b, want) {
		t.Errorf("A1: one block is packed as % x, % x is wanted", b, want)
	}
}

func TestSumIsThatOfOthers(t *testing.T) {
	if s := frame.Sum(nil); s != 0 {
		t.Errorf("A2: the sum of nothing is %x", s)
	}
	if s := frame.Sum([]byte("123456789")); s != 0xcbf43926 {
		t.Errorf("A2: the sum of 123456789 is %x", s)
	}
	b := []byte{}
	for i := range 1000 {
		if s, want := frame.Sum(b), crc32.ChecksumIEEE(b); s != want {
			t.Fatalf("A2: the sum of % x is %x, %x is wanted", b, s, want)
		}
		b = append(b, byte(i*i+i/7))
	}
	for c := range 256 {
		if s, want := frame.Sum([]byte{byte(c)}), crc32.ChecksumIEEE([]byte{byte(c)}); s != want {
			t.Errorf("A2: the sum of the byte %d is %x, %x is wanted", c, s, want)
		}
	}
}

func TestUnpackReadsWhatPackWrote(t *testing.T) {
	for kind := range 16 {
		for _, f := range goodFrames() {
			f.Kind = kind
			b := mustPack(t, f)
			got, err := frame.Unpack(b)
			if err != nil || !same(got, f) {
				t.Errorf("A3: Unpack(% x) = %v, %v; %v is wanted", b, got, err, f)
			}
		}
	}
}

func TestUnpackRefusesHurtFrames(t *testing.T) {
	for _, f := range goodFrames() {
		b := mustPack(t, f)
		for at := range b {
			for other := 1; other < 256; other++ {
				hurt := slices.Clone(b)
				hurt[at] ^= byte(other)
				refused(t, "one byte another one", hurt)
			}
		}
		for size := range b {
			refused(t, "cut", slices.Clone(b[:size]))
		}
		for more := range 256 {
			refused(t, "one byte more", append(slices.Clone(b), byte(more)))
			refused(t, "one byte more ahead", append([]byte{byte(more)}, b...))
		}
	}
	refused(t, "nothing", nil)
}

func TestUnpackRefusesFormsOfNoFrameWithARightSum(t *testing.T) {
	cases := []struct {
		what string
		body []byte
	}{
		{"no head", nil},
		{"half a head", []byte{0}},
		{"0 in two groups", []byte{1, 0, 0x80, 0}},
		{"1 in two groups", []byte{1, 0, 0x81, 0}},
		{"127 in three groups", []byte{1, 0, 0xff, 0x80, 0}},
		{"MaxNumber in six groups", []byte{1, 0, 0xff, 0xff, 0xff, 0xff, 0x87, 0}},
		{"the second number too long", []byte{2, 0, 5, 0x80, 0}},
		{"MaxNumber and one", []byte{1, 0, 0x80, 0x80, 0x80, 0x80, 8}},
		{"five full groups", []byte{1, 0, 0xff, 0xff, 0xff, 0xff, 0x7f}},
		{"six groups", []byte{1, 0, 0x80, 0x80, 0x80, 0x80, 0x80, 1}},
		{"bits beyond 64", []byte{1, 0, 0x81, 0x80, 0x80, 0x80, 0x80, 0x80, 0x80, 0x80, 0x80, 0x80, 1}},
		{"a group that says that more follow, and none does", []byte{1, 0, 0x81}},
		{"a number that isn't there", []byte{1, 0}},
		{"a number too few", []byte{3, 0, 1, 2}},
		{"a number too many", []byte{1, 0, 1, 2}},
		{"thirteen numbers", append([]byte{13, 0}, make([]byte, 13)...)},
		{"fifteen numbers", append([]byte{15, 0}, make([]byte, 15)...)},
		{"a block that isn't there", []byte{0, 1}},
		{"a block without its last byte", append([]byte{0, 1}, make([]byte, 7)...)},
		{"a block and a byte", append([]byte{0, 1}, make([]byte, 9)...)},
		{"a block too many", append([]byte{0, 1}, make([]byte, 16)...)},
		{"a block where there is none", append([]byte{0, 0}, make([]byte, 8)...)},
		{"33 blocks", append([]byte{0, 33}, make([]byte, 33*8)...)},
		{"255 blocks", append([]byte{0, 255}, make([]byte, 255*8)...)},
	}
	for _, c := range cases {
		refused(t, c.what, sealed(c.body...))
	}
}

func TestUnpackRefusesOtherSums(t *testing.T) {
	body := []byte{0x22, 0x00, 0x00, 0xac, 0x02}
	refused(t, "no sum", body)
	refused(t, "a sum of noughts", append(slices.Clone(body), 0, 0, 0, 0))
	refused(t, "the sum's lowest byte first", append(slices.Clone(body), 0xb0, 0x19, 0x9f, 0x91))
	refused(t, "another one's sum", append(slices.Clone(body), 0x41, 0xd9, 0x12, 0xff))
}

// FuzzUnpack: the bytes that Unpack reads are just those that Pack writes.
func FuzzUnpack(f *testing.F) {
	for _, g := range goodFrames() {
		b, _ := frame.Pack(g)
		f.Add(b, false)
		f.Add(b[:len(b)-4], true)
	}
	f.Add([]byte{1, 0, 0x80, 0x80, 0x80, 0x80, 0x80, 0x80, 0x80, 0x80, 0x80, 0x80, 1}, true)
	f.Add([]byte{0xff, 0xff}, true)
	f.Fuzz(func(t *testing.T, b []byte, seal bool) {
		if seal {
			b = sealed(b...)
		}
		g, err := frame.Unpack(b)
		if err != nil {
			refused(t, "fuzz", b)
			return
		}
		if again := mustPack(t, g); !bytes.Equal(again, b) {
			t.Errorf("A3: Unpack(% x) = %v, whose Pack is % x", b, g, again)
		}
	})
}

// Each pair of bytes that might be one number, with a right sum: it is read just if Pack writes it.
func TestUnpackReadsJustTheShortestForm(t *testing.T) {
	for kind := range 16 {
		for a := range 256 {
			for c := range 256 {
				b := sealed(byte(16*kind+1), 0, byte(a), byte(c))
				want := a >= 128 && c >= 1 && c < 128
				f, err := frame.Unpack(b)
				if (err == nil) != want {
					t.Fatalf("A3: Unpack(% x) = %v, %v", b, f, err)
				}
				if want && !same(f, frame.Frame{Kind: kind, Nums: []int{a - 128 + 128*c}}) {
					t.Fatalf("A3: Unpack(% x) = %v", b, f)
				}
			}
		}
	}
}

func TestNothingHandedInIsChangedKeptOrReadBehind(t *testing.T) {
	nums, blocks := repeat(77, 9), someBlocks(9)
	f := frame.Frame{Kind: 6, Nums: nums[:3], Blocks: blocks[:2]}
	b := mustPack(t, f)
	if !slices.Equal(nums, repeat(77, 9)) || !slices.Equal(blocks, someBlocks(9)) {
		t.Error("Z2: Pack wrote into what it was given")
	}
	own := mustPack(t, frame.Frame{Kind: 6, Nums: repeat(77, 3), Blocks: someBlocks(2)})
	if !bytes.Equal(b, own) {
		t.Error("Z2: Pack read what stands behind a list")
	}
	for size := range b {
		refused(t, "cut, with the rest behind it in memory", b[:size])
	}
	got, err := frame.Unpack(b)
	if err != nil || !bytes.Equal(b, own) {
		t.Fatalf("Z2: Unpack wrote into what it was given, or said %v", err)
	}
	frame.Sum(b[:5])
	if !bytes.Equal(b, own) {
		t.Error("Z2: Sum wrote into what it was given")
	}
	clear(b)
	clear(nums)
	clear(blocks)
	if !same(got, frame.Frame{Kind: 6, Nums: repeat(77, 3), Blocks: someBlocks(2)}) {
		t.Error("Z2: Unpack kept what it was given")
	}
}

func TestAnswersAreFreshMemory(t *testing.T) {
	f := frame.Frame{Kind: 6, Nums: repeat(77, 3), Blocks: someBlocks(2)}
	one, two := mustPack(t, f), mustPack(t, f)
	clear(one)
	if !bytes.Equal(two, mustPack(t, f)) {
		t.Error("Z2: two answers of Pack share memory")
	}
	a, _ := frame.Unpack(two)
	b, _ := frame.Unpack(two)
	clear(a.Nums)
	clear(a.Blocks)
	if !same(b, f) {
		t.Error("Z2: two answers of Unpack share memory")
	}
}
