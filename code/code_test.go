package code

import (
	"bytes"
	"fmt"
	"math"
	"reflect"
	"slices"
	"testing"

	"roundelay/api"
	"roundelay/build"
)

// sample has all its numbers different, so that none can stand in for another one.
func sample() api.Kernel {
	return api.Kernel{Pace: 1, Stages: 2, Ops: []api.Op{
		{Slot: 3, Stage: 4, Op: 5, Dest: 6, A: 7, B: 8, Array: 9, Step: 10, Plus: 11, N: 12},
		{Slot: -3, Stage: -4, Op: -5, Dest: -6, A: -7, B: -8, Array: -9, Step: -10, Plus: -11, N: -12},
	}}
}

// sampleBytes are written out by hand, a number a row.
func sampleBytes() []byte {
	return []byte{
		0, 0, 0, 0, 0, 0, 0, 1,
		0, 0, 0, 0, 0, 0, 0, 2,
		0, 0, 0, 0, 0, 0, 0, 2,

		0, 0, 0, 0, 0, 0, 0, 3,
		0, 0, 0, 0, 0, 0, 0, 4,
		0, 0, 0, 0, 0, 0, 0, 5,
		0, 0, 0, 0, 0, 0, 0, 6,
		0, 0, 0, 0, 0, 0, 0, 7,
		0, 0, 0, 0, 0, 0, 0, 8,
		0, 0, 0, 0, 0, 0, 0, 9,
		0, 0, 0, 0, 0, 0, 0, 10,
		0, 0, 0, 0, 0, 0, 0, 11,
		0, 0, 0, 0, 0, 0, 0, 12,

		255, 255, 255, 255, 255, 255, 255, 253,
		255, 255, 255, 255, 255, 255, 255, 252,
		255, 255, 255, 255, 255, 255, 255, 251,
		255, 255, 255, 255, 255, 255, 255, 250,
		255, 255, 255, 255, 255, 255, 255, 249,
		255, 255, 255, 255, 255, 255, 255, 248,
		255, 255, 255, 255, 255, 255, 255, 247,
		255, 255, 255, 255, 255, 255, 255, 246,
		255, 255, 255, 255, 255, 255, 255, 245,
		255, 255, 255, 255, 255, 255, 255, 244,
	}
}

// edge is a number, and the eight bytes that it has.
type edge struct {
	n    int64
	want [8]byte
}

func edges() []edge {
	return []edge{
		{0, [8]byte{}},
		{1, [8]byte{7: 1}},
		{127, [8]byte{7: 127}},
		{128, [8]byte{7: 128}},
		{255, [8]byte{7: 255}},
		{256, [8]byte{6: 1}},
		{math.MaxInt32, [8]byte{0, 0, 0, 0, 127, 255, 255, 255}},
		{math.MaxInt32 + 1, [8]byte{4: 128}},
		{math.MaxUint32, [8]byte{4: 255, 5: 255, 6: 255, 7: 255}},
		{1 << 32, [8]byte{3: 1}},
		{0x0102030405060708, [8]byte{1, 2, 3, 4, 5, 6, 7, 8}},
		{math.MaxInt64 - 1, [8]byte{127, 255, 255, 255, 255, 255, 255, 254}},
		{math.MaxInt64, [8]byte{127, 255, 255, 255, 255, 255, 255, 255}},
		{math.MinInt64, [8]byte{0: 128}},
		{math.MinInt64 + 1, [8]byte{0: 128, 7: 1}},
		{math.MinInt32, [8]byte{255, 255, 255, 255, 128, 0, 0, 0}},
		{-256, [8]byte{255, 255, 255, 255, 255, 255, 255, 0}},
		{-255, [8]byte{255, 255, 255, 255, 255, 255, 255, 1}},
		{-128, [8]byte{255, 255, 255, 255, 255, 255, 255, 128}},
		{-1, [8]byte{255, 255, 255, 255, 255, 255, 255, 255}},
	}
}

// field is one number of the second Op of the sample, or of the sample itself, and how many numbers stand ahead of it.
type field struct {
	name  string
	of    func(k *api.Kernel) reflect.Value
	ahead int
}

func fields() []field {
	all := []field{}
	for i, name := range []string{"Pace", "Stages"} {
		all = append(all, field{name, func(k *api.Kernel) reflect.Value { return reflect.ValueOf(k).Elem().FieldByName(name) }, i})
	}
	for i, name := range []string{"Slot", "Stage", "Op", "Dest", "A", "B", "Array", "Step", "Plus", "N"} {
		all = append(all, field{"an Op's " + name, func(k *api.Kernel) reflect.Value { return reflect.ValueOf(&k.Ops[1]).Elem().FieldByName(name) }, 13 + i})
	}
	return all
}

// withOps is a kernel with so many Ops, no two of them alike. N is below 0, so that the last bytes of such a kernel are never those of a smaller one.
func withOps(n int) api.Kernel {
	k := api.Kernel{Pace: 7, Stages: -3}
	for at := range n {
		k.Ops = append(k.Ops, api.Op{Slot: at, Stage: -at, Op: at + 300, Dest: 1 << 40, A: at, B: at * at, N: int64(-1 - at)})
	}
	return k
}

func same(a, b api.Kernel) bool {
	return a.Pace == b.Pace && a.Stages == b.Stages && slices.Equal(a.Ops, b.Ops)
}

func put(t *testing.T, name string, k api.Kernel) []byte {
	t.Helper()
	b, code := Put(k)
	if code != api.OK {
		t.Fatalf("%s: Put = %d of %+v", name, code, k)
	}
	return b
}

func get(t *testing.T, name string, b []byte) api.Kernel {
	t.Helper()
	k, code := Get(b)
	if code != api.OK {
		t.Fatalf("%s: Get = %d of %v", name, code, b)
	}
	return k
}

// expectBoth holds that a kernel has these bytes, and is got of them.
func expectBoth(t *testing.T, name string, k api.Kernel, want []byte) {
	t.Helper()
	if b := put(t, name, k); !bytes.Equal(b, want) {
		t.Errorf("%s: Put = %v, want %v", name, b, want)
	}
	if got := get(t, name, want); !same(got, k) {
		t.Errorf("%s: Get = %+v, want %+v", name, got, k)
	}
}

func expectTooMany(t *testing.T, name string, k api.Kernel) {
	t.Helper()
	if b, code := Put(k); code != api.ErrSize || len(b) != 0 {
		t.Errorf("%s: Put = %d bytes, %d", name, len(b), code)
	}
}

func expectNoKernel(t *testing.T, name string, b []byte) {
	t.Helper()
	if k, code := Get(b); code != api.ErrForm || k.Pace != 0 || k.Stages != 0 || len(k.Ops) != 0 {
		t.Errorf("%s: Get = %+v, %d of %d bytes", name, k, code, len(b))
	}
}

// counted is b with another number of Ops told in it.
func counted(b []byte, n int64) []byte {
	b = slices.Clone(b)
	for i := range 8 {
		b[16+i] = byte(uint64(n) >> (56 - 8*i))
	}
	return b
}

func TestLimits(t *testing.T) {
	if api.MaxBody != 16 {
		t.Error("the limit is another than that which these tests were written for")
	}
}

func TestBytesByHand(t *testing.T) {
	expectBoth(t, "the sample", sample(), sampleBytes())
	expectBoth(t, "no Ops", api.Kernel{Pace: 200, Stages: -1}, slices.Concat([]byte{7: 200}, bytes.Repeat([]byte{255}, 8), make([]byte, 8)))
	expectBoth(t, "no kernel at all", api.Kernel{}, make([]byte, 24))
	expectBoth(t, "an empty list of Ops", api.Kernel{Ops: []api.Op{}}, make([]byte, 24))
	expectBoth(t, "an Op without anything", api.Kernel{Ops: make([]api.Op, 1)}, slices.Concat(make([]byte, 23), []byte{1}, make([]byte, 80)))
	expectBoth(t, "the same Op twice", api.Kernel{Ops: make([]api.Op, 2)}, slices.Concat(make([]byte, 23), []byte{2}, make([]byte, 160)))
}

// Each number, at its edges, stands in its own eight bytes and in no others.
func TestEachNumberByItself(t *testing.T) {
	for _, f := range fields() {
		for _, e := range edges() {
			k, want := sample(), sampleBytes()
			f.of(&k).SetInt(e.n)
			copy(want[8*f.ahead:], e.want[:])
			expectBoth(t, fmt.Sprint(f.name, " is ", e.n), k, want)
		}
	}
}

// Whatever the kernel is, and whether it may be or not, its numbers alone count.
func TestAllNumbersAtAnEdge(t *testing.T) {
	for _, e := range edges() {
		n := int(e.n)
		op := api.Op{Slot: n, Stage: n, Op: n, Dest: n, A: n, B: n, Array: n, Step: n, Plus: n, N: e.n}
		want := slices.Concat(e.want[:], e.want[:], []byte{7: 16}, bytes.Repeat(e.want[:], 160))
		expectBoth(t, fmt.Sprint("all numbers are ", n), api.Kernel{Pace: n, Stages: n, Ops: slices.Repeat([]api.Op{op}, 16)}, want)
	}
}

func TestEachNumberOfOps(t *testing.T) {
	for n := range 17 {
		k := withOps(n)
		b := put(t, "as many Ops as may be", k)
		if len(b) != 24+80*n || int(b[23]) != n {
			t.Errorf("%d Ops: %d bytes, which tell of %d", n, len(b), b[23])
		}
		expectBoth(t, "so many Ops", k, b)
	}
}

func TestPutRefusesTooManyOps(t *testing.T) {
	for _, n := range []int{17, 18, 32, 255, 256, 272, 1 << 16, 1<<16 + 1} {
		expectTooMany(t, fmt.Sprint(n, " Ops"), withOps(n))
		expectTooMany(t, fmt.Sprint(n, " Ops without anything"), api.Kernel{Ops: make([]api.Op, n)})
	}
}

func TestGetRefusesBytesThatAreCutShort(t *testing.T) {
	expectNoKernel(t, "nil", nil)
	for n := range 17 {
		b := put(t, "a whole one", withOps(n))
		for short := range b {
			expectNoKernel(t, fmt.Sprint("cut to ", short), b[:short])
			expectNoKernel(t, fmt.Sprint("cut to ", short, ", nothing behind"), slices.Clone(b[:short]))
		}
		for at := 1; at < len(b); at++ {
			expectNoKernel(t, fmt.Sprint("without the first ", at), b[at:])
		}
	}
}

func TestGetRefusesBytesBehind(t *testing.T) {
	for n := range 17 {
		b := put(t, "a whole one", withOps(n))
		for _, more := range []int{1, 2, 7, 8, 79, 80, 81, 160, 24 + 80*n, 1 << 16} {
			expectNoKernel(t, fmt.Sprint(n, " Ops, zeros behind: ", more), slices.Concat(b, make([]byte, more)))
			expectNoKernel(t, fmt.Sprint(n, " Ops, others behind: ", more), slices.Concat(b, bytes.Repeat([]byte{255}, more)))
		}
		expectNoKernel(t, "twice the same", slices.Concat(b, b))
	}
}

func TestGetRefusesWrongNumbersOfOps(t *testing.T) {
	for n := range 17 {
		b := put(t, "a whole one", withOps(n))
		for told := int64(-300); told <= 300; told++ {
			if told == int64(n) {
				expectBoth(t, "the right number", withOps(n), counted(b, told))
				continue
			}
			expectNoKernel(t, fmt.Sprint(n, " Ops, of which is told ", told), counted(b, told))
		}
		for _, e := range edges() {
			if e.n < 0 || e.n > 16 {
				expectNoKernel(t, fmt.Sprint(n, " Ops, of which is told ", e.n), counted(b, e.n))
			}
		}
		// Of these the right number is left where bits are cut off, or where 80 or 10 times them wraps round.
		for bit := 5; bit < 64; bit++ {
			expectNoKernel(t, fmt.Sprint("bit ", bit, " too many"), counted(b, int64(n)|int64(uint64(1)<<bit)))
			expectNoKernel(t, fmt.Sprint("bit ", bit, " and all above it too many"), counted(b, int64(n)|-1<<bit))
		}
	}
}

// One Op beyond the limit is refused, even if all else is as it would be.
func TestGetRefusesTooManyOps(t *testing.T) {
	for _, n := range []int{17, 18, 32, 255, 256, 257, 1 << 12} {
		expectNoKernel(t, fmt.Sprint(n, " Ops"), counted(make([]byte, 24+80*n), int64(n)))
		expectNoKernel(t, fmt.Sprint(n, " Ops, of which is told ", byte(n)), counted(make([]byte, 24+80*n), int64(byte(n))))
	}
	expectNoKernel(t, "a great many zeros", make([]byte, 1<<20))
	expectNoKernel(t, "a great many others", bytes.Repeat([]byte{255}, 1<<20))
}

// No byte is there in vain: with any one of them changed, the bytes are of another kernel, or of none.
func TestEachByteCounts(t *testing.T) {
	b := sampleBytes()
	for at := range b {
		for bit := range 8 {
			other := slices.Clone(b)
			other[at] ^= 1 << bit
			if at >= 16 && at < 24 {
				expectNoKernel(t, "another number of Ops", other)
				continue
			}
			k := get(t, "a changed byte", other)
			if same(k, sample()) {
				t.Errorf("the byte %d changed: %+v", at, k)
			}
			expectBoth(t, "a changed byte", k, other)
		}
	}
}

func TestKernelsThatAreBuilt(t *testing.T) {
	sum := api.Loop{
		Logs: []int{3},
		Body: []api.Stmt{
			{Op: api.LLoad, Step: 1, Plus: -1},
			{Op: api.LOp + api.OpAdd, A: api.Ref{At: 0}, B: api.Ref{At: 1, Back: 1}},
			{Op: api.LStore, A: api.Ref{At: 1}, Step: 1, Plus: 3},
		},
		Outs: []int{1},
	}
	k, _, code := build.Build(sum, api.Target{Units: [3]int{2, 1, 1}, Wait: [3]int{1, 3, 2}, Regs: 32})
	if code != api.OK || len(k.Ops) != 3 {
		t.Fatalf("not built: %+v, %d", k, code)
	}
	expectBoth(t, "a kernel that is built", k, oracle(k))
}

func TestPutReadsAndWritesNothingBehindALength(t *testing.T) {
	k := withOps(20)
	k.Ops = k.Ops[:2]
	expectBoth(t, "more Ops behind the length", k, put(t, "so many Ops", withOps(2)))
	if !slices.Equal(k.Ops[:20], withOps(20).Ops) {
		t.Errorf("changed: %+v", k.Ops[:20])
	}
}

func TestGetReadsAndWritesNothingBehindALength(t *testing.T) {
	all := slices.Concat(sampleBytes(), sampleBytes())
	n := len(sampleBytes())
	expectBoth(t, "more bytes behind the length", sample(), all[:n])
	expectNoKernel(t, "the last byte behind the length", all[:n-1])
	if !bytes.Equal(all, slices.Concat(sampleBytes(), sampleBytes())) {
		t.Errorf("changed: %v", all)
	}
}

// An answer is nobody else's: what is written into it changes neither what was handed in nor what is answered next, and the other way round.
func TestPutAnswersNewMemory(t *testing.T) {
	k := sample()
	for range 3 {
		b := put(t, "the sample", k)
		if !bytes.Equal(b, sampleBytes()) {
			t.Errorf("once more: %v", b)
		}
		clear(b[:cap(b)])
	}
	if !same(k, sample()) {
		t.Errorf("changed: %+v", k)
	}
	b := put(t, "the sample", k)
	clear(k.Ops)
	if !bytes.Equal(b, sampleBytes()) {
		t.Errorf("kept: %v", b)
	}
}

func TestGetAnswersNewMemory(t *testing.T) {
	b := sampleBytes()
	for range 3 {
		k := get(t, "the sample", b)
		if !same(k, sample()) {
			t.Errorf("once more: %+v", k)
		}
		clear(k.Ops[:cap(k.Ops)])
	}
	if !bytes.Equal(b, sampleBytes()) {
		t.Errorf("changed: %v", b)
	}
	k := get(t, "the sample", b)
	clear(b)
	if !same(k, sample()) {
		t.Errorf("kept: %+v", k)
	}
}
