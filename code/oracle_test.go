package code

import (
	"encoding/binary"
	"math/rand"
	"reflect"
	"testing"

	"roundelay/api"
)

// oracle goes through a kernel field by field, in whichever order package api has them.
func oracle(k api.Kernel) []byte {
	out := []byte{}
	var walk func(v reflect.Value)
	walk = func(v reflect.Value) {
		switch v.Kind() {
		case reflect.Struct:
			for i := range v.NumField() {
				walk(v.Field(i))
			}
		case reflect.Slice:
			walk(reflect.ValueOf(v.Len()))
			for i := range v.Len() {
				walk(v.Index(i))
			}
		default:
			out = binary.BigEndian.AppendUint64(out, uint64(v.Int()))
		}
	}
	walk(reflect.ValueOf(k))
	return out
}

func anyNumber(g *rand.Rand) int64 {
	return int64(g.Uint64()) >> g.Intn(64)
}

func anyKernel(g *rand.Rand) api.Kernel {
	n := func() int { return int(anyNumber(g)) }
	k := api.Kernel{Pace: n(), Stages: n()}
	for range g.Intn(api.MaxBody + 1) {
		k.Ops = append(k.Ops, api.Op{Slot: n(), Stage: n(), Op: n(), Dest: n(), A: n(), B: n(), Array: n(), Step: n(), Plus: n(), N: anyNumber(g)})
	}
	return k
}

func TestAnyKernelAsTheOracleTells(t *testing.T) {
	for seed := range int64(3000) {
		g := rand.New(rand.NewSource(seed))
		k := anyKernel(g)
		expectBoth(t, "any kernel", k, oracle(k))
	}
}

// Any bytes that are of a kernel are just those that this kernel has; all others are of none.
func TestAnyBytes(t *testing.T) {
	taken, refused := 0, 0
	for seed := range int64(20000) {
		g := rand.New(rand.NewSource(seed))
		b := make([]byte, 24+80*g.Intn(19)+g.Intn(2)*g.Intn(80))
		g.Read(b)
		if g.Intn(8) > 0 {
			b = counted(b, int64(len(b)-24)/80)
		}
		k, code := Get(b)
		if code == api.OK {
			taken++
			expectBoth(t, "any bytes", k, b)
			continue
		}
		refused++
		expectNoKernel(t, "any bytes", b)
		if told := int64(binary.BigEndian.Uint64(b[16:])); told >= 0 && told <= 16 && len(b) == int(24+80*told) {
			t.Fatalf("refused: %v", b)
		}
	}
	if taken < 5000 || refused < 5000 {
		t.Errorf("too little was tried: %d taken, %d refused", taken, refused)
	}
}

// Whatever is not even near to a kernel is refused, and nothing panics.
func FuzzGet(f *testing.F) {
	f.Add([]byte{})
	f.Add(make([]byte, 24))
	f.Add(sampleBytes())
	f.Fuzz(func(t *testing.T, b []byte) {
		k, code := Get(b)
		if code != api.OK {
			expectNoKernel(t, "any bytes", b)
			return
		}
		expectBoth(t, "any bytes", k, b)
	})
}
