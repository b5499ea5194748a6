package tests

import (
	"bytes"
	"testing"

	"loop.example/s01594/impl"
)

func checkSuperImage(t *testing.T, s impl.Super) {
	t.Helper()
	block := impl.EncodeSuper(s)
	if len(block) != impl.BlockSize || !bytes.Equal(block, modelSuperImage(s)) {
		t.Fatalf("%+v: %v", s, block)
	}
	if got := impl.DecodeSuper(block); got != (impl.SuperResult{Good: true, Super: s}) {
		t.Fatalf("%+v was read back as %+v", s, got)
	}
}

func refuseSuper(t *testing.T, name string, block []byte) {
	t.Helper()
	if got := impl.DecodeSuper(block); got != (impl.SuperResult{}) {
		t.Errorf("%s: %v: %+v", name, block, got)
	}
}

func TestSuperImage(t *testing.T) {
	want := []byte("\x01\x02\x03\x04\x05\x06\x07\x08" + "\x01" + "\x11\x12\x13\x14" + "\x00\x00\x0f\x21" + "\xf1\xf2\xf3\xf4")
	want = append(want, make([]byte, 35)...)
	want = append(want, "\x01\x02\x03\x04\x05\x06\x07\x08"...)
	s := impl.Super{Gen: 0x0102030405060708, Bank: 1, Start: 0x11121314, Len: 0xf21, Crc: 0xf1f2f3f4}
	if got := impl.EncodeSuper(s); !bytes.Equal(got, want) {
		t.Errorf("%q", got)
	}
	if got := impl.DecodeSuper(want); !got.Good || got.Super != s {
		t.Errorf("%+v", got)
	}
}

// superFields gives each field its limits and what is just beyond them.
func superFields(s impl.Super) (good, bad []impl.Super) {
	fields := []struct {
		put       func(impl.Super, int64) impl.Super
		good, bad []int64
	}{
		{func(s impl.Super, x int64) impl.Super { s.Gen = x; return s }, []int64{1, 2, 1<<32 - 1, 1 << 32, 1<<63 - 1}, []int64{0, -1, -1 << 63}},
		{func(s impl.Super, x int64) impl.Super { s.Bank = x; return s }, []int64{0, 1}, []int64{-1, 2, 255, 256, 257, -1 << 63, 1<<63 - 1}},
		{func(s impl.Super, x int64) impl.Super { s.Start = x; return s }, []int64{0, 1, 2147483647}, []int64{-1, 2147483648, 1 << 32, -1 << 63, 1<<63 - 1}},
		{func(s impl.Super, x int64) impl.Super { s.Len = x; return s }, []int64{0, 1, 4095, 4096}, []int64{-1, 4097, 1 << 32, -1 << 63, 1<<63 - 1}},
		{func(s impl.Super, x int64) impl.Super { s.Crc = x; return s }, []int64{0, 1, 2147483648, 4294967295}, []int64{-1, 4294967296, -1 << 63, 1<<63 - 1}},
	}
	for _, f := range fields {
		for _, x := range f.good {
			good = append(good, f.put(s, x))
		}
		for _, x := range f.bad {
			bad = append(bad, f.put(s, x))
		}
	}
	return good, bad
}

// TestSuperImageBack is promise 7 for superblocks.
func TestSuperImageBack(t *testing.T) {
	for _, s := range []impl.Super{{Gen: 1}, {Gen: 9, Bank: 1, Start: 8, Len: 7, Crc: 6}, {Gen: 1<<63 - 1, Bank: 1, Start: impl.MaxStat, Len: 4096, Crc: 4294967295}} {
		good, bad := superFields(s)
		for _, x := range good {
			checkSuperImage(t, x)
		}
		for _, x := range bad {
			if got := impl.EncodeSuper(x); len(got) != 0 {
				t.Errorf("%+v: %v", x, got)
			}
		}
	}
	if len(impl.EncodeSuper(impl.Super{})) != 0 {
		t.Error("the zero value has an image")
	}
	n := &numbers{state: 8}
	for range 5000 {
		checkSuperImage(t, n.super())
	}
}

// TestDecodeSuperRefuses has blocks in the form of a superblock that is not valid.
func TestDecodeSuperRefuses(t *testing.T) {
	s := impl.Super{Gen: 7, Bank: 1, Start: 6, Len: 5, Crc: 4}
	for _, x := range []impl.Super{{}, {Bank: 1, Start: 6, Len: 5, Crc: 4}, {Gen: -1}, {Gen: -1 << 63, Len: 5}, {Gen: 7, Bank: 2}, {Gen: 7, Bank: 255},
		{Gen: 7, Start: 2147483648}, {Gen: 7, Start: 4294967295}, {Gen: 7, Len: 4097}, {Gen: 7, Len: 4294967295}} {
		refuseSuper(t, "not valid", modelSuperImage(x))
	}
	block := impl.EncodeSuper(s)
	for size := range 64 {
		refuseSuper(t, "too short", block[:size])
		refuseSuper(t, "without its beginning", block[64-size:])
	}
	refuseSuper(t, "too long", append(bytes.Clone(block), 0))
	refuseSuper(t, "too long", append([]byte{0}, block...))
	refuseSuper(t, "the last Gen one byte later", append(append(bytes.Clone(block[:56]), 0), block[56:]...))
	refuseSuper(t, "twice", append(bytes.Clone(block), block...))
	refuseSuper(t, "zeros", make([]byte, 64))
	refuseSuper(t, "nothing", nil)
	for at := 21; at < 56; at++ {
		wrong := bytes.Clone(block)
		wrong[at] = 1
		refuseSuper(t, "a byte between that is not 0", wrong)
	}
}

// TestSuperEveryByte puts every byte at every place of some blocks.
func TestSuperEveryByte(t *testing.T) {
	for _, s := range []impl.Super{{Gen: 1}, {Gen: 258, Bank: 1, Start: 7, Len: 4096, Crc: 4294967295}, {Gen: 1<<63 - 1, Start: impl.MaxStat, Len: 300, Crc: 5}} {
		block := impl.EncodeSuper(s)
		for at, was := range block {
			for b := range 256 {
				block[at] = byte(b)
				if got, want := impl.DecodeSuper(block), modelDecodeSuper(block); got != want {
					t.Fatalf("byte %d as %d: %+v, not %+v", at, b, got, want)
				}
				inGen := at < 8 || at >= 56
				if inGen && b != int(was) && impl.DecodeSuper(block).Good {
					t.Fatalf("byte %d as %d: the two copies of Gen differ", at, b)
				}
			}
			block[at] = was
		}
	}
	n := &numbers{state: 81}
	for range 20000 {
		block := n.damaged(modelSuperImage(n.super()))
		if got, want := impl.DecodeSuper(block), modelDecodeSuper(block); got != want {
			t.Fatalf("%v: %+v, not %+v", block, got, want)
		}
	}
}

// checkTorn is promise 8: the first bytes of one superblock's image, and the others of another's.
func checkTorn(t *testing.T, first, others impl.Super) {
	t.Helper()
	a, b := impl.EncodeSuper(first), impl.EncodeSuper(others)
	for cut := range 65 {
		block := append(bytes.Clone(a[:cut]), b[cut:]...)
		want := impl.SuperResult{}
		if bytes.Equal(block, a) {
			want = impl.SuperResult{Good: true, Super: first}
		}
		if bytes.Equal(block, b) {
			want = impl.SuperResult{Good: true, Super: others}
		}
		if got := impl.DecodeSuper(block); got != want {
			t.Fatalf("%d bytes of %+v over %+v: %+v", cut, first, others, got)
		}
	}
}

func TestTornSuper(t *testing.T) {
	n := &numbers{state: 82}
	for low := range 62 {
		// One bit apart: the highest and the lowest byte of Gen are where a tear is the hardest to see.
		s, other := n.super(), n.super()
		other.Gen = s.Gen ^ 1<<low
		if other.Gen > 0 {
			checkTorn(t, s, other)
			checkTorn(t, other, s)
		}
	}
	for gen := int64(1); gen < 600; gen++ {
		// The slot of a superblock had the one two generations before.
		old, now := n.super(), n.super()
		old.Gen, now.Gen = gen, gen+2
		checkTorn(t, now, old)
		now.Bank, now.Start, now.Len, now.Crc = old.Bank, old.Start, old.Len, old.Crc
		checkTorn(t, now, old)
	}
	for range 2000 {
		if s, other := n.super(), n.super(); s.Gen != other.Gen {
			checkTorn(t, s, other)
		}
	}
}
