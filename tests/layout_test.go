package tests

import (
	"bytes"
	"math"
	"testing"

	"loop.example/s01594/impl"
)

// badConfigs are configurations that every function must refuse.
func badConfigs() []impl.Config {
	var out []impl.Config
	for _, x := range []int64{math.MinInt64, -1, 0, impl.MaxArea + 1, 1 << 32, math.MaxInt64} {
		out = append(out, impl.Config{SnapBlocks: x, LogBlocks: 1}, impl.Config{SnapBlocks: 1, LogBlocks: x},
			impl.Config{SnapBlocks: x, LogBlocks: impl.MaxArea}, impl.Config{SnapBlocks: impl.MaxArea, LogBlocks: x}, impl.Config{SnapBlocks: x, LogBlocks: x})
	}
	// The sum of the two is that of a valid configuration.
	return append(out, impl.Config{SnapBlocks: -1, LogBlocks: 4}, impl.Config{SnapBlocks: 3, LogBlocks: 0}, impl.Config{SnapBlocks: 65, LogBlocks: -62})
}

func TestRecoverConstants(t *testing.T) {
	if impl.MaxArea != 64 {
		t.Error("a limit is not the document's")
	}
	codes := []int64{impl.RecoverGood, impl.RecoverDegraded, impl.RecoverStopped, impl.RecoverLost, impl.RecoverBad}
	for i, code := range codes {
		if code != int64(i) {
			t.Errorf("code %d is %d", i, code)
		}
	}
}

func TestFormatDisk(t *testing.T) {
	root := []byte("\x01/\x00" + "\x00\x00\x00\x00\x00\x00\x00\x00\x00\x00\x00\x00\x00\x00\x00\x00\x00\x00\x00\x00")
	super := modelSuperImage(impl.Super{Gen: 1, Len: 23, Crc: crcByBits(root)})
	for _, snap := range []int64{1, 2, 3, 63, impl.MaxArea} {
		for _, log := range []int64{1, 2, 5, 63, impl.MaxArea} {
			d := impl.FormatDisk(impl.Config{SnapBlocks: snap, LogBlocks: log})
			want := make([]byte, 64*(2+2*(snap+log)))
			copy(want[64:], super)
			copy(want[128:], root)
			if !bytes.Equal(d.Durable, want) || len(d.Pending) != 0 {
				t.Errorf("%d and %d blocks: %d bytes, %d pending", snap, log, len(d.Durable), len(d.Pending))
			}
		}
	}
	for _, c := range badConfigs() {
		if d := impl.FormatDisk(c); !isZeroDisk(d) {
			t.Errorf("%+v: %d bytes", c, len(d.Durable))
		}
	}
}

// blockNumbers is a disk with the number of the block in each of its bytes.
func blockNumbers(blocks int64) impl.Disk {
	d := impl.NewDisk(blocks)
	for i := range d.Durable {
		d.Durable[i] = byte(i / 64)
	}
	return d
}

func TestAreaBytesPlaces(t *testing.T) {
	d := blockNumbers(2 + 2*(3+2))
	c := impl.Config{SnapBlocks: 3, LogBlocks: 2}
	cases := []struct {
		bank   int64
		log    bool
		blocks []byte
	}{{0, false, []byte{2, 3, 4}}, {0, true, []byte{5, 6}}, {1, false, []byte{7, 8, 9}}, {1, true, []byte{10, 11}}}
	for _, x := range cases {
		want := []byte{}
		for _, b := range x.blocks {
			want = append(want, bytes.Repeat([]byte{b}, 64)...)
		}
		if got := impl.AreaBytes(d, c, x.bank, x.log); !bytes.Equal(got, want) {
			t.Errorf("bank %d, log %v: %v", x.bank, x.log, got)
		}
	}
}

func TestAreaBytesReadsThePendingWrites(t *testing.T) {
	c := impl.Config{SnapBlocks: 1, LogBlocks: 2}
	d := blockNumbers(8)
	d.Pending = []impl.Write{{Block: 7, Data: ramp(1)}, {Block: 2, Data: ramp(2)}, {Block: 7, Data: ramp(3)}, {Block: 0, Data: ramp(4)}}
	if got := impl.AreaBytes(d, c, 1, true); !bytes.Equal(got, append(bytes.Repeat([]byte{6}, 64), ramp(3)...)) {
		t.Errorf("a log: %v", got)
	}
	if got := impl.AreaBytes(d, c, 0, false); !bytes.Equal(got, ramp(2)) {
		t.Errorf("a snapshot: %v", got)
	}
	if got := impl.AreaBytes(d, c, 1, false); !bytes.Equal(got, bytes.Repeat([]byte{5}, 64)) {
		t.Errorf("a snapshot without writes: %v", got)
	}
}

func TestAreaBytesRefuses(t *testing.T) {
	refuse := func(name string, d impl.Disk, c impl.Config, bank int64) {
		t.Helper()
		if len(impl.AreaBytes(d, c, bank, true)) != 0 || len(impl.AreaBytes(d, c, bank, false)) != 0 {
			t.Errorf("%s: %+v, bank %d, %d bytes", name, c, bank, len(d.Durable))
		}
	}
	c := impl.Config{SnapBlocks: 1, LogBlocks: 2}
	for _, bank := range []int64{math.MinInt64, -1, 2, 3, math.MaxInt64} {
		refuse("a bank", blockNumbers(8), c, bank)
	}
	for _, blocks := range []int64{1, 2, 7, 9, 10, 300} {
		refuse("another number of blocks", blockNumbers(blocks), c, 0)
	}
	for _, bad := range badConfigs() {
		refuse("a configuration", blockNumbers(8), bad, 0)
		if blocks := 2 + 2*(bad.SnapBlocks+bad.LogBlocks); blocks >= 1 && blocks <= impl.MaxBlocks {
			refuse("a configuration, and a disk of its size", blockNumbers(blocks), bad, 0)
		}
	}
	for _, bad := range notValid() {
		refuse("a disk", bad, c, 0)
	}
	wrong := blockNumbers(8)
	wrong.Pending = []impl.Write{{Block: 8, Data: ramp(1)}}
	refuse("a pending write behind the disk", wrong, c, 1)
	many := blockNumbers(8)
	many.Pending = diskWithPending(8, impl.MaxPending+1).Pending
	refuse("too many pending writes", many, c, 1)
	many.Pending = many.Pending[:impl.MaxPending]
	if got := impl.AreaBytes(many, c, 1, true); !bytes.Equal(got, modelArea(many, c, 1, true)) || len(got) != 128 {
		t.Errorf("MaxPending pending writes: %v", got)
	}
}

func TestAreaBytesLikeModel(t *testing.T) {
	n := &numbers{state: 90}
	for range 300 {
		s := n.anyStore()
		d := n.pending(s.disk())
		for bank := range int64(2) {
			for _, log := range []bool{false, true} {
				if got, want := impl.AreaBytes(d, s.config, bank, log), modelArea(d, s.config, bank, log); !bytes.Equal(got, want) {
					t.Fatalf("%+v, bank %d, log %v: %v, not %v", s.config, bank, log, got, want)
				}
			}
		}
	}
}
