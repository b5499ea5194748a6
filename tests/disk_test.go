package tests

import (
	"bytes"
	"math"
	"testing"

	"loop.example/s01594/impl"
)

func TestNewDisk(t *testing.T) {
	for _, blocks := range []int64{1, 2, 17, impl.MaxBlocks} {
		d := impl.NewDisk(blocks)
		if !bytes.Equal(d.Durable, make([]byte, blocks*64)) || len(d.Pending) != 0 || !impl.ValidDisk(d) {
			t.Errorf("%d blocks: %d bytes, %d pending", blocks, len(d.Durable), len(d.Pending))
		}
	}
	for _, blocks := range []int64{0, -1, impl.MaxBlocks + 1, math.MinInt64, math.MaxInt64, math.MaxInt64/64 + 2} {
		if !isZeroDisk(impl.NewDisk(blocks)) {
			t.Errorf("%d blocks: not refused", blocks)
		}
	}
}

func TestDiskLimits(t *testing.T) {
	if impl.BlockSize != 64 || impl.MaxBlocks != 300 || impl.MaxPending != 2000 {
		t.Error("a limit is not the document's")
	}
}

func TestValidDisk(t *testing.T) {
	one := func(block int64, size int) []impl.Write {
		return []impl.Write{{Block: block, Data: make([]byte, size)}}
	}
	cases := []struct {
		name    string
		durable int
		pending []impl.Write
		want    bool
	}{
		{"no block", 0, nil, false},
		{"a byte less than a block", 63, nil, false},
		{"one block", 64, nil, true},
		{"a byte more than a block", 65, nil, false},
		{"MaxBlocks blocks", 64 * impl.MaxBlocks, nil, true},
		{"a byte less than MaxBlocks blocks", 64*impl.MaxBlocks - 1, nil, false},
		{"MaxBlocks+1 blocks", 64 * (impl.MaxBlocks + 1), nil, false},
		{"first block written", 192, one(0, 64), true},
		{"last block written", 192, one(2, 64), true},
		{"block behind the last", 192, one(3, 64), false},
		{"block ahead of the first", 192, one(-1, 64), false},
		{"smallest number", 192, one(math.MinInt64, 64), false},
		{"largest number", 192, one(math.MaxInt64, 64), false},
		{"no data", 192, one(1, 0), false},
		{"data short by one", 192, one(1, 63), false},
		{"data long by one", 192, one(1, 65), false},
		{"a bad write behind a good one", 192, append(one(1, 64), one(1, 63)...), false},
		{"a bad write ahead of a good one", 192, append(one(5, 64), one(1, 64)...), false},
		{"MaxPending writes", 192, diskWithPending(3, impl.MaxPending).Pending, true},
		{"MaxPending+1 writes", 192, diskWithPending(3, impl.MaxPending+1).Pending, false},
		{"a pending write and no block", 0, one(0, 64), false},
	}
	for _, c := range cases {
		if got := impl.ValidDisk(impl.Disk{Durable: make([]byte, c.durable), Pending: c.pending}); got != c.want {
			t.Errorf("%s: %v", c.name, got)
		}
	}
}

// notValid are disks that every operation must refuse.
func notValid() []impl.Disk {
	return []impl.Disk{
		{},
		{Durable: make([]byte, 63)},
		{Durable: make([]byte, 65)},
		{Durable: make([]byte, 64*(impl.MaxBlocks+1))},
		{Pending: []impl.Write{{Data: ramp(1)}}},
		{Durable: make([]byte, 64), Pending: []impl.Write{{Block: 1, Data: ramp(1)}}},
		{Durable: make([]byte, 64), Pending: []impl.Write{{Block: -1, Data: ramp(1)}}},
		{Durable: make([]byte, 64), Pending: []impl.Write{{Block: 0}}},
		{Durable: make([]byte, 64), Pending: []impl.Write{{Block: 0, Data: make([]byte, 65)}}},
		diskWithPending(2, impl.MaxPending+1),
	}
}

func TestOperationsRefuseADiskThatIsNotValid(t *testing.T) {
	for i, d := range notValid() {
		if impl.ValidDisk(d) {
			t.Errorf("disk %d is valid", i)
		}
		if !isZeroDisk(impl.DiskWrite(d, 0, ramp(1))) {
			t.Errorf("disk %d: DiskWrite", i)
		}
		if len(impl.DiskRead(d, 0)) != 0 {
			t.Errorf("disk %d: DiskRead", i)
		}
		if !isZeroDisk(impl.DiskSync(d)) {
			t.Errorf("disk %d: DiskSync", i)
		}
		if !isZeroDisk(impl.DiskCrash(d, []int64{64})) {
			t.Errorf("disk %d: DiskCrash", i)
		}
	}
}

func TestDiskWrite(t *testing.T) {
	d := writesTo(t, impl.NewDisk(3), 2, 0, 2)
	want := impl.Disk{Durable: make([]byte, 192), Pending: []impl.Write{{Block: 2, Data: ramp(1)}, {Block: 0, Data: ramp(18)}, {Block: 2, Data: ramp(35)}}}
	if !sameDisk(d, want) {
		t.Errorf("%+v", d)
	}
	for _, block := range []int64{-1, 3, math.MinInt64, math.MaxInt64} {
		if !isZeroDisk(impl.DiskWrite(d, block, ramp(1))) {
			t.Errorf("block %d: not refused", block)
		}
	}
	for _, size := range []int{0, 1, 63, 65, 128} {
		if !isZeroDisk(impl.DiskWrite(d, 1, make([]byte, size))) {
			t.Errorf("%d bytes: not refused", size)
		}
	}
}

func TestDiskWriteUpToMaxPending(t *testing.T) {
	d := impl.DiskWrite(diskWithPending(2, impl.MaxPending-1), 1, ramp(9))
	if len(d.Pending) != impl.MaxPending || !bytes.Equal(impl.DiskRead(d, 1), ramp(9)) {
		t.Errorf("the last place: %d pending", len(d.Pending))
	}
	if !isZeroDisk(impl.DiskWrite(d, 1, ramp(9))) {
		t.Error("one more than MaxPending: not refused")
	}
}

func TestDiskRead(t *testing.T) {
	d := impl.DiskSync(writesTo(t, impl.NewDisk(4), 0, 1, 3))
	d = impl.DiskWrite(d, 1, ramp(100))
	d = impl.DiskWrite(d, 2, ramp(150))
	d = impl.DiskWrite(d, 1, ramp(200))
	for block, want := range [][]byte{ramp(1), ramp(200), ramp(150), ramp(35)} {
		if got := impl.DiskRead(d, int64(block)); !bytes.Equal(got, want) {
			t.Errorf("block %d: %v", block, got)
		}
	}
	for _, block := range []int64{-1, 4, math.MinInt64, math.MaxInt64} {
		if len(impl.DiskRead(d, block)) != 0 {
			t.Errorf("block %d: not refused", block)
		}
	}
}

func TestDiskSync(t *testing.T) {
	d := writesTo(t, impl.NewDisk(3), 2, 0, 2, 0)
	want := bytes.Join([][]byte{ramp(52), make([]byte, 64), ramp(35)}, nil)
	if got := impl.DiskSync(d); !sameDisk(got, impl.Disk{Durable: want}) {
		t.Errorf("%+v", got)
	}
	if got := impl.DiskSync(impl.NewDisk(1)); !sameDisk(got, impl.NewDisk(1)) {
		t.Errorf("nothing pending: %+v", got)
	}
	full := diskWithPending(300, impl.MaxPending)
	got := impl.DiskSync(full)
	for block := range int64(300) {
		if !bytes.Equal(impl.DiskRead(got, block), impl.DiskRead(full, block)) {
			t.Errorf("MaxPending: block %d", block)
		}
	}
}

// crashModel does a crash byte by byte, from the words of the document.
func crashModel(d impl.Disk, choices []int64) impl.Disk {
	out := impl.Disk{Durable: bytes.Clone(d.Durable)}
	for i, w := range d.Pending {
		choice := int64(0)
		if i < len(choices) {
			choice = choices[i]
		}
		for at, b := range w.Data {
			if choice < 0 || choice > 63 || int64(at) < choice {
				out.Durable[int(w.Block)*64+at] = b
			}
		}
	}
	return out
}

func TestDiskCrashEveryPairOfChoices(t *testing.T) {
	d := impl.DiskSync(writesTo(t, impl.NewDisk(2), 0, 1))
	d = impl.DiskWrite(d, 0, ramp(90))
	d = impl.DiskWrite(d, 0, ramp(160))
	for first := int64(-2); first <= 66; first++ {
		for second := int64(-2); second <= 66; second++ {
			choices := []int64{first, second}
			if got := impl.DiskCrash(d, choices); !sameDisk(got, crashModel(d, choices)) {
				t.Errorf("choices %v: %v", choices, got.Durable[:64])
			}
		}
	}
}

func TestDiskCrashChoices(t *testing.T) {
	d := writesTo(t, impl.NewDisk(3), 1, 2, 1, 1)
	cases := [][]int64{
		nil,
		{64},
		{0, 0, 0, 64},
		{63, 63, 62, 1},
		{math.MinInt64, math.MaxInt64, 1, 0},
		{5, 64, 3, 1, 64, 64, 64},
	}
	for _, c := range cases {
		if got := impl.DiskCrash(d, c); !sameDisk(got, crashModel(d, c)) {
			t.Errorf("choices %v: %+v", c, got)
		}
	}
	short := []int64{64, 7}
	long := make([]int64, impl.MaxPending)
	copy(long, short)
	for i := 4; i < len(long); i++ {
		long[i] = 64
	}
	if !sameDisk(impl.DiskCrash(d, long), impl.DiskCrash(d, short)) {
		t.Error("choices beyond the writes play a part, or MaxPending of them are refused")
	}
	if !isZeroDisk(impl.DiskCrash(d, append(long, 0))) {
		t.Error("MaxPending+1 choices: not refused")
	}
	if !isZeroDisk(impl.DiskCrash(impl.NewDisk(1), make([]int64, impl.MaxPending+1))) {
		t.Error("MaxPending+1 choices and nothing pending: not refused")
	}
}

// TestDiskPromise walks through many scripts of operations beside a model that knows what was synced
// and which blocks were written since.
func TestDiskPromise(t *testing.T) {
	for seed := range uint64(60) {
		n := &numbers{state: seed}
		blocks := 1 + n.below(6)
		d := impl.NewDisk(int64(blocks))
		synced, seen := make([]byte, blocks*64), make([]byte, blocks*64)
		written := make([]bool, blocks)
		for range 120 {
			switch n.below(12) {
			case 0:
				d = impl.DiskSync(d)
				copy(synced, seen)
				clear(written)
			case 1:
				choices := make([]int64, n.below(len(d.Pending)+3))
				for i := range choices {
					choices[i] = int64(n.below(70)) - 2
				}
				want := crashModel(d, choices)
				d = impl.DiskCrash(d, choices)
				if !sameDisk(d, want) {
					t.Fatalf("seed %d: crash with %v", seed, choices)
				}
				for b, w := range written {
					if at := b * 64; !w && !bytes.Equal(impl.DiskRead(d, int64(b)), synced[at:at+64]) {
						t.Fatalf("seed %d: block %d, not written since the sync, changed by a crash", seed, b)
					}
				}
				copy(synced, d.Durable)
				copy(seen, d.Durable)
				clear(written)
			default:
				b, data := n.below(blocks), n.bytes(64)
				d = impl.DiskWrite(d, int64(b), data)
				copy(seen[b*64:], data)
				written[b] = true
			}
			if !impl.ValidDisk(d) || !bytes.Equal(d.Durable, synced) {
				t.Fatalf("seed %d: what is durable is not what was synced", seed)
			}
			for b := range blocks {
				if !bytes.Equal(impl.DiskRead(d, int64(b)), seen[b*64:b*64+64]) {
					t.Fatalf("seed %d: block %d is not read as it was last written", seed, b)
				}
			}
		}
	}
}
