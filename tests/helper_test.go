package tests

import (
	"bytes"
	"testing"

	"loop.example/s01594/impl"
)

// numbers is a small generator with a fixed beginning, so that every run tests the same things.
type numbers struct {
	state uint64
}

func (n *numbers) next() uint64 {
	n.state = n.state*6364136223846793005 + 1442695040888963407
	return n.state >> 33
}

func (n *numbers) below(limit int) int {
	return int(n.next() % uint64(limit))
}

func (n *numbers) bytes(count int) []byte {
	out := make([]byte, count)
	for i := range out {
		out[i] = byte(n.next())
	}
	return out
}

// ramp is a block in which every byte differs from its neighbours, so that a byte at the wrong place shows.
func ramp(first byte) []byte {
	out := make([]byte, impl.BlockSize)
	for i := range out {
		out[i] = first + byte(i)
	}
	return out
}

func cloneDisk(d impl.Disk) impl.Disk {
	out := impl.Disk{Durable: bytes.Clone(d.Durable)}
	for _, w := range d.Pending {
		out.Pending = append(out.Pending, impl.Write{Block: w.Block, Data: bytes.Clone(w.Data)})
	}
	return out
}

func sameDisk(a, b impl.Disk) bool {
	if !bytes.Equal(a.Durable, b.Durable) || len(a.Pending) != len(b.Pending) {
		return false
	}
	for i, w := range a.Pending {
		if w.Block != b.Pending[i].Block || !bytes.Equal(w.Data, b.Pending[i].Data) {
			return false
		}
	}
	return true
}

func isZeroDisk(d impl.Disk) bool {
	return sameDisk(d, impl.Disk{})
}

func writesTo(t *testing.T, d impl.Disk, blocks ...int64) impl.Disk {
	t.Helper()
	for i, b := range blocks {
		d = impl.DiskWrite(d, b, ramp(byte(17*i+1)))
		if isZeroDisk(d) {
			t.Fatalf("write %d to block %d was refused", i, b)
		}
	}
	return d
}

func diskWithPending(blocks int64, count int) impl.Disk {
	d := impl.NewDisk(blocks)
	for i := range count {
		d.Pending = append(d.Pending, impl.Write{Block: int64(i) % blocks, Data: ramp(byte(i))})
	}
	return d
}
