package impl

import (
	"bytes"
	"iter"
)

const BlockSize = 64
const MaxBlocks = 300
const MaxPending = 2000

type Write struct {
	Block int64
	Data  []byte
}

type Disk struct {
	Durable []byte
	Pending []Write
}

// blockBytes is an array so that a block inside the program is always a copy:
// two places never hold the same memory by accident.
type blockBytes [BlockSize]byte

type tableRow[V any] struct {
	key   int64
	value V
}

// table keeps its rows in the order in which their numbers were first used;
// the map only finds a row, so that no answer hangs on a map's order.
type table[V any] struct {
	rows   []tableRow[V]
	places map[int64]int
}

func newTable[V any]() *table[V] {
	return &table[V]{places: map[int64]int{}}
}

func (t *table[V]) put(key int64, value V) {
	if at, found := t.places[key]; found {
		t.rows[at].value = value
		return
	}
	t.places[key] = len(t.rows)
	t.rows = append(t.rows, tableRow[V]{key, value})
}

func (t *table[V]) get(key int64) (V, bool) {
	at, found := t.places[key]
	if !found {
		var none V
		return none, false
	}
	return t.rows[at].value, true
}

func (t *table[V]) empty() bool {
	return len(t.rows) == 0
}

func (t *table[V]) all() iter.Seq2[int64, V] {
	return func(yield func(int64, V) bool) {
		for _, r := range t.rows {
			if !yield(r.key, r.value) {
				return
			}
		}
	}
}

func NewDisk(blocks int64) Disk {
	if blocks < 1 || blocks > MaxBlocks {
		return Disk{}
	}
	return Disk{Durable: make([]byte, blocks*BlockSize)}
}

func ValidDisk(d Disk) bool {
	if len(d.Durable)%BlockSize != 0 {
		return false
	}
	blocks := blockCount(d)
	if blocks < 1 || blocks > MaxBlocks || len(d.Pending) > MaxPending {
		return false
	}
	for _, w := range d.Pending {
		if !hasBlock(d, w.Block) || len(w.Data) != BlockSize {
			return false
		}
	}
	return true
}

func DiskWrite(d Disk, block int64, data []byte) Disk {
	if !ValidDisk(d) || len(d.Pending) >= MaxPending {
		return Disk{}
	}
	if !hasBlock(d, block) || len(data) != BlockSize {
		return Disk{}
	}
	after := copyDisk(d)
	addWrite(&after, block, blockBytes(data))
	return after
}

// addWrite is for a disk that is the caller's own, and has the block and room
// for the write.
func addWrite(d *Disk, block int64, content blockBytes) {
	d.Pending = append(d.Pending, Write{block, content[:]})
}

func DiskRead(d Disk, block int64) []byte {
	if !ValidDisk(d) || !hasBlock(d, block) {
		return nil
	}
	content, found := youngestWrites(d).get(block)
	if !found {
		content = blockAt(d.Durable, block)
	}
	return content[:]
}

func DiskSync(d Disk) Disk {
	if !ValidDisk(d) {
		return Disk{}
	}
	durable := bytes.Clone(d.Durable)
	for block, content := range youngestWrites(d).all() {
		setBlock(durable, block, content)
	}
	return Disk{Durable: durable}
}

func DiskCrash(d Disk, choices []int64) Disk {
	if !ValidDisk(d) || len(choices) > MaxPending {
		return Disk{}
	}
	durable := bytes.Clone(d.Durable)
	for i, w := range d.Pending {
		// An older write to the same block is already in durable here, whole or
		// torn: that is what this one tears.
		before := blockAt(durable, w.Block)
		setBlock(durable, w.Block, tornBlock(before, blockBytes(w.Data), keptBytes(choices, i)))
	}
	return Disk{Durable: durable}
}

func copyDisk(d Disk) Disk {
	// One place more than is needed here: mostly a copy is made to write once.
	pending := make([]Write, 0, len(d.Pending)+1)
	for _, w := range d.Pending {
		pending = append(pending, Write{w.Block, bytes.Clone(w.Data)})
	}
	return Disk{Durable: bytes.Clone(d.Durable), Pending: pending}
}

func blockCount(d Disk) int64 {
	return int64(len(d.Durable) / BlockSize)
}

func hasBlock(d Disk, block int64) bool {
	return block >= 0 && block < blockCount(d)
}

func blockAt(durable []byte, block int64) blockBytes {
	return blockBytes(durable[block*BlockSize:])
}

func setBlock(durable []byte, block int64, content blockBytes) {
	copy(durable[block*BlockSize:], content[:])
}

func youngestWrites(d Disk) *table[blockBytes] {
	writes := newTable[blockBytes]()
	for _, w := range d.Pending {
		writes.put(w.Block, blockBytes(w.Data))
	}
	return writes
}

func keptBytes(choices []int64, i int) int64 {
	if i >= len(choices) {
		return 0
	}
	if c := choices[i]; c >= 0 && c < BlockSize {
		return c
	}
	return BlockSize
}

func tornBlock(before, written blockBytes, kept int64) blockBytes {
	copy(before[:kept], written[:kept])
	return before
}
