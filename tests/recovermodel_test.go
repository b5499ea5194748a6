package tests

import (
	"bytes"
	"fmt"
	"slices"

	"loop.example/s01594/impl"
)

// The model of chapter 5 follows the steps as they are written: it reads block by block, and makes a list
// of the disk operations first and does as many of them as it may afterwards.

func modelFrame(payload []byte) []byte {
	packed := packModel(payload)
	return append([]byte{byte(128 + len(packed)/128), byte(128 + len(packed)%128)}, packed...)
}

type modelRecord struct {
	payload []byte
	end     int
}

func modelScan(area []byte) []modelRecord {
	var out []modelRecord
	at := 0
	for at+2 <= len(area) && area[at] >= 128 && area[at+1] >= 128 {
		m := int(area[at]-128)*128 + int(area[at+1]-128)
		if m < 1 || at+2+m > len(area) {
			break
		}
		payload := unpackModel(area[at+2 : at+2+m])
		if len(payload) == 0 || len(payload) > 2000 {
			break
		}
		at += 2 + m
		out = append(out, modelRecord{payload, at})
	}
	return out
}

func modelReplay(t impl.Tree, start int64, area []byte) impl.Replayed {
	if !modelValid(t) || start < 0 || start > 2147483647 || len(area) > 8192 {
		return impl.Replayed{}
	}
	out := impl.Replayed{Tree: t, Zxid: start}
	before := int64(0)
	for i, record := range modelScan(area) {
		x := modelDecodeTxn(record.payload)
		if !x.Good || i == 0 && x.Txn.Zxid > start+1 || i > 0 && x.Txn.Zxid != before+1 {
			break
		}
		if x.Txn.Zxid > out.Zxid {
			after := applyModel(out.Tree, x.Txn)
			if len(after.Nodes) > 1000 {
				break
			}
			out.Tree, out.Zxid = after, x.Txn.Zxid
		}
		before = x.Txn.Zxid
		out.Count, out.End = int64(i+1), int64(record.end)
	}
	return out
}

func modelRead(d impl.Disk, block int64) []byte {
	for _, w := range slices.Backward(d.Pending) {
		if w.Block == block {
			return bytes.Clone(w.Data)
		}
	}
	return bytes.Clone(d.Durable[64*block : 64*block+64])
}

func modelFits(d impl.Disk, c impl.Config) bool {
	if c.SnapBlocks < 1 || c.SnapBlocks > 64 || c.LogBlocks < 1 || c.LogBlocks > 64 {
		return false
	}
	return impl.ValidDisk(d) && int64(len(d.Durable)) == 64*(2+2*(c.SnapBlocks+c.LogBlocks))
}

// modelFirst is the first block of an area, modelSize how many it has.
func modelFirst(c impl.Config, bank int64, log bool) int64 {
	first := int64(2)
	if bank == 1 {
		first += c.SnapBlocks + c.LogBlocks
	}
	if log {
		first += c.SnapBlocks
	}
	return first
}

func modelSize(c impl.Config, log bool) int64 {
	if log {
		return c.LogBlocks
	}
	return c.SnapBlocks
}

func modelArea(d impl.Disk, c impl.Config, bank int64, log bool) []byte {
	if !modelFits(d, c) || bank != 0 && bank != 1 {
		return nil
	}
	out := []byte{}
	for i := range modelSize(c, log) {
		out = append(out, modelRead(d, modelFirst(c, bank, log)+i)...)
	}
	return out
}

func modelSound(d impl.Disk, c impl.Config, s impl.Super) impl.TreeResult {
	image := modelArea(d, c, s.Bank, false)[:s.Len]
	if crcByBits(image) != s.Crc {
		return impl.TreeResult{}
	}
	return modelDecodeTree(image)
}

// modelCleaning gives the writes that clean a log; the sync behind them has no block.
func modelCleaning(d impl.Disk, c impl.Config, bank, end int64) []impl.Write {
	var out []impl.Write
	for i := range c.LogBlocks {
		block := modelFirst(c, bank, true) + i
		is := modelRead(d, block)
		must := make([]byte, 64)
		for at := range must {
			if i*64+int64(at) < end {
				must[at] = is[at]
			}
		}
		if !bytes.Equal(is, must) {
			out = append(out, impl.Write{Block: block, Data: must})
		}
	}
	if len(out) > 0 {
		out = append(out, impl.Write{Block: -1})
	}
	return out
}

func modelDo(d impl.Disk, op impl.Write) impl.Disk {
	out := cloneDisk(d)
	if op.Block >= 0 {
		out.Pending = append(out.Pending, op)
		return out
	}
	for _, w := range out.Pending {
		copy(out.Durable[64*w.Block:], w.Data)
	}
	return impl.Disk{Durable: out.Durable}
}

func modelRecover(d impl.Disk, c impl.Config, limit int64) impl.Recovered {
	if !modelFits(d, c) || len(d.Pending) > 1936 {
		return impl.Recovered{Code: 4}
	}
	var good [2]impl.SuperResult
	for slot := range good {
		good[slot] = modelDecodeSuper(modelRead(d, int64(slot)))
		good[slot].Good = good[slot].Good && good[slot].Super.Len <= 64*c.SnapBlocks
	}
	if !good[0].Good && !good[1].Good {
		return impl.Recovered{Code: 3}
	}
	current := 0
	if !good[0].Good || good[1].Good && good[1].Super.Gen > good[0].Super.Gen {
		current = 1
	}
	out := impl.Recovered{Super: good[current].Super}
	log := modelArea(d, c, out.Super.Bank, true)
	var reached impl.Replayed
	if tree := modelSound(d, c, out.Super); tree.Good {
		reached = modelReplay(tree.Tree, out.Super.Start, log)
	} else {
		other := good[1-current]
		if !other.Good || other.Super.Gen+1 != out.Super.Gen || other.Super.Bank != 1-out.Super.Bank || !modelSound(d, c, other.Super).Good {
			return impl.Recovered{Code: 3}
		}
		older := modelReplay(modelSound(d, c, other.Super).Tree, other.Super.Start, modelArea(d, c, other.Super.Bank, true))
		reached = modelReplay(older.Tree, older.Zxid, log)
		out.Code = 1
	}
	out.Zxid, out.Tree, out.LogUsed, out.Disk = reached.Zxid, reached.Tree, reached.End, d
	for _, op := range modelCleaning(d, c, out.Super.Bank, reached.End) {
		if out.Ops == limit {
			return impl.Recovered{Code: 2, Ops: limit, Disk: out.Disk}
		}
		out.Disk = modelDo(out.Disk, op)
		out.Ops++
	}
	return out
}

func sameReplayed(a, b impl.Replayed) bool {
	return sameTree(a.Tree, b.Tree) && a.Zxid == b.Zxid && a.Count == b.Count && a.End == b.End
}

func sameRecovered(a, b impl.Recovered) bool {
	return sameOutcome(a, b) && a.Ops == b.Ops && sameDisk(a.Disk, b.Disk)
}

// sameOutcome asks for what promise 10 names.
func sameOutcome(a, b impl.Recovered) bool {
	return a.Code == b.Code && a.Super == b.Super && a.Zxid == b.Zxid && sameTree(a.Tree, b.Tree) && a.LogUsed == b.LogUsed
}

// tellRecovered is short: a disk has too many bytes to be read.
func tellRecovered(r impl.Recovered) string {
	var blocks []int64
	for _, w := range r.Disk.Pending {
		blocks = append(blocks, w.Block)
	}
	if len(blocks) > 20 {
		blocks = blocks[:20]
	}
	return fmt.Sprintf("{code %d, %+v, zxid %d, %d nodes, used %d, ops %d, disk %d bytes %08x, %d pending %v}",
		r.Code, r.Super, r.Zxid, len(r.Tree.Nodes), r.LogUsed, r.Ops, len(r.Disk.Durable), crcByBits(r.Disk.Durable), len(r.Disk.Pending), blocks)
}
