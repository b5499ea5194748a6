package tests

import (
	"bytes"
	"slices"

	"loop.example/s01594/impl"
)

// store is what a disk is laid out from: the two slots, and the snapshot and log areas of the two banks.
type store struct {
	config impl.Config
	slots  [2][]byte
	snaps  [2][]byte
	logs   [2][]byte
}

func (s store) disk() impl.Disk {
	d := impl.NewDisk(2 + 2*(s.config.SnapBlocks+s.config.LogBlocks))
	for i := range 2 {
		copy(d.Durable[64*i:64*i+64], s.slots[i])
		snap, log := 64*modelFirst(s.config, int64(i), false), 64*modelFirst(s.config, int64(i), true)
		copy(d.Durable[snap:snap+64*s.config.SnapBlocks], s.snaps[i])
		copy(d.Durable[log:log+64*s.config.LogBlocks], s.logs[i])
	}
	return d
}

// hold puts a snapshot into a bank and the superblock that tells of it into a slot.
func (s *store) hold(slot int, gen, bank, start int64, image []byte) impl.Super {
	super := impl.Super{Gen: gen, Bank: bank, Start: start, Len: int64(len(image)), Crc: crcByBits(image)}
	s.snaps[bank] = bytes.Clone(image)
	s.slots[slot] = modelSuperImage(super)
	return super
}

func logOf(txns ...impl.Txn) []byte {
	out := []byte{}
	for _, x := range txns {
		out = append(out, modelFrame(modelTxnImage(x))...)
	}
	return out
}

// setTxns are count transactions, each of which sets /a once more; the first has the zxid first.
func setTxns(first int64, count int) []impl.Txn {
	var out []impl.Txn
	for i := range int64(count) {
		z := first + i
		out = append(out, impl.Txn{Zxid: z, Effects: []impl.Effect{{Node: setNode(z)}}})
	}
	return out
}

func setNode(zxid int64) impl.Node {
	return impl.Node{Path: "/a", Data: "d", Version: zxid, Mzxid: zxid}
}

// setTree is the tree after the transaction with this zxid.
func setTree(zxid int64) impl.Tree {
	return impl.Tree{Nodes: []impl.Node{{Path: "/"}, setNode(zxid)}}
}

// setFrame is how long the frame of each of these transactions is.
const setFrame = 39

// sealed is a store after a seal: the older bank has the snapshot of 10 and the records 11 to 14, the
// current one the snapshot of 12 and the records 13 to 16.
func sealed() store {
	s := store{config: impl.Config{SnapBlocks: 2, LogBlocks: 4}}
	s.hold(1, 7, 0, 10, modelTreeImage(setTree(10)))
	s.hold(0, 8, 1, 12, modelTreeImage(setTree(12)))
	s.logs[0] = logOf(setTxns(11, 4)...)
	s.logs[1] = logOf(setTxns(13, 4)...)
	return s
}

// bendRecords takes away, doubles or changes a record.
func (n *numbers) bendRecords(records [][]byte) [][]byte {
	out := slices.Clone(records)
	if len(out) == 0 {
		return out
	}
	at := n.below(len(out))
	switch n.below(5) {
	case 0:
		return slices.Delete(out, at, at+1)
	case 1:
		return slices.Insert(out, at, out[at])
	case 2:
		return slices.Insert(out, at, modelFrame(n.bytes(1+n.below(20))))
	case 3:
		out[at] = modelFrame(n.damaged(unpackModel(out[at][2:])))
	case 4:
		out[at] = n.damaged(out[at])
	}
	return out
}

// anyLog has the records of the transactions from one on, mostly as they should be, and perhaps something
// behind them.
func (n *numbers) anyLog(txns []impl.Txn, from int64) []byte {
	var records [][]byte
	for _, x := range txns[max(0, min(int(from), len(txns))):] {
		records = append(records, modelFrame(modelTxnImage(x)))
	}
	records = records[:n.below(len(records)+1)]
	for range pick(n, 0, 0, 0, 0, 0, 1, 1, 2) {
		records = n.bendRecords(records)
	}
	out := slices.Concat(records...)
	switch n.below(4) {
	case 0:
		out = append(out, n.bytes(n.below(200))...)
	case 1:
		out = append(append(out, make([]byte, n.below(150))...), n.bytes(n.below(100))...)
	}
	return out
}

// anyImage is a snapshot of the trees from one zxid on, mostly a sound one.
func (n *numbers) anyImage(trees []impl.Tree, from int64) []byte {
	later := trees[min(int(from), len(trees)-1):]
	image := modelTreeImage(mixed(n, later[:1+n.below(len(later))]))
	if n.below(12) == 0 {
		return n.damaged(image)
	}
	return image
}

// anyStore is mostly a store as a server leaves it, with some things wrong.
func (n *numbers) anyStore() store {
	s := store{config: impl.Config{SnapBlocks: int64(1 + n.below(8)), LogBlocks: int64(1 + n.below(8))}}
	trees, txns := history(n, impl.NewTree(), 1+n.below(14))
	start := int64(n.below(len(trees)))
	older := max(0, start-int64(n.below(4)))
	bank := int64(n.below(2))
	gen := pick[int64](n, 2, 2, 3, 9, 256, 1<<40, 1<<63-1)
	s.hold(int(gen%2), gen, bank, start, n.anyImage(trees, start))
	s.hold(int((gen-1)%2), gen-1, 1-bank, older, n.anyImage(trees, older))
	s.logs[bank] = n.anyLog(txns, start+pick[int64](n, 0, 0, 0, 0, -1, -2, 1))
	s.logs[1-bank] = n.anyLog(txns, older+pick[int64](n, 0, 0, 0, 0, -1, -2, 1))
	if n.below(3) == 0 {
		n.bendSlots(&s)
	}
	if n.below(2) == 0 {
		hurt := s.snaps[pick(n, bank, bank, bank, 1-bank)]
		if len(hurt) > 0 {
			hurt[n.below(len(hurt))] ^= byte(1 + n.below(255))
		}
	}
	return s
}

func (n *numbers) bendSlots(s *store) {
	slot := n.below(2)
	super := modelDecodeSuper(s.slots[slot]).Super
	switch n.below(8) {
	case 0:
		s.slots[slot] = make([]byte, 64)
	case 1:
		s.slots[slot] = n.bytes(64)
	case 2:
		s.slots[0], s.slots[1] = s.slots[1], s.slots[0]
	case 3:
		s.slots[slot][n.below(64)] ^= byte(1 + n.below(255))
	case 4:
		super.Gen = max(1, super.Gen+pick[int64](n, -2, -1, 1, 2))
		s.slots[slot] = modelSuperImage(super)
	case 5:
		super.Bank = 1 - super.Bank
		s.slots[slot] = modelSuperImage(super)
	case 6:
		super.Len = pick(n, 0, super.Len+1, 64*s.config.SnapBlocks, 64*s.config.SnapBlocks+1, 4096)
		s.slots[slot] = modelSuperImage(super)
	case 7:
		super.Start = pick(n, 0, super.Start+1, impl.MaxStat)
		s.slots[slot] = modelSuperImage(super)
	}
}

// pending hides some blocks of the disk behind writes that are not yet synced: what is read stays the same.
func (n *numbers) pending(d impl.Disk) impl.Disk {
	out := cloneDisk(d)
	blocks := len(d.Durable) / 64
	var last []impl.Write
	for range n.below(12) {
		block := int64(n.below(blocks))
		last = append(last, impl.Write{Block: block, Data: modelRead(d, block)})
		out.Pending = append(out.Pending, impl.Write{Block: block, Data: n.bytes(64)})
		copy(out.Durable[64*block:64*block+64], n.bytes(64))
	}
	out.Pending = append(out.Pending, last...)
	return out
}
