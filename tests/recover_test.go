package tests

import (
	"bytes"
	"math"
	"slices"
	"strconv"
	"testing"

	"loop.example/s01594/impl"
)

// checkRecover asks for an answer said outright, and that the model says the same.
func checkRecover(t *testing.T, name string, d impl.Disk, c impl.Config, limit int64, want impl.Recovered) {
	t.Helper()
	if got := impl.Recover(d, c, limit); !sameRecovered(got, want) {
		t.Errorf("%s: %s, not %s", name, tellRecovered(got), tellRecovered(want))
	}
	if model := modelRecover(d, c, limit); !sameRecovered(model, want) {
		t.Errorf("%s: the model has %s, not %s", name, tellRecovered(model), tellRecovered(want))
	}
}

// upAt is the answer of a recovery of a store made of setTxns.
func upAt(code int64, s impl.Super, zxid, used, ops int64, d impl.Disk) impl.Recovered {
	return impl.Recovered{Code: code, Super: s, Zxid: zxid, Tree: setTree(zxid), LogUsed: used, Ops: ops, Disk: d}
}

func superOf(s store, slot int) impl.Super {
	return modelDecodeSuper(s.slots[slot]).Super
}

// lost asks that nothing comes back.
func lost(t *testing.T, name string, s store) {
	t.Helper()
	for _, limit := range []int64{-1, 0, 5} {
		checkRecover(t, name, s.disk(), s.config, limit, impl.Recovered{Code: impl.RecoverLost})
	}
}

// recovers asks for a clean recovery that needs no disk operation.
func recovers(t *testing.T, name string, s store, code int64, slot int, zxid, used int64) {
	t.Helper()
	for _, limit := range []int64{-1, 0, 5} {
		checkRecover(t, name, s.disk(), s.config, limit, upAt(code, superOf(s, slot), zxid, used, 0, s.disk()))
	}
}

func TestRecoverFresh(t *testing.T) {
	for _, c := range []impl.Config{{SnapBlocks: 1, LogBlocks: 1}, {SnapBlocks: 3, LogBlocks: 2}, {SnapBlocks: impl.MaxArea, LogBlocks: impl.MaxArea}} {
		d := impl.FormatDisk(c)
		s := impl.DecodeSuper(d.Durable[64:128]).Super
		for _, limit := range []int64{math.MinInt64, -1, 0, 1, math.MaxInt64} {
			checkRecover(t, "fresh", d, c, limit, impl.Recovered{Super: s, Tree: impl.NewTree(), Disk: d})
		}
	}
}

func TestRecoverRefusesArguments(t *testing.T) {
	bad := impl.Recovered{Code: impl.RecoverBad}
	s := sealed()
	for _, limit := range []int64{math.MinInt64, -1, 0, 1, 100} {
		for _, c := range badConfigs() {
			checkRecover(t, "a configuration", s.disk(), c, limit, bad)
			if blocks := 2 + 2*(c.SnapBlocks+c.LogBlocks); blocks >= 1 && blocks <= impl.MaxBlocks {
				checkRecover(t, "a configuration, and a disk of its size", impl.NewDisk(blocks), c, limit, bad)
			}
		}
		for _, d := range notValid() {
			checkRecover(t, "a disk", d, s.config, limit, bad)
		}
		for _, blocks := range []int64{1, 13, 15, impl.MaxBlocks} {
			d := impl.NewDisk(blocks)
			copy(d.Durable, s.disk().Durable)
			checkRecover(t, "another number of blocks", d, s.config, limit, bad)
		}
		d := s.disk()
		d.Pending = []impl.Write{{Block: 14, Data: ramp(1)}}
		checkRecover(t, "a write behind the disk", d, s.config, limit, bad)
	}
}

func TestRecoverPendingLimit(t *testing.T) {
	s := sealed()
	d := s.disk()
	for i := range impl.MaxPending - impl.MaxArea {
		block := int64(i % 14)
		d.Pending = append(d.Pending, impl.Write{Block: block, Data: modelRead(d, block)})
	}
	checkRecover(t, "MaxPending-MaxArea", d, s.config, -1, upAt(0, superOf(s, 0), 16, 4*setFrame, 0, d))
	more := cloneDisk(d)
	more.Pending = append(more.Pending, d.Pending[0])
	checkRecover(t, "one more", more, s.config, -1, impl.Recovered{Code: impl.RecoverBad})
	more.Pending = diskWithPending(14, impl.MaxPending).Pending
	checkRecover(t, "MaxPending", more, s.config, -1, impl.Recovered{Code: impl.RecoverBad})
}

// TestRecoverFillsThePendingWrites has the most pending writes and the most blocks to clean at once.
func TestRecoverFillsThePendingWrites(t *testing.T) {
	c := impl.Config{SnapBlocks: 1, LogBlocks: impl.MaxArea}
	d := impl.FormatDisk(c)
	fresh := cloneDisk(d)
	for i := range impl.MaxArea {
		copy(d.Durable[64*(3+i):], ramp(1))
	}
	for range impl.MaxPending - impl.MaxArea {
		d.Pending = append(d.Pending, impl.Write{Block: 2, Data: fresh.Durable[128:192]})
	}
	s := impl.DecodeSuper(d.Durable[64:128]).Super
	checkRecover(t, "all blocks", d, c, impl.MaxArea+1, impl.Recovered{Super: s, Tree: impl.NewTree(), Ops: impl.MaxArea + 1, Disk: fresh})
	got := impl.Recover(d, c, impl.MaxArea)
	if got.Code != impl.RecoverStopped || got.Ops != impl.MaxArea || len(got.Disk.Pending) != impl.MaxPending {
		t.Errorf("ahead of the sync: %s", tellRecovered(got))
	}
	checkRecover(t, "ahead of the sync", d, c, impl.MaxArea, modelRecover(d, c, impl.MaxArea))
}

func TestRecoverCurrent(t *testing.T) {
	s := sealed()
	recovers(t, "the larger Gen in slot 0", s, 0, 0, 16, 4*setFrame)
	s.slots[0], s.slots[1] = s.slots[1], s.slots[0]
	recovers(t, "the larger Gen in slot 1", s, 0, 1, 16, 4*setFrame)
	s = sealed()
	s.snaps[0], s.logs[0], s.slots[1] = ramp(1), ramp(2), ramp(3)
	recovers(t, "nothing of the older one", s, 0, 0, 16, 4*setFrame)
	s = sealed()
	s.logs[1] = nil
	recovers(t, "no record", s, 0, 0, 12, 0)
	s.logs[1] = logOf(setTxns(11, 4)...)
	recovers(t, "two records passed over", s, 0, 0, 14, 4*setFrame)
	for slot := range 2 {
		same := sealed()
		super := superOf(same, slot)
		super.Gen = superOf(same, 1-slot).Gen
		same.slots[slot] = modelSuperImage(super)
		recovers(t, "the same Gen", same, 0, 0, 16, 4*setFrame)
	}
	far := sealed()
	super := superOf(far, 0)
	super.Gen = math.MaxInt64
	far.slots[0] = modelSuperImage(super)
	recovers(t, "the largest Gen", far, 0, 0, 16, 4*setFrame)
}

func TestRecoverSlotsThatAreNotGood(t *testing.T) {
	for slot, zxid := range []int64{14, 16} {
		// The other slot is then the only one: slot 1 has the bank that reaches 14, slot 0 the one that reaches 16.
		for name, block := range badSlots(superOf(sealed(), slot)) {
			s := sealed()
			s.slots[slot] = block
			recovers(t, name, s, 0, 1-slot, zxid, 4*setFrame)
			s.snaps[superOf(s, 1-slot).Bank][5] ^= 1
			lost(t, name+", and the other snapshot damaged", s)
			s.slots[1-slot] = block
			lost(t, name+", twice", s)
		}
	}
	lost(t, "zeros", store{config: impl.Config{SnapBlocks: 1, LogBlocks: 1}})
}

// badSlots are blocks that are no superblock for 2 blocks of snapshot.
func badSlots(s impl.Super) map[string][]byte {
	block := modelSuperImage(s)
	long, far := s, s
	long.Len = 129
	far.Len = 4096
	out := map[string][]byte{"zeros": make([]byte, 64), "other bytes": ramp(5), "Len passed by one": modelSuperImage(long), "the largest Len": modelSuperImage(far)}
	newer := s
	newer.Gen += 2
	for _, cut := range []int{8, 9, 20, 40, 57, 63} {
		out["torn at "+strconv.Itoa(cut)] = append(bytes.Clone(modelSuperImage(newer)[:cut]), block[cut:]...)
	}
	return out
}

// TestRecoverSnapshotOfAllBlocks has a snapshot that fills its area to the last byte.
func TestRecoverSnapshotOfAllBlocks(t *testing.T) {
	for _, blocks := range []int64{2, impl.MaxArea} {
		tree := setTree(12)
		for i := 0; int64(len(modelTreeImage(tree))) != 64*blocks; i++ {
			left := int(64*blocks) - len(modelTreeImage(tree))
			path := "/b" + string(rune('a'+i/26)) + string(rune('a'+i%26))
			node := impl.Node{Path: path, Data: string(make([]byte, min(impl.MaxData, max(0, left-26))))}
			if left > 90 && left < 130 {
				node.Data = string(make([]byte, 10))
			}
			tree.Nodes = append(tree.Nodes, node)
		}
		s := store{config: impl.Config{SnapBlocks: blocks, LogBlocks: 1}}
		super := s.hold(0, 8, 1, 12, modelTreeImage(tree))
		checkRecover(t, "a full snapshot area", s.disk(), s.config, -1, impl.Recovered{Super: super, Zxid: 12, Tree: tree, Disk: s.disk()})
		s.snaps[1][len(s.snaps[1])-1] ^= 1
		lost(t, "its last byte", s)
	}
}

// unsound are the ways in which the current snapshot of sealed can be damaged.
func unsound() map[string]store {
	out := map[string]store{}
	length := len(sealed().snaps[1])
	for at := range length {
		s := sealed()
		s.snaps[1][at] ^= byte(1 + at)
		out["byte "+strconv.Itoa(at)] = s
	}
	wrong := sealed()
	super := superOf(wrong, 0)
	super.Crc ^= 1
	wrong.slots[0] = modelSuperImage(super)
	out["the checksum"] = wrong
	for name, image := range map[string][]byte{"no tree": {1, 2, 3}, "a byte more": append(modelTreeImage(setTree(12)), 0),
		"not ascending": modelTreeImage(impl.Tree{Nodes: []impl.Node{{Path: "/b"}, {Path: "/a"}}})} {
		s := sealed()
		s.hold(0, 8, 1, 12, image)
		out[name] = s
	}
	return out
}

func TestRecoverDegraded(t *testing.T) {
	for name, s := range unsound() {
		recovers(t, name, s, impl.RecoverDegraded, 0, 16, 4*setFrame)
	}
	behind := sealed()
	behind.snaps[1] = append(behind.snaps[1], 1, 2, 3)
	recovers(t, "behind the snapshot", behind, impl.RecoverGood, 0, 16, 4*setFrame)
}

func damagedCurrent() store {
	s := sealed()
	s.snaps[1][9] ^= 4
	return s
}

func TestRecoverDegradedLogs(t *testing.T) {
	s := damagedCurrent()
	s.logs[1] = nil
	recovers(t, "nothing in the current log", s, impl.RecoverDegraded, 0, 14, 0)
	s = damagedCurrent()
	s.logs[0] = logOf(setTxns(11, 2)...)
	recovers(t, "the older log up to Start", s, impl.RecoverDegraded, 0, 16, 4*setFrame)
	s.logs[1] = logOf(setTxns(11, 2)...)
	recovers(t, "all of the current log passed over", s, impl.RecoverDegraded, 0, 12, 2*setFrame)
	s.logs[1] = logOf(setTxns(9, 2)...)
	recovers(t, "older than what was reached", s, impl.RecoverDegraded, 0, 12, 2*setFrame)
	s = damagedCurrent()
	s.snaps[0], s.logs[0] = nil, nil
	s.hold(1, 7, 0, 12, modelTreeImage(setTree(12)))
	recovers(t, "an empty older log", s, impl.RecoverDegraded, 0, 16, 4*setFrame)
}

// TestRecoverDegradedTooLate: the older log ends ahead of the current one, whose records are then not taken
// and cleaned away.
func TestRecoverDegradedTooLate(t *testing.T) {
	s := damagedCurrent()
	s.logs[0] = logOf(setTxns(11, 1)...)
	clean := s
	clean.logs[1] = nil
	checkRecover(t, "a gap", s.disk(), s.config, 4, upAt(1, superOf(s, 0), 11, 0, 4, clean.disk()))
	checkRecover(t, "a gap, limit 3", s.disk(), s.config, 3, modelRecover(s.disk(), s.config, 3))
	if got := impl.Recover(s.disk(), s.config, 3); got.Code != impl.RecoverStopped || len(got.Disk.Pending) != 3 {
		t.Errorf("a gap, limit 3: %s", tellRecovered(got))
	}
}

func TestRecoverOlderMustFit(t *testing.T) {
	change := func(name string, f func(*impl.Super)) {
		s := damagedCurrent()
		super := superOf(s, 1)
		f(&super)
		s.slots[1] = modelSuperImage(super)
		if superOf(s, 1) != super {
			t.Fatalf("%s: no superblock", name)
		}
		lost(t, name, s)
	}
	change("Gen 2 less", func(s *impl.Super) { s.Gen = 6 })
	change("Gen the same", func(s *impl.Super) { s.Gen = 8 })
	change("Gen 1", func(s *impl.Super) { s.Gen = 1 })
	change("checksum", func(s *impl.Super) { s.Crc ^= 1 })
	change("Len one less", func(s *impl.Super) { s.Len-- })
	change("Len one more", func(s *impl.Super) { s.Len++ })
	change("Len too large", func(s *impl.Super) { s.Len = 129 })
	same := damagedCurrent()
	// The older superblock tells of a sound snapshot, but in the current bank.
	same.snaps[1] = bytes.Clone(same.snaps[0])
	super := superOf(same, 1)
	super.Bank = 1
	same.slots[1] = modelSuperImage(super)
	lost(t, "the same bank", same)
	no := damagedCurrent()
	no.hold(1, 7, 0, 10, []byte{1, 2, 3})
	lost(t, "no tree", no)
	first := store{config: impl.Config{SnapBlocks: 1, LogBlocks: 1}}
	first.hold(1, 1, 0, 0, modelTreeImage(impl.NewTree()))
	first.snaps[0][0] ^= 1
	lost(t, "the first Gen, and the other slot of zeros", first)
	first.hold(1, 1, 1, 0, modelTreeImage(impl.NewTree()))
	first.snaps[1][0] ^= 1
	lost(t, "the first Gen in bank 1, and the other slot of zeros", first)
}

func TestRecoverNoNodes(t *testing.T) {
	s := sealed()
	super := s.hold(0, 8, 1, 12, nil)
	want := impl.Recovered{Super: super, Zxid: 16, Tree: impl.Tree{Nodes: setTree(16).Nodes[1:]}, LogUsed: 4 * setFrame, Disk: s.disk()}
	checkRecover(t, "Len 0", s.disk(), s.config, -1, want)
}

// TestRecoverReadsThePendingWrites: what was written and not synced is what recovery sees.
func TestRecoverReadsThePendingWrites(t *testing.T) {
	n := &numbers{state: 93}
	for range 200 {
		s := pick(n, sealed(), damagedCurrent())
		d := n.pending(s.disk())
		got := impl.Recover(d, s.config, -1)
		if got.Zxid != 16 || got.LogUsed != 4*setFrame || got.Ops != 0 || !sameDisk(got.Disk, d) {
			t.Fatalf("%s", tellRecovered(got))
		}
	}
}

func TestRecoverCleans(t *testing.T) {
	s := sealed()
	for at := 4 * setFrame; at < 256; at++ {
		// One byte that is not 0, in the block of the end or behind it.
		dirty := s
		dirty.logs[1] = append(bytes.Clone(s.logs[1]), make([]byte, 256-4*setFrame)...)
		dirty.logs[1][at] = byte(1 + at%127)
		up := upAt(0, superOf(s, 0), 16, 4*setFrame, 2, s.disk())
		checkRecover(t, "one byte", dirty.disk(), s.config, -1, up)
		checkRecover(t, "one byte, limit 2", dirty.disk(), s.config, 2, up)
		for limit := range int64(2) {
			stopped := dirty.disk()
			if limit == 1 {
				block := int64(10 + at/64)
				stopped.Pending = []impl.Write{{Block: block, Data: modelRead(s.disk(), block)}}
			}
			checkRecover(t, "one byte, stopped", dirty.disk(), s.config, limit, impl.Recovered{Code: impl.RecoverStopped, Ops: limit, Disk: stopped})
		}
	}
}

// TestRecoverCleansInOrder has dirt in some of the blocks: each set of them, with the end in each block.
func TestRecoverCleansInOrder(t *testing.T) {
	for records := range 5 {
		for dirty := range 16 {
			s := sealed()
			s.logs[1] = append(logOf(setTxns(13, records)...), make([]byte, 256)...)[:256]
			clean := s.disk()
			var blocks []int64
			for i := range 4 {
				if dirty>>i&1 == 1 && 64*i+63 >= records*setFrame {
					s.logs[1][64*i+63] = 9
					blocks = append(blocks, int64(10+i))
				}
			}
			checkCleaning(t, s, clean, blocks, int64(records))
		}
	}
}

func checkCleaning(t *testing.T, s store, clean impl.Disk, blocks []int64, records int64) {
	t.Helper()
	ops := int64(len(blocks))
	if ops > 0 {
		ops++
	}
	up := upAt(0, superOf(s, 0), 12+records, setFrame*records, ops, clean)
	for _, limit := range []int64{-1, ops, ops + 1} {
		checkRecover(t, "in order", s.disk(), s.config, limit, up)
	}
	for limit := range ops {
		want := s.disk()
		for _, block := range blocks[:min(limit, int64(len(blocks)))] {
			want.Pending = append(want.Pending, impl.Write{Block: block, Data: modelRead(clean, block)})
		}
		checkRecover(t, "stopped in order", s.disk(), s.config, limit, impl.Recovered{Code: impl.RecoverStopped, Ops: limit, Disk: want})
	}
}

// TestRecoverCleansOneLogOnly: what lies behind the older log and in the snapshot areas stays.
func TestRecoverCleansOneLogOnly(t *testing.T) {
	for _, s := range []store{sealed(), damagedCurrent()} {
		s.logs[0] = append(s.logs[0], ramp(7)...)
		s.snaps[0] = append(s.snaps[0], ramp(8)...)
		s.snaps[1] = append(s.snaps[1], ramp(9)...)
		got := impl.Recover(s.disk(), s.config, 0)
		if got.Code > impl.RecoverDegraded || got.Zxid != 16 || !sameDisk(got.Disk, s.disk()) {
			t.Errorf("%s", tellRecovered(got))
		}
		dirty := s
		dirty.logs[1] = append(bytes.Clone(s.logs[1]), 1)
		after := impl.Recover(dirty.disk(), s.config, -1)
		if after.Zxid != 16 || after.Ops != 2 || !sameDisk(after.Disk, s.disk()) {
			t.Errorf("%s", tellRecovered(after))
		}
	}
}

// TestRecoverCleansRecordsNotTaken: records that do not follow are taken away too.
func TestRecoverCleansRecordsNotTaken(t *testing.T) {
	whole := sealed()
	whole.logs[1] = logOf(setTxns(13, 2)...)
	for name, behind := range map[string][]byte{"a gap": logOf(setTxns(16, 2)...), "once more": logOf(setTxns(14, 2)...), "no transaction": modelFrame(ramp(3)[:20])} {
		s := sealed()
		s.logs[1] = append(logOf(setTxns(13, 2)...), behind...)
		got := impl.Recover(s.disk(), s.config, -1)
		if got.Code != 0 || got.Zxid != 14 || got.LogUsed != 2*setFrame || !sameDisk(got.Disk, whole.disk()) {
			t.Errorf("%s: %s", name, tellRecovered(got))
		}
	}
}

// TestRecoverSyncsWhatWasPending: the sync of the cleaning makes older writes durable; without it they wait.
func TestRecoverSyncsWhatWasPending(t *testing.T) {
	s := sealed()
	d := s.disk()
	d.Pending = []impl.Write{{Block: 3, Data: ramp(1)}, {Block: 10, Data: modelRead(d, 10)}}
	checkRecover(t, "nothing to clean", d, s.config, -1, upAt(0, superOf(s, 0), 16, 4*setFrame, 0, d))
	dirty := cloneDisk(d)
	dirty.Pending = append(dirty.Pending, impl.Write{Block: 13, Data: ramp(1)})
	clean := s.disk()
	copy(clean.Durable[192:], ramp(1))
	checkRecover(t, "a pending block to clean", dirty, s.config, -1, upAt(0, superOf(s, 0), 16, 4*setFrame, 2, clean))
	stopped := cloneDisk(dirty)
	stopped.Pending = append(stopped.Pending, impl.Write{Block: 13, Data: make([]byte, 64)})
	checkRecover(t, "stopped ahead of the sync", dirty, s.config, 1, impl.Recovered{Code: impl.RecoverStopped, Ops: 1, Disk: stopped})
}

// TestRecoverLikeModel is promise 9 for Recover, over disks of all sorts and all limits that matter.
func TestRecoverLikeModel(t *testing.T) {
	n := &numbers{state: 94}
	var codes [5]int
	for range 4000 {
		s := n.anyStore()
		d := s.disk()
		if n.below(3) == 0 {
			d = n.pending(d)
		}
		if n.below(10) == 0 {
			d.Pending = append(d.Pending, impl.Write{Block: int64(n.below(len(d.Durable) / 64)), Data: n.bytes(64)})
		}
		for _, limit := range []int64{-1, 0, 1, int64(n.below(9)), math.MinInt64} {
			got, want := impl.Recover(d, s.config, limit), modelRecover(d, s.config, limit)
			if !sameRecovered(got, want) {
				t.Fatalf("%+v, limit %d: %s, not %s", s, limit, tellRecovered(got), tellRecovered(want))
			}
			if limit >= 0 && got.Ops > limit {
				t.Fatalf("limit %d: %d operations", limit, got.Ops)
			}
			codes[got.Code]++
		}
	}
	if slices.Min(codes[:4]) < 1500 {
		t.Errorf("too few of a code: %v", codes)
	}
}

// TestRecoverEveryByte changes every byte of a disk.
func TestRecoverEveryByte(t *testing.T) {
	for _, s := range []store{sealed(), damagedCurrent()} {
		d := s.disk()
		for at, was := range d.Durable {
			for _, b := range []byte{0, was + 1, was ^ 128, 255} {
				d.Durable[at] = b
				if got, want := impl.Recover(d, s.config, 1), modelRecover(d, s.config, 1); !sameRecovered(got, want) {
					t.Fatalf("byte %d as %d: %s, not %s", at, b, tellRecovered(got), tellRecovered(want))
				}
			}
			d.Durable[at] = was
		}
	}
}
