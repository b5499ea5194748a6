package tests

import (
	"bytes"
	"math"
	"slices"
	"strings"
	"testing"

	"loop.example/s01594/impl"
)

func TestLayoutMemory(t *testing.T) {
	c := impl.Config{SnapBlocks: 2, LogBlocks: 3}
	checkApart(t, "FormatDisk", nil, func() [][]byte {
		return append(diskLists(impl.FormatDisk(c)), diskLists(impl.FormatDisk(c))...)
	})
	n := &numbers{state: 95}
	for range 100 {
		s := n.anyStore()
		for _, start := range []impl.Disk{s.disk(), n.pending(s.disk()), n.pending(impl.FormatDisk(s.config))} {
			d := spareDisk(start)
			checkApart(t, "AreaBytes", diskLists(d), func() [][]byte {
				return [][]byte{impl.AreaBytes(d, s.config, 0, true), impl.AreaBytes(d, s.config, 1, false), impl.AreaBytes(d, s.config, 0, true)}
			})
		}
	}
}

// checkReplayMemory asks that Replay keeps its two lists, and that its tree is memory of its own.
func checkReplayMemory(t *testing.T, tree impl.Tree, start int64, log []byte) {
	t.Helper()
	nodes := guard(tree.Nodes, impl.Node{Path: "/spare"})
	area := guard(log, 0xA5)
	again := func() impl.Replayed { return impl.Replay(impl.Tree{Nodes: nodes.list}, start, area.list) }
	first, second := again(), again()
	told := slices.Clone(second.Tree.Nodes)
	spoil(first.Tree.Nodes, impl.Node{Path: "spoiled"})
	if !nodes.kept() || !area.kept() {
		t.Error("Replay: an argument was written into, or is the answer's memory")
	}
	spoil(nodes.list, impl.Node{})
	spoil(area.list, 0xFF)
	if !slices.Equal(second.Tree.Nodes, told) {
		t.Error("Replay: the answer is memory of an argument or of another answer")
	}
}

func TestReplayMemory(t *testing.T) {
	n := &numbers{state: 96}
	for range 300 {
		trees, txns := history(n, impl.NewTree(), 1+n.below(12))
		from := n.below(len(trees))
		checkReplayMemory(t, trees[from], int64(from), n.anyLog(txns, int64(from)))
		checkReplayMemory(t, trees[from], int64(from), nil)
		checkReplayMemory(t, trees[from], int64(len(trees)), n.anyLog(txns, int64(from)))
	}
}

// checkRecoverMemory asks that Recover keeps the lists of its disk, and that no list of its answer shares
// memory with them or with another.
func checkRecoverMemory(t *testing.T, start impl.Disk, c impl.Config, limit int64) {
	t.Helper()
	d := spareDisk(start)
	checkApart(t, "Recover", diskLists(d), func() [][]byte {
		return append(diskLists(impl.Recover(d, c, limit).Disk), diskLists(impl.Recover(d, c, limit).Disk)...)
	})
	first, second := impl.Recover(d, c, limit), impl.Recover(d, c, limit)
	told := slices.Clone(second.Tree.Nodes)
	spoil(first.Tree.Nodes, impl.Node{Path: "spoiled"})
	spoil(first.Disk.Pending, impl.Write{Block: -1})
	spoil(first.Disk.Durable, 0xFF)
	if !sameDisk(d, start) {
		t.Error("Recover: the answer's pending writes are those of the argument")
	}
	for _, w := range d.Pending[len(start.Pending):cap(d.Pending)] {
		if len(w.Data) != 0 || w.Block != 0 {
			t.Error("Recover: a write was put behind those of the argument")
		}
	}
	kept := cloneDisk(second.Disk)
	spoil(d.Pending, impl.Write{Block: -1})
	spoil(d.Durable, 0xFF)
	if !slices.Equal(second.Tree.Nodes, told) || !sameDisk(second.Disk, kept) {
		t.Error("Recover: the answer is memory of the argument or of another answer")
	}
}

func TestRecoverMemory(t *testing.T) {
	n := &numbers{state: 97}
	for range 120 {
		s := n.anyStore()
		for _, start := range []impl.Disk{s.disk(), n.pending(s.disk())} {
			for _, limit := range []int64{-1, 0, 1, 2} {
				checkRecoverMemory(t, start, s.config, limit)
			}
		}
	}
	for _, s := range []store{sealed(), damagedCurrent(), tornLog(sealed()), tornLog(damagedCurrent())} {
		for limit := int64(-1); limit < 6; limit++ {
			checkRecoverMemory(t, s.disk(), s.config, limit)
			checkRecoverMemory(t, n.pending(s.disk()), s.config, limit)
		}
	}
}

// TestRecoverPanics hands bad forms to every function of the chapter: a panic fails the test.
func TestRecoverPanics(t *testing.T) {
	odd := []int64{math.MinInt64, -65, -1, 0, 1, 2, 63, 64, 65, 4096, impl.MaxStat, impl.MaxStat + 1, math.MaxInt64}
	disks := append(notValid(), impl.NewDisk(1), impl.NewDisk(2), impl.NewDisk(6), impl.NewDisk(14), impl.NewDisk(300), sealed().disk(), tornLog(damagedCurrent()).disk(), diskWithPending(6, impl.MaxPending))
	configs := append(badConfigs(), impl.Config{SnapBlocks: 1, LogBlocks: 1}, impl.Config{SnapBlocks: 2, LogBlocks: 4}, impl.Config{SnapBlocks: 64, LogBlocks: 64})
	for _, x := range odd {
		for _, y := range odd {
			configs = append(configs, impl.Config{SnapBlocks: x, LogBlocks: y})
		}
	}
	for _, c := range configs {
		impl.FormatDisk(c)
		for _, d := range disks {
			for _, x := range []int64{math.MinInt64, -1, 0, 1, 2, math.MaxInt64} {
				impl.AreaBytes(d, c, x, true)
				impl.AreaBytes(d, c, x, false)
				impl.Recover(d, c, x)
			}
		}
	}
	n := &numbers{state: 98}
	trees := []impl.Tree{{}, impl.NewTree(), wideTree(impl.MaxNodes), wideTree(impl.MaxNodes + 1), pathTree("//", "a"), {Nodes: []impl.Node{{}}}, {Nodes: []impl.Node{{Data: strings.Repeat("x", 100)}}}}
	areas := [][]byte{nil, {}, {128}, {255, 255}, make([]byte, impl.MaxScan+1), bytes.Repeat([]byte{255}, impl.MaxScan), bytes.Repeat([]byte{129}, impl.MaxScan), logOf(setTxns(1, 9)...)}
	for range 200 {
		areas = append(areas, n.bytes(n.below(300)), modelFrame(n.bytes(1+n.below(60))))
	}
	for _, area := range areas {
		for _, tree := range trees {
			for _, start := range odd {
				impl.Replay(tree, start, area)
			}
		}
	}
	noisyDisks(n)
}

// noisyDisks recovers disks of any bytes, with slots that are good so that the rest is looked at.
func noisyDisks(n *numbers) {
	for range 3000 {
		c := impl.Config{SnapBlocks: int64(1 + n.below(3)), LogBlocks: int64(1 + n.below(3))}
		d := impl.NewDisk(2 + 2*(c.SnapBlocks+c.LogBlocks))
		copy(d.Durable, n.bytes(len(d.Durable)))
		for slot := range 2 {
			s := n.super()
			s.Len = min(s.Len, 64*c.SnapBlocks)
			if n.below(2) == 0 {
				s.Crc = crcByBits(modelArea(d, c, s.Bank, false)[:s.Len])
			}
			copy(d.Durable[64*slot:], modelSuperImage(s))
		}
		impl.Recover(d, c, int64(n.below(6))-1)
	}
}
