package tests

import (
	"bytes"
	"math"
	"slices"
	"strings"
	"testing"

	"loop.example/s01594/impl"
)

// spare gives the bytes with room behind them, so that a write behind the end of an argument shows.
func spare(data []byte) []byte {
	room := bytes.Repeat([]byte{0xA5}, len(data)+40)
	copy(room, data)
	return room[:len(data)]
}

func whole(list []byte) []byte {
	return list[:cap(list)]
}

func turn(list []byte) {
	for i := range whole(list) {
		whole(list)[i] ^= 0xFF
	}
}

func remember(lists [][]byte) [][]byte {
	out := make([][]byte, len(lists))
	for i, l := range lists {
		out[i] = bytes.Clone(whole(l))
	}
	return out
}

func unchanged(lists, before [][]byte) bool {
	for i, l := range lists {
		if !bytes.Equal(whole(l), before[i]) {
			return false
		}
	}
	return true
}

// checkApart asks that the call writes into none of its lists, and that no list of the answer shares
// memory with one of them or with another list of the answer.
func checkApart(t *testing.T, name string, given [][]byte, call func() [][]byte) {
	t.Helper()
	before := remember(given)
	answer := call()
	if !unchanged(given, before) {
		t.Errorf("%s: an argument was written into", name)
	}
	told := remember(answer)
	for i, l := range answer {
		turn(l)
		if !unchanged(given, before) {
			t.Errorf("%s: list %d of the answer is memory of an argument", name, i)
		}
		for j := range answer {
			if j != i && !bytes.Equal(whole(answer[j]), told[j]) {
				t.Errorf("%s: lists %d and %d of the answer share memory", name, i, j)
			}
		}
		turn(l)
	}
	for _, l := range given {
		turn(l)
	}
	if !unchanged(answer, told) {
		t.Errorf("%s: the answer changes with an argument", name)
	}
	for _, l := range given {
		turn(l)
	}
}

func diskLists(d impl.Disk) [][]byte {
	out := [][]byte{d.Durable}
	for _, w := range d.Pending {
		out = append(out, w.Data)
	}
	return out
}

func spareDisk(d impl.Disk) impl.Disk {
	out := impl.Disk{Durable: spare(d.Durable), Pending: make([]impl.Write, 0, len(d.Pending)+9)}
	for _, w := range d.Pending {
		out.Pending = append(out.Pending, impl.Write{Block: w.Block, Data: spare(w.Data)})
	}
	return out
}

func TestDiskMemory(t *testing.T) {
	for _, start := range []impl.Disk{impl.NewDisk(3), writesTo(t, impl.NewDisk(3), 1, 2, 1), writesTo(t, impl.NewDisk(3), 0)} {
		fresh := func() impl.Disk { return spareDisk(start) }
		d, data := fresh(), spare(ramp(77))
		checkApart(t, "DiskWrite", append(diskLists(d), data), func() [][]byte {
			return diskLists(impl.DiskWrite(d, 1, data))
		})
		for block := range int64(3) {
			e := fresh()
			checkApart(t, "DiskRead", diskLists(e), func() [][]byte { return [][]byte{impl.DiskRead(e, block)} })
		}
		f := fresh()
		checkApart(t, "DiskSync", diskLists(f), func() [][]byte { return diskLists(impl.DiskSync(f)) })
		for _, choices := range [][]int64{nil, {64, 64, 64}, {10, 64, 20}} {
			g := fresh()
			checkApart(t, "DiskCrash", diskLists(g), func() [][]byte { return diskLists(impl.DiskCrash(g, choices)) })
		}
	}
}

func TestDiskWritePendingIsNew(t *testing.T) {
	d := spareDisk(writesTo(t, impl.NewDisk(3), 1, 2))
	first := impl.DiskWrite(d, 0, ramp(5))
	kept := cloneDisk(first)
	second := impl.DiskWrite(d, 2, ramp(6))
	if !sameDisk(first, kept) {
		t.Error("a second write to the same disk changed the first answer")
	}
	for i := range second.Pending {
		second.Pending[i] = impl.Write{Block: -1}
	}
	if d.Pending[0].Block != 1 || d.Pending[1].Block != 2 || len(d.Pending[:3][2].Data) != 0 {
		t.Error("the pending writes of the answer are those of the argument")
	}
}

func TestChoicesStay(t *testing.T) {
	choices := []int64{-7, 5, 64, 3, 9}
	impl.DiskCrash(writesTo(t, impl.NewDisk(3), 1, 2, 1), choices)
	if !slices.Equal(choices, []int64{-7, 5, 64, 3, 9}) {
		t.Errorf("%v", choices)
	}
}

func recordLists(s impl.Scan) [][]byte {
	var out [][]byte
	for _, r := range s.Records {
		out = append(out, r.Data)
	}
	return out
}

func TestFrameMemory(t *testing.T) {
	n := &numbers{state: 9}
	for _, size := range []int{0, 1, 7, 8, 300, impl.MaxPayload, impl.MaxPayload + 1} {
		data := spare(n.bytes(size))
		checkApart(t, "Crc", [][]byte{data}, func() [][]byte { impl.Crc(data); return nil })
		checkApart(t, "Pack", [][]byte{data}, func() [][]byte { return [][]byte{impl.Pack(data)} })
		checkApart(t, "Frame", [][]byte{data}, func() [][]byte { return [][]byte{impl.Frame(data)} })
		packed := spare(impl.Pack(data))
		checkApart(t, "Unpack", [][]byte{packed}, func() [][]byte { return [][]byte{impl.Unpack(packed).Data} })
		checkApart(t, "Unpack of other bytes", [][]byte{data}, func() [][]byte { return [][]byte{impl.Unpack(data).Data} })
	}
	area := spare(layFrames(900, n.bytes(5), n.bytes(200), n.bytes(5), n.bytes(64)).area)
	checkApart(t, "ScanFrames", [][]byte{area}, func() [][]byte { return recordLists(impl.ScanFrames(area)) })
}

// guarded is a list with room behind it, and a copy of both, so that any write into it shows.
type guarded[V comparable] struct {
	list, before []V
}

func guard[V comparable](list []V, filler V) guarded[V] {
	room := slices.Repeat([]V{filler}, len(list)+20)
	copy(room, list)
	return guarded[V]{list: room[:len(list)], before: slices.Clone(room)}
}

func (g guarded[V]) kept() bool {
	return slices.Equal(g.list[:cap(g.list)], g.before)
}

// spoil writes over all of a list, the room behind it too.
func spoil[V any](list []V, filler V) {
	for i := range list[:cap(list)] {
		list[:cap(list)][i] = filler
	}
}

// checkTreeCall asks that the call keeps its three lists, and that its answer is memory of its own:
// answers told twice are the same after the first one and then the arguments were written over.
func checkTreeCall(t *testing.T, name string, tree impl.Tree, r impl.Request, x impl.Txn, call func(impl.Tree, impl.Request, impl.Txn) impl.Prepared) {
	t.Helper()
	nodes := guard(tree.Nodes, impl.Node{Path: "/spare"})
	ops := guard(r.Ops, impl.Op{Kind: 7})
	effects := guard(x.Effects, impl.Effect{Node: impl.Node{Path: "/spare"}})
	again := func() impl.Prepared {
		return call(impl.Tree{Nodes: nodes.list}, impl.Request{Ops: ops.list}, impl.Txn{Zxid: x.Zxid, Effects: effects.list})
	}
	first, second := again(), again()
	told := impl.Prepared{Code: second.Code, Index: second.Index, Names: slices.Clone(second.Names),
		Txn: impl.Txn{Zxid: second.Txn.Zxid, Effects: slices.Clone(second.Txn.Effects)}}
	spoil(first.Names, "spoiled")
	spoil(first.Txn.Effects, impl.Effect{Del: true})
	if !nodes.kept() || !ops.kept() || !effects.kept() {
		t.Errorf("%s: an argument was written into, or is the answer's memory", name)
	}
	spoil(nodes.list, impl.Node{})
	spoil(ops.list, impl.Op{})
	spoil(effects.list, impl.Effect{})
	if !samePrepared(second, told) {
		t.Errorf("%s: the answer is memory of an argument or of another answer", name)
	}
}

// checkTreeAnswer asks the same of a call that answers a tree.
func checkTreeAnswer(t *testing.T, name string, tree impl.Tree, x impl.Txn) {
	t.Helper()
	nodes := guard(tree.Nodes, impl.Node{Path: "/spare"})
	effects := guard(x.Effects, impl.Effect{Node: impl.Node{Path: "/spare"}})
	again := func() impl.Tree {
		return impl.ApplyTxn(impl.Tree{Nodes: nodes.list}, impl.Txn{Zxid: x.Zxid, Effects: effects.list})
	}
	first, second := again(), again()
	told := slices.Clone(second.Nodes)
	spoil(first.Nodes, impl.Node{Path: "spoiled"})
	if !nodes.kept() || !effects.kept() {
		t.Errorf("%s: an argument was written into, or is the answer's memory", name)
	}
	spoil(nodes.list, impl.Node{})
	spoil(effects.list, impl.Effect{})
	if !slices.Equal(second.Nodes, told) {
		t.Errorf("%s: the answer is memory of an argument or of another answer", name)
	}
}

func TestTreeMemory(t *testing.T) {
	n := &numbers{state: 77}
	for range 500 {
		tree := n.anyTree(3)
		r, x := n.request(tree), impl.Prepare(tree, n.request(tree), 3).Txn
		checkTreeCall(t, "Prepare", tree, r, x, func(tree impl.Tree, r impl.Request, _ impl.Txn) impl.Prepared {
			return impl.Prepare(tree, r, 4)
		})
		checkTreeCall(t, "Children", tree, r, x, func(tree impl.Tree, _ impl.Request, _ impl.Txn) impl.Prepared {
			return impl.Prepared{Names: impl.Children(tree, "/")}
		})
		checkTreeCall(t, "ValidTree and ValidTxn", tree, r, x, func(tree impl.Tree, _ impl.Request, x impl.Txn) impl.Prepared {
			impl.ValidTree(tree)
			impl.ValidTxn(x)
			return impl.Prepared{}
		})
		checkTreeAnswer(t, "ApplyTxn", tree, x)
		checkTreeAnswer(t, "ApplyTxn of nothing", tree, impl.Txn{Zxid: 1})
	}
}

// TestTreePanics hands bad forms to every function of the tree: a panic fails the test.
func TestTreePanics(t *testing.T) {
	odd := []int64{math.MinInt64, -2, -1, 0, 1, 4, 5, impl.MaxStat, impl.MaxStat + 1, math.MaxInt64}
	paths := []string{"", "/", "//", "a", "/a", "/a/", "/a/b", "/a/b/c/d/e/f", "/a/b/c/d/e/f/g", "\xff", strings.Repeat("/", 100000), strings.Repeat("/a", 100000)}
	var nodes []impl.Node
	var ops []impl.Op
	var effects []impl.Effect
	for _, path := range paths {
		impl.ValidPath(path)
		for _, x := range odd {
			for _, n := range nodeFields(impl.Node{Path: path, Data: path}, x) {
				nodes = append(nodes, n)
				effects = append(effects, impl.Effect{Node: n}, impl.Effect{Del: true, Node: n})
			}
			for kind := range int64(6) {
				ops = append(ops, impl.Op{Kind: kind, Path: path, Version: x}, impl.Op{Kind: x, Path: path, Data: path, Version: kind, Seq: true})
			}
		}
	}
	trees := []impl.Tree{{}, impl.NewTree(), {Nodes: nodes}, wideTree(impl.MaxNodes), pathTree("/a", "/a/b/c"), wideTree(5000)}
	for _, n := range nodes {
		trees = append(trees, impl.Tree{Nodes: []impl.Node{n}}, impl.Tree{Nodes: []impl.Node{{Path: "/"}, n}})
	}
	for i, tree := range trees {
		impl.ValidTree(tree)
		impl.Children(tree, pick(&numbers{state: uint64(i)}, paths...))
		impl.ApplyTxn(tree, impl.Txn{Zxid: 1, Effects: effects})
		for _, x := range odd {
			impl.Prepare(tree, impl.Request{}, x)
			impl.Prepare(tree, impl.Request{Ops: ops}, x)
		}
	}
	for _, e := range effects {
		impl.ValidTxn(impl.Txn{Zxid: 1, Effects: []impl.Effect{e}})
		impl.ApplyTxn(impl.NewTree(), impl.Txn{Zxid: 1, Effects: []impl.Effect{e}})
	}
	for _, tree := range trees[:6] {
		for _, o := range ops {
			impl.Prepare(tree, impl.Request{Ops: []impl.Op{o}}, 1)
		}
	}
}

// TestNothingPanics hands bad forms to every function: a panic fails the test.
func TestNothingPanics(t *testing.T) {
	odd := []int64{math.MinInt64, -65, -64, -1, 0, 1, 2, 63, 64, 299, 300, 301, math.MaxInt64 / 64, math.MaxInt64}
	lists := [][]byte{nil, {}, {0}, {255}, {128, 128}, {255, 255}, make([]byte, 63), make([]byte, 64), make([]byte, 65),
		bytes.Repeat([]byte{255}, 8192), bytes.Repeat([]byte{255}, 8193), make([]byte, 30000)}
	disks := append(notValid(), impl.NewDisk(1), impl.NewDisk(300), diskWithPending(2, impl.MaxPending))
	for _, x := range odd {
		impl.NewDisk(x)
	}
	for _, d := range disks {
		impl.ValidDisk(d)
		impl.DiskSync(d)
		impl.DiskCrash(d, nil)
		impl.DiskCrash(d, odd)
		impl.DiskCrash(d, make([]int64, impl.MaxPending+1))
		for _, x := range odd {
			impl.DiskRead(d, x)
			for _, l := range lists {
				impl.DiskWrite(d, x, l)
			}
		}
	}
	n := &numbers{state: 99}
	for range 3000 {
		lists = append(lists, n.bytes(n.below(40)))
	}
	for _, l := range lists {
		impl.Crc(l)
		impl.Pack(l)
		impl.Unpack(l)
		impl.Frame(l)
		impl.ScanFrames(l)
	}
}
