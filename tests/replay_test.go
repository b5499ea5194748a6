package tests

import (
	"bytes"
	"math"
	"slices"
	"testing"

	"loop.example/s01594/impl"
)

func checkReplay(t *testing.T, name string, tree impl.Tree, start int64, area []byte, want impl.Replayed) {
	t.Helper()
	if got := impl.Replay(tree, start, area); !sameReplayed(got, want) {
		t.Errorf("%s: %+v, not %+v", name, got, want)
	}
	if model := modelReplay(tree, start, area); !sameReplayed(model, want) {
		t.Errorf("%s: the model has %+v, not %+v", name, model, want)
	}
}

// reachedSet is what a replay of records of setTxns answers.
func reachedSet(zxid, count int64) impl.Replayed {
	return impl.Replayed{Tree: setTree(zxid), Zxid: zxid, Count: count, End: setFrame * count}
}

func TestReplayTakesRecords(t *testing.T) {
	area := append(logOf(setTxns(11, 4)...), make([]byte, 50)...)
	checkReplay(t, "no record", setTree(10), 10, nil, reachedSet(10, 0))
	checkReplay(t, "zeros", setTree(10), 10, make([]byte, 100), reachedSet(10, 0))
	checkReplay(t, "all", setTree(10), 10, area, reachedSet(14, 4))
	checkReplay(t, "all, with nothing behind", setTree(10), 10, area[:4*setFrame], reachedSet(14, 4))
	checkReplay(t, "the last one cut", setTree(10), 10, area[:4*setFrame-1], reachedSet(13, 3))
	empty := impl.Replay(impl.Tree{}, 10, area)
	if !sameReplayed(empty, impl.Replayed{Tree: impl.Tree{Nodes: setTree(14).Nodes[1:]}, Zxid: 14, Count: 4, End: 4 * setFrame}) {
		t.Errorf("from no nodes: %+v", empty)
	}
	for at := range 4 * setFrame {
		hole := bytes.Clone(area)
		hole[at] = 0
		whole := int64(at / setFrame)
		checkReplay(t, "a hole", setTree(10), 10, hole, reachedSet(10+whole, whole))
	}
}

func TestReplayPassesOver(t *testing.T) {
	area := logOf(setTxns(11, 4)...)
	for start := int64(10); start <= 20; start++ {
		// The tree of start is kept as long as the records are not younger than it.
		checkReplay(t, "begins in the log", setTree(start), start, area, impl.Replayed{Tree: setTree(max(14, start)), Zxid: max(14, start), Count: 4, End: 4 * setFrame})
	}
	other := pathTree("/", "/z")
	got := impl.Replay(other, 14, area)
	if !sameReplayed(got, impl.Replayed{Tree: other, Zxid: 14, Count: 4, End: 4 * setFrame}) {
		t.Errorf("a record that was passed over changed the tree: %+v", got)
	}
	old := logOf(setTxns(1, 3)...)
	checkReplay(t, "all far too old", setTree(1000), 1000, old, impl.Replayed{Tree: setTree(1000), Zxid: 1000, Count: 3, End: 3 * setFrame})
	checkReplay(t, "old ones that leave a gap", setTree(1000), 1000, append(bytes.Clone(old), logOf(setTxns(1001, 2)...)...),
		impl.Replayed{Tree: setTree(1000), Zxid: 1000, Count: 3, End: 3 * setFrame})
}

func TestReplayEnds(t *testing.T) {
	late := func(first int64) []byte { return logOf(setTxns(first, 3)...) }
	checkReplay(t, "the first in time", setTree(10), 10, late(11), reachedSet(13, 3))
	checkReplay(t, "the first too late by one", setTree(10), 10, late(12), reachedSet(10, 0))
	checkReplay(t, "the first far too late", setTree(10), 10, late(impl.MaxStat-2), reachedSet(10, 0))
	two := logOf(setTxns(11, 2)...)
	for name, behind := range map[string][]byte{
		"the same once more":    logOf(setTxns(12, 1)...),
		"the first once more":   logOf(setTxns(11, 1)...),
		"a gap":                 logOf(setTxns(14, 1)...),
		"an older one":          logOf(setTxns(1, 1)...),
		"no transaction":        modelFrame([]byte{1, 2, 3}),
		"a byte too many":       modelFrame(append(modelTxnImage(setTxns(13, 1)[0]), 0)),
		"a zxid of 0":           logOf(impl.Txn{}),
		"not valid":             logOf(impl.Txn{Zxid: 13, Effects: []impl.Effect{put("/b"), put("/a")}}),
		"no record":             {128, 128},
		"a byte that is not 0":  {1},
		"a record behind zeros": append(make([]byte, 3), logOf(setTxns(13, 1)...)...),
	} {
		checkReplay(t, name, setTree(10), 10, append(bytes.Clone(two), behind...), reachedSet(12, 2))
		more := slices.Concat(two, behind, logOf(setTxns(13, 2)...))
		checkReplay(t, name+", and good ones behind it", setTree(10), 10, more, reachedSet(12, 2))
		// The end does not hang on whether the records were passed over.
		checkReplay(t, name+", all passed over", setTree(40), 40, more, impl.Replayed{Tree: setTree(40), Zxid: 40, Count: 2, End: 2 * setFrame})
	}
	checkReplay(t, "no transaction at first", setTree(10), 10, append(modelFrame([]byte{1}), two...), reachedSet(10, 0))
}

func TestReplayNodes(t *testing.T) {
	at := func(zxid int64, effects ...impl.Effect) impl.Txn { return impl.Txn{Zxid: zxid, Effects: effects} }
	full := wideTree(impl.MaxNodes)
	one := logOf(at(1, put("/zz")))
	checkReplay(t, "MaxNodes met", wideTree(impl.MaxNodes-1), 0, one,
		impl.Replayed{Tree: applyModel(wideTree(impl.MaxNodes-1), at(1, put("/zz"))), Zxid: 1, Count: 1, End: int64(len(one))})
	checkReplay(t, "MaxNodes passed by one", full, 0, one, impl.Replayed{Tree: full})
	checkReplay(t, "MaxNodes passed, but passed over", full, 1, one, impl.Replayed{Tree: full, Zxid: 1, Count: 1, End: int64(len(one))})
	swap := at(1, drop("/n1"), put("/zz"))
	checkReplay(t, "one for another", full, 0, logOf(swap), impl.Replayed{Tree: applyModel(full, swap), Zxid: 1, Count: 1, End: int64(len(logOf(swap)))})
	// A record that makes the tree too large ends it, though a later one would make room.
	txns := []impl.Txn{at(5, drop("/n2")), at(6, put("/zy")), at(7, put("/zz")), at(8, drop("/n3"))}
	reached := applyModel(applyModel(full, txns[0]), txns[1])
	checkReplay(t, "too large in the middle", full, 4, logOf(txns...), impl.Replayed{Tree: reached, Zxid: 6, Count: 2, End: int64(len(logOf(txns[:2]...)))})
}

func TestReplayArguments(t *testing.T) {
	area := logOf(setTxns(1, 3)...)
	for _, start := range []int64{math.MinInt64, -2, -1, impl.MaxStat + 1, 1 << 32, math.MaxInt64} {
		checkReplay(t, "start", setTree(0), start, area, impl.Replayed{})
	}
	for _, tree := range []impl.Tree{wideTree(impl.MaxNodes + 1), pathTree("/a/"), {Nodes: []impl.Node{{Path: "/b"}, {Path: "/a"}}}, {Nodes: []impl.Node{{Path: "/", Pzxid: -1}}}} {
		checkReplay(t, "tree", tree, 0, area, impl.Replayed{})
		checkReplay(t, "tree, and no record", tree, 0, nil, impl.Replayed{})
	}
	checkReplay(t, "start 0", setTree(0), 0, area, reachedSet(3, 3))
	last := logOf(setTxns(impl.MaxStat-1, 2)...)
	for _, start := range []int64{impl.MaxStat - 2, impl.MaxStat - 1, impl.MaxStat} {
		checkReplay(t, "up to MaxStat", setTree(start), start, last, impl.Replayed{Tree: setTree(impl.MaxStat), Zxid: impl.MaxStat, Count: 2, End: 2 * setFrame})
		beyond := append(bytes.Clone(last), modelFrame(append([]byte{128, 0, 0, 0}, 0, 0))...)
		checkReplay(t, "behind MaxStat", setTree(start), start, beyond, impl.Replayed{Tree: setTree(impl.MaxStat), Zxid: impl.MaxStat, Count: 2, End: 2 * setFrame})
	}
}

// TestReplayLongest fills an area of MaxScan bytes to its last byte.
func TestReplayLongest(t *testing.T) {
	var txns []impl.Txn
	for z := range int64(908) {
		txns = append(txns, impl.Txn{Zxid: z + 1})
	}
	for i := range 4 {
		txns[i*200].Effects = []impl.Effect{drop("/a")}
	}
	area := logOf(txns...)
	if len(area) != impl.MaxScan {
		t.Fatalf("%d bytes", len(area))
	}
	checkReplay(t, "MaxScan", setTree(0), 0, area, impl.Replayed{Tree: impl.NewTree(), Zxid: 908, Count: 908, End: impl.MaxScan})
	checkReplay(t, "MaxScan+1", setTree(0), 0, append(area, 0), impl.Replayed{})
	checkReplay(t, "MaxScan+1 zeros", setTree(0), 0, make([]byte, impl.MaxScan+1), impl.Replayed{})
}

// TestReplayLikeModel is promise 9 for Replay: histories, most of them with something wrong in the log.
func TestReplayLikeModel(t *testing.T) {
	n := &numbers{state: 91}
	var taken, passed, cut int
	for range 2500 {
		trees, txns := history(n, impl.NewTree(), 1+n.below(25))
		from := int64(n.below(len(trees)))
		start := from + pick[int64](n, 0, 0, 0, 0, 0, -1, -2, 1, 5)
		tree := pick(n, trees[from], mixed(n, trees[from:]), n.anyTree(3))
		area := n.anyLog(txns, from-int64(pick(n, 0, 0, 1, 2, 7)))
		got, want := impl.Replay(tree, start, area), modelReplay(tree, start, area)
		if !sameReplayed(got, want) {
			t.Fatalf("%+v from %d over %v: %+v, not %+v", tree, start, area, got, want)
		}
		if got.Count > 0 && got.Zxid > start {
			taken++
		}
		if got.Count > got.Zxid-start {
			passed++
		}
		if got.End < impl.ScanFrames(area).End {
			cut++
		}
	}
	if taken < 500 || passed < 300 || cut < 150 {
		t.Errorf("%d replays took, %d passed over, %d ended at a record", taken, passed, cut)
	}
}

// TestReplayOfFuzzyTree: the records from start on make the last tree of a snapshot of any moments since.
func TestReplayOfFuzzyTree(t *testing.T) {
	n := &numbers{state: 92}
	for range 150 {
		trees, txns := history(n, impl.NewTree(), 40)
		var log []impl.Txn
		for _, x := range txns {
			if size := len(logOf(append(slices.Clone(log), x)...)); size > impl.MaxScan {
				break
			}
			log = append(log, x)
		}
		trees = trees[:len(log)+1]
		start := n.below(len(trees))
		area := logOf(log[start:]...)
		got := impl.Replay(mixed(n, trees[start:]), int64(start), area)
		if !sameReplayed(got, impl.Replayed{Tree: trees[len(log)], Zxid: int64(len(log)), Count: int64(len(log) - start), End: int64(len(area))}) {
			t.Fatalf("from %d of %d: %+v", start, len(log), got)
		}
	}
}
