package tests

import (
	"bytes"
	"slices"
	"strings"
	"testing"

	"loop.example/s01594/impl"
)

var longestPath = strings.Repeat("/"+strings.Repeat("z", impl.MaxName), impl.MaxDepth)

// checkTreeImage asks that a valid tree has the image of the model and is read back from it.
func checkTreeImage(t *testing.T, tree impl.Tree) {
	t.Helper()
	image := impl.EncodeTree(tree)
	if !bytes.Equal(image, modelTreeImage(tree)) {
		t.Fatalf("%+v: %v", tree, image)
	}
	if got := impl.DecodeTree(image); !got.Good || !sameTree(got.Tree, tree) {
		t.Fatalf("%+v was read back as %+v", tree, got)
	}
}

func checkDecodeTree(t *testing.T, name string, data []byte) {
	t.Helper()
	if got, want := impl.DecodeTree(data), modelDecodeTree(data); !sameTreeResult(got, want) {
		t.Fatalf("%s: %v: %+v, not %+v", name, data, got, want)
	}
}

func refuseTree(t *testing.T, name string, data []byte) {
	t.Helper()
	if got := impl.DecodeTree(data); !sameTreeResult(got, impl.TreeResult{}) {
		t.Errorf("%s: %+v", name, got)
	}
}

func TestTreeImage(t *testing.T) {
	want := []byte("\x01/\x00" + "\x00\x00\x00\x00" + "\x00\x00\x00\x02" + "\x00\x00\x00\x00" + "\x00\x00\x00\x00" + "\x00\x00\x00\x03" +
		"\x04/a/b\x02\x00\xff" + "\x00\x00\x00\x01" + "\x00\x00\x01\x00" + "\x00\x01\x00\x02" + "\x01\x00\x00\x03" + "\x7f\xff\xff\xff")
	tree := impl.Tree{Nodes: []impl.Node{{Path: "/", CVersion: 2, Pzxid: 3},
		{Path: "/a/b", Data: "\x00\xff", Version: 1, CVersion: 256, Czxid: 65538, Mzxid: 16777219, Pzxid: impl.MaxStat}}}
	if got := impl.EncodeTree(tree); !bytes.Equal(got, want) {
		t.Errorf("%q", got)
	}
	if got := impl.DecodeTree(want); !got.Good || !sameTree(got.Tree, tree) {
		t.Errorf("%+v", got)
	}
}

// TestTreeImageBack is promise 7 for trees.
func TestTreeImageBack(t *testing.T) {
	for _, tree := range []impl.Tree{{}, {Nodes: []impl.Node{}}, impl.NewTree(), pathTree("/a/b/c"), wideTree(impl.MaxNodes),
		{Nodes: []impl.Node{largestNode(longestPath)}}, {Nodes: []impl.Node{largestNode("/"), largestNode("/a"), largestNode(longestPath)}}} {
		checkTreeImage(t, tree)
	}
	for size := range impl.MaxData + 1 {
		checkTreeImage(t, impl.Tree{Nodes: []impl.Node{{Path: "/", Data: strings.Repeat("\x80", size)}}})
	}
	for size := 2; size <= len(longestPath); size++ {
		if path := longestPath[:size]; impl.ValidPath(path) {
			checkTreeImage(t, impl.Tree{Nodes: []impl.Node{{Path: path}}})
		}
	}
	for bit := range 31 {
		for _, node := range nodeFields(impl.Node{Path: "/a"}, 1<<bit) {
			checkTreeImage(t, impl.Tree{Nodes: []impl.Node{node}})
		}
	}
	n := &numbers{state: 7}
	for range 3000 {
		checkTreeImage(t, n.anyTree(int64(n.below(impl.MaxStat))))
	}
}

func TestEncodeTreeRefuses(t *testing.T) {
	bad := []impl.Tree{wideTree(impl.MaxNodes + 1), pathTree("//"), {Nodes: []impl.Node{{}}}, pathTree("/a", "/a"),
		{Nodes: []impl.Node{{Path: "/b"}, {Path: "/a"}}}, {Nodes: []impl.Node{{Path: "/", Data: strings.Repeat("x", impl.MaxData+1)}}},
		{Nodes: []impl.Node{{Path: longestPath + "z"}}}, {Nodes: []impl.Node{{Path: longestPath + "/z"}}}, {Nodes: []impl.Node{{Path: strings.Repeat("/a", 150)}}}}
	for _, x := range []int64{-1 << 63, -1, impl.MaxStat + 1, 1 << 32, 1<<63 - 1} {
		for _, node := range nodeFields(impl.Node{Path: "/a"}, x) {
			bad = append(bad, impl.Tree{Nodes: []impl.Node{node}}, impl.Tree{Nodes: []impl.Node{{Path: "/"}, node}})
		}
	}
	for i, tree := range bad {
		if got := impl.EncodeTree(tree); len(got) != 0 {
			t.Errorf("tree %d has an image of %d bytes", i, len(got))
		}
	}
}

// TestDecodeTreeRefuses has bytes in the form of node images, of what is no valid tree.
func TestDecodeTreeRefuses(t *testing.T) {
	forms := map[string]impl.Tree{
		"no path":               {Nodes: []impl.Node{{}}},
		"a bad path":            {Nodes: []impl.Node{{Path: "a"}}},
		"a bad path at the end": pathTree("/", "/a", "/a/"),
		"too deep":              {Nodes: []impl.Node{{Path: strings.Repeat("/a", impl.MaxDepth+1)}}},
		"a name too long":       {Nodes: []impl.Node{{Path: "/" + strings.Repeat("a", impl.MaxName+1)}}},
		"the longest length":    {Nodes: []impl.Node{{Path: "/" + strings.Repeat("a", 254)}}},
		"too much data":         {Nodes: []impl.Node{{Path: "/", Data: strings.Repeat("x", impl.MaxData+1)}}},
		"the most data":         {Nodes: []impl.Node{{Path: "/", Data: strings.Repeat("x", 255)}}},
		"the same path twice":   {Nodes: []impl.Node{{Path: "/a"}, {Path: "/a"}}},
		"descending":            {Nodes: []impl.Node{{Path: "/a"}, {Path: "/"}}},
		"descending at the end": {Nodes: []impl.Node{{Path: "/"}, {Path: "/a0"}, {Path: "/a/b"}}},
		"too many nodes":        wideTree(impl.MaxNodes + 1),
		"far too many nodes":    wideTree(5 * impl.MaxNodes),
	}
	for name, tree := range forms {
		refuseTree(t, name, modelTreeImage(tree))
	}
	for i, node := range nodeFields(impl.Node{Path: "/a"}, impl.MaxStat+1) {
		for _, x := range []int64{impl.MaxStat + 1, 1<<32 - 1} {
			node = nodeFields(node, x)[i]
			refuseTree(t, "a number too large", modelTreeImage(impl.Tree{Nodes: []impl.Node{node}}))
			refuseTree(t, "a number too large at the end", modelTreeImage(impl.Tree{Nodes: []impl.Node{{Path: "/"}, node}}))
		}
	}
	checkTreeImage(t, wideTree(impl.MaxNodes))
}

// TestTreeBytesEnd cuts an image everywhere: only behind a node it is one of a tree.
func TestTreeBytesEnd(t *testing.T) {
	tree := impl.Tree{Nodes: []impl.Node{{Path: "/"}, largestNode("/a"), {Path: "/b", Data: "x"}, largestNode(longestPath)}}
	image := impl.EncodeTree(tree)
	for cut := range len(image) + 1 {
		got := impl.DecodeTree(image[:cut])
		count := slices.IndexFunc([]int{0, 1, 2, 3, 4}, func(nodes int) bool {
			return len(modelTreeImage(impl.Tree{Nodes: tree.Nodes[:nodes]})) == cut
		})
		if got.Good != (count >= 0) || count >= 0 && !sameTree(got.Tree, impl.Tree{Nodes: tree.Nodes[:count]}) || count < 0 && len(got.Tree.Nodes) != 0 {
			t.Errorf("%d bytes: %+v", cut, got)
		}
	}
	for size := 1; size < 60; size++ {
		refuseTree(t, "zeros behind", append(bytes.Clone(image), make([]byte, size)...))
		refuseTree(t, "bytes behind", append(bytes.Clone(image), bytes.Repeat([]byte{255}, size)...))
	}
	refuseTree(t, "the image twice", append(bytes.Clone(image), image...))
}

// TestTreeLengthsLie puts every byte at every place of an image: lengths too short, too long, beyond the end.
func TestTreeLengthsLie(t *testing.T) {
	for _, tree := range []impl.Tree{impl.NewTree(), {Nodes: []impl.Node{{Path: "/", Data: "/a"}, {Path: "/a"}, {Path: "/b/c", Data: "\x01/\x00", Pzxid: 7}}}} {
		image := impl.EncodeTree(tree)
		for at, was := range image {
			for b := range 256 {
				image[at] = byte(b)
				checkDecodeTree(t, "another byte", image)
			}
			image[at] = was
		}
	}
}

func TestDecodeTreeLikeModel(t *testing.T) {
	n := &numbers{state: 71}
	good := 0
	for range 40000 {
		image := modelTreeImage(n.anyTree(9))
		for range 1 + n.below(2) {
			image = n.damaged(image)
		}
		checkDecodeTree(t, "damaged", image)
		if modelDecodeTree(image).Good {
			good++
		}
	}
	if good < 2000 {
		t.Errorf("only %d of the damaged images are still trees", good)
	}
}

// checkTxnImage asks that a valid transaction has the image of the model and is read back from it.
func checkTxnImage(t *testing.T, x impl.Txn) {
	t.Helper()
	image := impl.EncodeTxn(x)
	if !bytes.Equal(image, modelTxnImage(x)) {
		t.Fatalf("%+v: %v", x, image)
	}
	if got := impl.DecodeTxn(image); !got.Good || !sameTxn(got.Txn, x) {
		t.Fatalf("%+v was read back as %+v", x, got)
	}
}

func checkDecodeTxn(t *testing.T, name string, data []byte) {
	t.Helper()
	if got, want := impl.DecodeTxn(data), modelDecodeTxn(data); !sameTxnResult(got, want) {
		t.Fatalf("%s: %v: %+v, not %+v", name, data, got, want)
	}
}

func refuseTxn(t *testing.T, name string, data []byte) {
	t.Helper()
	if got := impl.DecodeTxn(data); !sameTxnResult(got, impl.TxnResult{}) {
		t.Errorf("%s: %+v", name, got)
	}
}

func TestTxnImage(t *testing.T) {
	want := []byte("\x01\x02\x03\x04" + "\x00\x03" + "\x02\x01/" +
		"\x01\x02/a\x03x\x00y" + "\x00\x00\x00\x05" + "\x00\x00\x00\x06" + "\x00\x00\x00\x07" + "\x00\x00\x00\x08" + "\x00\x00\x00\x09" + "\x02\x04/a/b")
	x := impl.Txn{Zxid: 16909060, Effects: []impl.Effect{drop("/"),
		{Node: impl.Node{Path: "/a", Data: "x\x00y", Version: 5, CVersion: 6, Czxid: 7, Mzxid: 8, Pzxid: 9}}, drop("/a/b")}}
	if got := impl.EncodeTxn(x); !bytes.Equal(got, want) {
		t.Errorf("%q", got)
	}
	if got := impl.DecodeTxn(want); !got.Good || !sameTxn(got.Txn, x) {
		t.Errorf("%+v", got)
	}
}

func manyDrops(count int) impl.Txn {
	x := wideTxn(count)
	for i, e := range x.Effects {
		x.Effects[i] = drop(e.Node.Path)
	}
	return x
}

// TestTxnImageBack is promise 7 for transactions.
func TestTxnImageBack(t *testing.T) {
	for _, count := range []int{0, 1, 255, 256, 257, impl.MaxEffects - 1, impl.MaxEffects} {
		checkTxnImage(t, wideTxn(count))
		checkTxnImage(t, manyDrops(count))
	}
	for _, x := range []impl.Txn{{Zxid: impl.MaxStat}, txn(put("/")), txn(drop("/")), txn(drop(longestPath)), txn(put("/"), drop("/a"), put("/a/b")),
		txn(impl.Effect{Node: largestNode("/a")}, drop("/b"), impl.Effect{Node: largestNode(longestPath)})} {
		checkTxnImage(t, x)
	}
	for bit := range 31 {
		checkTxnImage(t, impl.Txn{Zxid: 1 << bit})
		for _, node := range nodeFields(impl.Node{Path: "/a"}, 1<<bit) {
			checkTxnImage(t, txn(drop("/"), impl.Effect{Node: node}))
		}
	}
	n := &numbers{state: 72}
	for range 3000 {
		checkTxnImage(t, n.anyTxn())
	}
	for range 40 {
		_, txns := history(n, n.anyTree(3), 40)
		for _, x := range txns {
			checkTxnImage(t, x)
		}
	}
}

func TestEncodeTxnRefuses(t *testing.T) {
	bad := []impl.Txn{{}, {Zxid: -1}, {Zxid: impl.MaxStat + 1}, {Zxid: 1<<32 + 1}, wideTxn(impl.MaxEffects + 1), manyDrops(impl.MaxEffects + 1), wideTxn(65537),
		txn(put("")), txn(drop("")), txn(put("/a"), put("/a")), txn(drop("/a"), put("/a")), txn(drop("/b"), drop("/a")),
		txn(impl.Effect{Del: true, Node: impl.Node{Path: "/a", Data: "x"}}), txn(impl.Effect{Node: impl.Node{Path: "/a", Data: strings.Repeat("x", impl.MaxData+1)}})}
	for _, node := range nodeFields(impl.Node{Path: "/a"}, 1) {
		bad = append(bad, txn(impl.Effect{Del: true, Node: node}))
	}
	for _, x := range []int64{-1, impl.MaxStat + 1, 1 << 32} {
		for _, node := range nodeFields(impl.Node{Path: "/a"}, x) {
			bad = append(bad, txn(impl.Effect{Node: node}))
		}
	}
	for i, x := range bad {
		if got := impl.EncodeTxn(x); len(got) != 0 {
			t.Errorf("transaction %d has an image of %d bytes", i, len(got))
		}
	}
}

// TestDecodeTxnRefuses has bytes in the form of a transaction that is not valid.
func TestDecodeTxnRefuses(t *testing.T) {
	forms := map[string]impl.Txn{
		"zxid 0":                {},
		"zxid 0 with an effect": {Effects: []impl.Effect{put("/")}},
		"a zxid too large":      {Zxid: impl.MaxStat + 1},
		"the largest zxid":      {Zxid: 1<<32 - 1},
		"too many effects":      wideTxn(impl.MaxEffects + 1),
		"too many deletes":      manyDrops(impl.MaxEffects + 1),
		"the most effects":      manyDrops(65535),
		"no path":               txn(put("")),
		"no path to delete":     txn(drop("")),
		"a bad path":            txn(put("/a"), put("/b/")),
		"a bad path to delete":  txn(drop("/a"), drop("/b/")),
		"the same path twice":   txn(put("/a"), put("/a")),
		"a path and its delete": txn(put("/a"), drop("/a")),
		"a delete and its path": txn(drop("/a"), put("/a")),
		"descending":            txn(put("/b"), put("/a")),
		"descending deletes":    txn(drop("/b"), drop("/a")),
		"too much data":         txn(impl.Effect{Node: impl.Node{Path: "/a", Data: strings.Repeat("x", impl.MaxData+1)}}),
		"too long a path":       txn(drop(longestPath + "z")),
	}
	for name, x := range forms {
		refuseTxn(t, name, modelTxnImage(x))
	}
	for _, node := range nodeFields(impl.Node{Path: "/a"}, impl.MaxStat+1) {
		refuseTxn(t, "a number too large", modelTxnImage(txn(put("/"), impl.Effect{Node: node})))
	}
	checkTxnImage(t, manyDrops(impl.MaxEffects))
}

func TestTxnBytesEnd(t *testing.T) {
	x := txn(drop("/"), impl.Effect{Node: largestNode("/a")}, put("/b"), drop(longestPath))
	image := impl.EncodeTxn(x)
	for cut := range len(image) {
		refuseTxn(t, "cut short", image[:cut])
		refuseTxn(t, "without its beginning", image[cut+1:])
	}
	for size := 1; size < 60; size++ {
		refuseTxn(t, "zeros behind", append(bytes.Clone(image), make([]byte, size)...))
		refuseTxn(t, "bytes behind", append(bytes.Clone(image), bytes.Repeat([]byte{1}, size)...))
	}
	refuseTxn(t, "one more effect behind", append(bytes.Clone(image), "\x02\x03/zz"...))
	refuseTxn(t, "the image twice", append(bytes.Clone(image), image...))
}

// TestTxnCountsLie says every number of effects but the right one.
func TestTxnCountsLie(t *testing.T) {
	for _, right := range []int{0, 1, 2, 5, 256} {
		for _, x := range []impl.Txn{wideTxn(right), manyDrops(right)} {
			image := impl.EncodeTxn(x)
			for count := range 65536 {
				if count > 600 && count%251 != 0 && count < 65000 {
					continue
				}
				image[4], image[5] = byte(count>>8), byte(count)
				if got := impl.DecodeTxn(image); got.Good != (count == right) || !got.Good && (got.Txn.Zxid != 0 || len(got.Txn.Effects) != 0) {
					t.Fatalf("%d effects, said to be %d: %+v", right, count, got)
				}
			}
		}
	}
}

func TestTxnLengthsLie(t *testing.T) {
	for _, x := range []impl.Txn{{Zxid: 1}, txn(drop("/"), put("/a"), impl.Effect{Node: impl.Node{Path: "/b", Data: "\x02\x01/", Czxid: 9}}, drop("/c/d"))} {
		image := impl.EncodeTxn(x)
		for at, was := range image {
			for b := range 256 {
				image[at] = byte(b)
				checkDecodeTxn(t, "another byte", image)
			}
			image[at] = was
		}
	}
}

func TestDecodeTxnLikeModel(t *testing.T) {
	n := &numbers{state: 73}
	good := 0
	for range 40000 {
		image := modelTxnImage(n.anyTxn())
		if n.below(3) > 0 {
			image = n.damaged(image)
		}
		if n.below(3) == 0 && len(image) > 5 {
			image[5] += byte(pick(n, 1, 255))
		}
		checkDecodeTxn(t, "damaged", image)
		if modelDecodeTxn(image).Good {
			good++
		}
	}
	if good < 8000 || good > 32000 {
		t.Errorf("%d of the images are transactions", good)
	}
}
