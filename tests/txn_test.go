package tests

import (
	"strings"
	"testing"

	"loop.example/s01594/impl"
)

func wideTxn(count int) impl.Txn {
	x := impl.Txn{Zxid: 1}
	for _, n := range wideTree(count + 1).Nodes[1:] {
		n.Path = "/x" + n.Path[1:]
		x.Effects = append(x.Effects, impl.Effect{Node: n})
	}
	return x
}

func put(path string) impl.Effect {
	return impl.Effect{Node: impl.Node{Path: path}}
}

func drop(path string) impl.Effect {
	return impl.Effect{Del: true, Node: impl.Node{Path: path}}
}

func txn(effects ...impl.Effect) impl.Txn {
	return impl.Txn{Zxid: 3, Effects: effects}
}

func TestValidTxn(t *testing.T) {
	good := []impl.Txn{{Zxid: 1}, {Zxid: impl.MaxStat}, txn(put("/")), txn(drop("/")), txn(drop("/"), put("/a"), drop("/a/b"), put("/a0")), wideTxn(impl.MaxEffects)}
	for i, x := range good {
		if !impl.ValidTxn(x) {
			t.Errorf("transaction %d was refused", i)
		}
	}
	bad := []impl.Txn{{}, {Zxid: -1}, {Zxid: impl.MaxStat + 1}, {Zxid: -1 << 63}, {Zxid: 0, Effects: []impl.Effect{put("/")}},
		wideTxn(impl.MaxEffects + 1), txn(put("/a"), put("/a")), txn(put("/a"), drop("/a")), txn(drop("/a"), put("/a")), txn(put("/b"), put("/a")),
		txn(put("/"), put("/a0"), put("/a/b")), txn(put("")), txn(drop("")), txn(drop("/a/")), txn(put("/a"), put("/B")),
		txn(impl.Effect{Del: true, Node: impl.Node{Path: "/a", Data: "x"}})}
	for _, n := range nodeFields(impl.Node{Path: "/a"}, 1) {
		bad = append(bad, txn(impl.Effect{Del: true, Node: n}))
	}
	for i, x := range bad {
		if impl.ValidTxn(x) {
			t.Errorf("bad transaction %d was accepted", i)
		}
		if got := impl.ApplyTxn(impl.NewTree(), x); len(got.Nodes) != 0 {
			t.Errorf("bad transaction %d was applied", i)
		}
	}
}

func applyModel(t impl.Tree, x impl.Txn) impl.Tree {
	m := modelOf(t)
	for _, e := range x.Effects {
		delete(m, e.Node.Path)
		if !e.Del {
			m[e.Node.Path] = e.Node
		}
	}
	return m.tree()
}

func checkApply(t *testing.T, tree impl.Tree, x impl.Txn) {
	t.Helper()
	want := applyModel(tree, x)
	got := impl.ApplyTxn(tree, x)
	if !sameTree(got, want) {
		t.Fatalf("%+v on %+v: %+v, not %+v", x, tree, got, want)
	}
	if len(got.Nodes) <= impl.MaxNodes && !sameTree(impl.ApplyTxn(got, x), want) {
		t.Fatalf("%+v on %+v changes it once more", x, tree)
	}
}

func TestApplyTxn(t *testing.T) {
	tree := pathTree("/", "/a", "/a/b", "/c")
	for _, x := range []impl.Txn{txn(), txn(put("/")), txn(drop("/")), txn(put("/a"), drop("/a/b")), txn(drop("/a"), put("/a/b")), txn(put("/0"), put("/zz")),
		txn(drop("/0"), drop("/a/0"), drop("/zz")), txn(put("/q/r/s")), txn(drop("/"), drop("/a"), drop("/a/b"), drop("/c"))} {
		checkApply(t, tree, x)
		checkApply(t, impl.Tree{}, x)
	}
	checkApply(t, wideTree(impl.MaxNodes), wideTxn(impl.MaxEffects))
	checkApply(t, wideTree(impl.MaxNodes), txn(put("/zz")))
	if got := impl.ApplyTxn(wideTree(impl.MaxNodes), wideTxn(impl.MaxEffects)); len(got.Nodes) != impl.MaxNodes+impl.MaxEffects {
		t.Errorf("%d nodes", len(got.Nodes))
	}
	for i, bad := range []impl.Tree{wideTree(impl.MaxNodes + 1), {Nodes: []impl.Node{{Path: "/b"}, {Path: "/a"}}}, {Nodes: []impl.Node{{Path: "/", Data: strings.Repeat("x", 65)}}}, {Nodes: []impl.Node{{Path: "/", Version: -1}}}} {
		if got := impl.ApplyTxn(bad, txn(put("/a"))); len(got.Nodes) != 0 {
			t.Errorf("bad tree %d: %+v", i, got)
		}
	}
}

func TestApplyTxnLikeModel(t *testing.T) {
	n := &numbers{state: 55}
	for range 10000 {
		x := impl.Txn{Zxid: 7}
		for _, node := range n.anyTree(7).Nodes {
			e := impl.Effect{Node: node}
			if n.below(2) == 0 {
				e = drop(node.Path)
			}
			x.Effects = append(x.Effects, e)
		}
		checkApply(t, n.anyTree(7), x)
	}
}

// history makes trees from one another by requests, and gives the transactions too. The tries have a
// limit: on a tree without nodes no request goes well.
func history(n *numbers, first impl.Tree, tries int) ([]impl.Tree, []impl.Txn) {
	trees := []impl.Tree{first}
	var txns []impl.Txn
	for range tries {
		last := trees[len(trees)-1]
		p := impl.Prepare(last, n.request(last), int64(len(txns)+1))
		if p.Code == 0 {
			trees = append(trees, impl.ApplyTxn(last, p.Txn))
			txns = append(txns, p.Txn)
		}
	}
	return trees, txns
}

// mixed takes for each path what one of the trees has there.
func mixed(n *numbers, trees []impl.Tree) impl.Tree {
	paths := modelTree{}
	for _, tree := range trees {
		for _, node := range tree.Nodes {
			paths[node.Path] = node
		}
	}
	out := modelTree{}
	for _, path := range paths.tree().Nodes {
		if node, found := modelOf(pick(n, trees...))[path.Path]; found {
			out[path.Path] = node
		}
	}
	return out.tree()
}

func applyAll(t impl.Tree, txns []impl.Txn) impl.Tree {
	for _, x := range txns {
		t = impl.ApplyTxn(t, x)
	}
	return t
}

// TestFuzzyTree is promise 6.
func TestFuzzyTree(t *testing.T) {
	n := &numbers{state: 6}
	accepted := 0
	for round := range 300 {
		first := impl.NewTree()
		if round%2 == 1 {
			first = n.anyTree(3)
		}
		trees, txns := history(n, first, 1+n.below(90))
		accepted += len(txns)
		last := trees[len(trees)-1]
		for range 6 {
			from := mixed(n, trees)
			if got := applyAll(from, txns); !sameTree(got, last) {
				t.Fatalf("%+v\nfrom %+v\nbecame %+v\nnot %+v", txns, from, got, last)
			}
		}
		for _, from := range trees {
			if got := applyAll(from, txns); !sameTree(got, last) {
				t.Fatalf("%+v\nfrom the tree %+v\nbecame %+v\nnot %+v", txns, from, got, last)
			}
		}
	}
	if accepted < 3000 {
		t.Errorf("only %d requests were accepted", accepted)
	}
}
