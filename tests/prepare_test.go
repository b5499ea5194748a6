package tests

import (
	"slices"
	"strings"
	"testing"

	"loop.example/s01594/impl"
)

func checkPrepare(t *testing.T, name string, tree impl.Tree, r impl.Request, zxid int64, want impl.Prepared) {
	t.Helper()
	if got := impl.Prepare(tree, r, zxid); !samePrepared(got, want) {
		t.Errorf("%s: %+v, not %+v", name, got, want)
	}
}

func checkCode(t *testing.T, name string, tree impl.Tree, r impl.Request, code, index int64) {
	t.Helper()
	checkPrepare(t, name, tree, r, 9, impl.Prepared{Code: code, Index: index})
}

func checkAccepted(t *testing.T, name string, tree impl.Tree, r impl.Request) impl.Prepared {
	t.Helper()
	p := impl.Prepare(tree, r, 9)
	if p.Code != 0 || p.Index != 0 || len(p.Names) != len(r.Ops) || p.Txn.Zxid != 9 {
		t.Fatalf("%s: %+v", name, p)
	}
	return p
}

// checkEffects asks for the effects, and that they make the one tree of the other.
func checkEffects(t *testing.T, name string, tree impl.Tree, r impl.Request, want ...impl.Effect) {
	t.Helper()
	p := checkAccepted(t, name, tree, r)
	if !slices.Equal(p.Txn.Effects, want) {
		t.Errorf("%s: %+v, not %+v", name, p.Txn.Effects, want)
	}
}

func TestPrepareRefusesWhole(t *testing.T) {
	look := check("/", -1)
	good, tree := request(look), impl.NewTree()
	refused := impl.Prepared{Code: impl.ErrInvalid}
	for zxid, accepted := range map[int64]bool{-1 << 63: false, -1: false, 0: false, 1: true, impl.MaxStat: true, impl.MaxStat + 1: false, 1<<63 - 1: false} {
		want := refused
		if accepted {
			want = impl.Prepared{Names: []string{"/"}, Txn: impl.Txn{Zxid: zxid}}
		}
		checkPrepare(t, "zxid", tree, good, zxid, want)
	}
	checkPrepare(t, "no operations", tree, impl.Request{}, 9, refused)
	checkAccepted(t, "as many operations as may be", tree, impl.Request{Ops: slices.Repeat([]impl.Op{look}, impl.MaxOps)})
	checkPrepare(t, "one operation too many", tree, impl.Request{Ops: slices.Repeat([]impl.Op{look}, impl.MaxOps+1)}, 9, refused)
	checkAccepted(t, "a full tree", wideTree(impl.MaxNodes), good)
	checkPrepare(t, "a node too many", wideTree(impl.MaxNodes+1), good, 9, refused)
	checkPrepare(t, "not ascending", impl.Tree{Nodes: []impl.Node{{Path: "/a"}, {Path: "/"}}}, good, 9, refused)
	checkPrepare(t, "a bad number", impl.Tree{Nodes: []impl.Node{{Path: "/", Pzxid: -1}}}, good, 9, refused)
	checkPrepare(t, "a bad operation too", tree, request(impl.Op{}), 0, refused)
	checkCode(t, "no node at all", impl.Tree{}, good, impl.ErrNoNode, 0)
}

func TestPrepareForm(t *testing.T) {
	tree := impl.Tree{Nodes: []impl.Node{{Path: "/"}, {Path: "/a", Version: impl.MaxStat}, {Path: "/b"}}}
	full := strings.Repeat("d", impl.MaxData)
	good := []impl.Op{create("/c", full), createSeq("/c", full), set("/a", full, impl.MaxStat), set("/", full, -1), set("/b", "", 0),
		remove("/a", impl.MaxStat), remove("/b", -1), check("/", 0), check("/", -1), check("/a", impl.MaxStat)}
	for _, o := range good {
		checkAccepted(t, "well-formed", tree, request(o))
	}
	var bad []impl.Op
	for _, kind := range []int64{-1 << 63, -1, 0, 5, 6, 1 << 32, 1<<32 + 1, 1<<63 - 1} {
		bad = append(bad, impl.Op{Kind: kind, Path: "/a"})
	}
	for kind := int64(impl.OpCreate); kind <= impl.OpCheck; kind++ {
		for _, path := range []string{"", "b", "/b/", "//", "/B", "/b/b/b/b/b/b/b", "/bbbbbbbbbbbbbbbbb"} {
			bad = append(bad, impl.Op{Kind: kind, Path: path})
		}
		bad = append(bad, impl.Op{Kind: kind, Path: "/b", Data: full + "d"}, impl.Op{Kind: kind, Path: "/c", Version: -2}, impl.Op{Kind: kind, Path: "/c", Version: impl.MaxStat + 1})
	}
	bad = append(bad, create("/", ""), createSeq("/", ""), remove("/", -1), remove("/", 0),
		impl.Op{Kind: impl.OpDelete, Path: "/b", Data: "x"}, impl.Op{Kind: impl.OpCheck, Path: "/b", Data: "x"},
		impl.Op{Kind: impl.OpCreate, Path: "/c", Version: 1}, impl.Op{Kind: impl.OpCreate, Path: "/c", Version: -1},
		impl.Op{Kind: impl.OpDelete, Path: "/b", Seq: true}, impl.Op{Kind: impl.OpSet, Path: "/b", Seq: true}, impl.Op{Kind: impl.OpCheck, Path: "/b", Seq: true})
	for _, o := range bad {
		checkPrepare(t, "not well-formed", tree, request(o), 9, impl.Prepared{Code: impl.ErrArgs})
		checkCode(t, "not well-formed, as the second", tree, request(check("/", 0), o), impl.ErrArgs, 1)
	}
}

func TestPrepareOrderOfCodes(t *testing.T) {
	tree := pathTree("/", "/a", "/a/b", "/a/b/c")
	version := tree.Nodes[1].Version
	tree.Nodes[1].CVersion = impl.MaxStat
	cases := []struct {
		op   impl.Op
		code int64
	}{
		{create("/x/y", ""), impl.ErrNoNode},
		{createSeq("/x/0123456789abcdef", ""), impl.ErrNoNode},
		{createSeq("/0123456789a", ""), impl.ErrArgs},
		{createSeq("/a/0123456", ""), impl.ErrArgs},
		{createSeq("/a/012345", ""), 0},
		{create("/a/b", ""), impl.ErrExists},
		{impl.Op{Kind: impl.OpCreate, Path: "/x/y", Version: 1}, impl.ErrArgs},
		{remove("/x", 5), impl.ErrNoNode},
		{set("/x", "", 5), impl.ErrNoNode},
		{check("/x", 5), impl.ErrNoNode},
		{remove("/a", version+1), impl.ErrVersion},
		{set("/a", "", version+1), impl.ErrVersion},
		{check("/a", version+1), impl.ErrVersion},
		{remove("/a", version), impl.ErrNotEmpty},
		{remove("/a", -1), impl.ErrNotEmpty},
		{remove("/a/b/c", -1), 0},
	}
	for _, c := range cases {
		if c.code == 0 {
			checkAccepted(t, "order", tree, request(c.op))
			continue
		}
		checkCode(t, "alone", tree, request(c.op), c.code, 0)
		checkCode(t, "behind others", tree, request(check("/", -1), create("/q", "x"), c.op, impl.Op{}), c.code, 2)
	}
}

func TestPrepareFull(t *testing.T) {
	full, nearly := wideTree(impl.MaxNodes), wideTree(impl.MaxNodes-1)
	checkCode(t, "full", full, request(create("/x", "")), impl.ErrFull, 0)
	checkCode(t, "full and there", full, request(create("/n7", "")), impl.ErrExists, 0)
	checkCode(t, "full and no parent", full, request(create("/x/y", "")), impl.ErrNoNode, 0)
	checkCode(t, "full and a long name", full, request(createSeq("/0123456789abcdef", "")), impl.ErrArgs, 0)
	checkCode(t, "filled on the way", nearly, request(create("/x", ""), check("/", -1), create("/y", "")), impl.ErrFull, 2)
	p := checkAccepted(t, "room for one", nearly, request(create("/x", "")))
	if got := impl.ApplyTxn(nearly, p.Txn); len(got.Nodes) != impl.MaxNodes || !impl.ValidTree(got) {
		t.Errorf("%d nodes", len(got.Nodes))
	}
	checkAccepted(t, "room made on the way", full, request(remove("/n7", -1), create("/x", "")))
	checkCode(t, "room made too late", full, request(create("/x", ""), remove("/n7", -1)), impl.ErrFull, 0)
}

func TestPrepareStats(t *testing.T) {
	root := impl.Node{Path: "/", Data: "r", Version: 3, CVersion: 4, Czxid: 1, Mzxid: 2, Pzxid: 5}
	child := impl.Node{Path: "/a", Data: "x", Version: 6, CVersion: 7, Czxid: 3, Mzxid: 4, Pzxid: 6}
	tree := impl.Tree{Nodes: []impl.Node{root, child}}
	rootAfter, childSet := root, child
	rootAfter.CVersion, rootAfter.Pzxid = 5, 9
	childSet.Data, childSet.Version, childSet.Mzxid = "new", 7, 9
	created := impl.Node{Path: "/b", Data: "y", Czxid: 9, Mzxid: 9, Pzxid: 9}
	childAfter := child
	childAfter.CVersion, childAfter.Pzxid = 8, 9
	checkEffects(t, "create", tree, request(create("/b", "y")), impl.Effect{Node: rootAfter}, impl.Effect{Node: created})
	created.Path = "/a/b"
	checkEffects(t, "create below", tree, request(create("/a/b", "y")), impl.Effect{Node: childAfter}, impl.Effect{Node: created})
	checkEffects(t, "delete", tree, request(remove("/a", 6)), impl.Effect{Node: rootAfter}, impl.Effect{Del: true, Node: impl.Node{Path: "/a"}})
	checkEffects(t, "set", tree, request(set("/a", "new", 6)), impl.Effect{Node: childSet})
	checkEffects(t, "check", tree, request(check("/a", 6), check("/", 3)))
	childSet.Data = "x"
	checkEffects(t, "set to the same", tree, request(set("/a", "x", -1)), impl.Effect{Node: childSet})
}

func TestPrepareSeesEarlier(t *testing.T) {
	tree := impl.NewTree()
	checkCode(t, "set twice", tree, request(create("/a", ""), set("/a", "x", 0), set("/a", "y", 0)), impl.ErrVersion, 2)
	checkAccepted(t, "set twice", tree, request(create("/a", ""), set("/a", "x", 0), set("/a", "y", 1), check("/a", 2)))
	checkCode(t, "gone", tree, request(create("/a", ""), remove("/a", 0), check("/a", -1)), impl.ErrNoNode, 2)
	checkCode(t, "there already", tree, request(create("/a", ""), create("/a", "")), impl.ErrExists, 1)
	checkCode(t, "a child now", tree, request(create("/a", ""), create("/a/b", ""), remove("/a", 0)), impl.ErrNotEmpty, 2)
	checkAccepted(t, "no child now", tree, request(create("/a", ""), create("/a/b", ""), remove("/a/b", 0), remove("/a", 0)))
	checkCode(t, "parent gone", tree, request(create("/a", ""), remove("/a", 0), create("/a/b", "")), impl.ErrNoNode, 2)
}

func TestPrepareNames(t *testing.T) {
	suffixes := map[int64]string{0: "000000", 7: "000007", 99999: "099999", 999999: "999999", 1000000: "1000000", impl.MaxStat: "2147483647"}
	for number, suffix := range suffixes {
		tree := impl.Tree{Nodes: []impl.Node{{Path: "/", CVersion: number}}}
		fits := "/" + strings.Repeat("p", impl.MaxName-len(suffix))
		p := checkAccepted(t, suffix, tree, request(createSeq(fits, "x")))
		if p.Names[0] != fits+suffix || p.Txn.Effects[1].Node.Path != fits+suffix || p.Txn.Effects[1].Node.Data != "x" {
			t.Errorf("%d: %+v", number, p)
		}
		checkCode(t, "a byte too many", tree, request(createSeq(fits+"p", "")), impl.ErrArgs, 0)
	}
	p := checkAccepted(t, "names", impl.NewTree(), request(createSeq("/q", ""), set("/", "", 0), createSeq("/q", ""), remove("/q000000", -1), createSeq("/q", ""), check("/", -1)))
	if got := strings.Join(p.Names, " "); got != "/q000000 / /q000001 /q000000 /q000003 /" {
		t.Errorf("%s", got)
	}
	there := impl.Tree{Nodes: []impl.Node{{Path: "/", CVersion: 5}, {Path: "/q000005"}}}
	checkCode(t, "the name with its suffix is there", there, request(createSeq("/q", "")), impl.ErrExists, 0)
	plain := impl.Tree{Nodes: []impl.Node{{Path: "/", CVersion: 5}, {Path: "/q"}}}
	checkAccepted(t, "only the name without is there", plain, request(createSeq("/q", "")))
}

func TestPrepareUndo(t *testing.T) {
	top := impl.Node{Path: "/", CVersion: impl.MaxStat, Pzxid: 9}
	fresh := impl.Node{Path: "/a", Data: "x", Czxid: 9, Mzxid: 9, Pzxid: 9}
	tree := impl.Tree{Nodes: []impl.Node{top, fresh}}
	checkEffects(t, "created and deleted", tree, request(create("/b", ""), remove("/b", -1)))
	checkEffects(t, "deleted and created", tree, request(remove("/a", -1), create("/a", "x")))
	checkEffects(t, "deleted and created otherwise", tree, request(remove("/a", -1), create("/a", "")), impl.Effect{Node: impl.Node{Path: "/a", Czxid: 9, Mzxid: 9, Pzxid: 9}})
	count := impl.Effect{Node: impl.Node{Path: "/", CVersion: 2, Pzxid: 9}}
	checkEffects(t, "only the parent counts", impl.NewTree(), request(create("/b", ""), remove("/b", -1)), count)
	worn := impl.Tree{Nodes: []impl.Node{{Path: "/", Data: "x", Version: impl.MaxStat, Mzxid: 9}}}
	checkEffects(t, "a set that changes nothing", worn, request(set("/", "y", -1), set("/", "x", impl.MaxStat)))
	checkEffects(t, "a set that changes data", worn, request(set("/", "y", -1)), impl.Effect{Node: impl.Node{Path: "/", Data: "y", Version: impl.MaxStat, Mzxid: 9}})
}

func TestPrepareAtMaxStat(t *testing.T) {
	for _, number := range []int64{impl.MaxStat - 1, impl.MaxStat} {
		tree := impl.Tree{Nodes: []impl.Node{{Path: "/", Version: number, CVersion: number}}}
		counted := impl.Node{Path: "/", Version: number, CVersion: impl.MaxStat, Pzxid: 9}
		checkEffects(t, "create", tree, request(create("/b", "")), impl.Effect{Node: counted}, impl.Effect{Node: impl.Node{Path: "/b", Czxid: 9, Mzxid: 9, Pzxid: 9}})
		checkEffects(t, "set", tree, request(set("/", "", number)), impl.Effect{Node: impl.Node{Path: "/", Version: impl.MaxStat, CVersion: number, Mzxid: 9}})
		checkEffects(t, "both ways", tree, request(create("/b", ""), remove("/b", 0)), impl.Effect{Node: counted})
	}
}

func TestPrepareMissingParents(t *testing.T) {
	tree := pathTree("/a/b/c", "/a/b/c/d/e")
	gone := impl.Effect{Del: true, Node: impl.Node{Path: "/a/b/c"}}
	checkEffects(t, "no parent, and no child but one further below", tree, request(remove("/a/b/c", -1)), gone)
	checkCode(t, "no root", tree, request(create("/x", "")), impl.ErrNoNode, 0)
	checkCode(t, "no parent", tree, request(create("/a/b/x", "")), impl.ErrNoNode, 0)
	checkCode(t, "parent is only further above", tree, request(create("/a/b/c/d/x", "")), impl.ErrNoNode, 0)
	checkCode(t, "it lacks itself", tree, request(remove("/a/b", -1)), impl.ErrNoNode, 0)
	checkAccepted(t, "the parent is made", tree, request(create("/a/b/c/d", "")))
	checkCode(t, "then it has a child", tree, request(create("/a/b/c/d", ""), remove("/a/b/c/d", 0)), impl.ErrNotEmpty, 1)
	checkAccepted(t, "neighbours are no children", pathTree("/", "/a", "/a0", "/a0/b"), request(remove("/a", -1)))
}

// TestPrepareLikeModel is promise 5 over many trees and requests.
func TestPrepareLikeModel(t *testing.T) {
	n := &numbers{state: 5}
	seen := map[int64]int{}
	for range 30000 {
		zxid := pick[int64](n, 1, 5, 1000000, impl.MaxStat)
		tree := n.anyTree(zxid)
		r := n.request(tree)
		want, after := modelPrepare(tree, r, zxid)
		got := impl.Prepare(tree, r, zxid)
		if !samePrepared(got, want) {
			t.Fatalf("%+v\nof %+v\ngave %+v\nnot %+v", r, tree, got, want)
		}
		seen[got.Code]++
		if got.Code != 0 {
			continue
		}
		once := impl.ApplyTxn(tree, got.Txn)
		if !impl.ValidTxn(got.Txn) || !sameTree(once, after) || !sameTree(impl.ApplyTxn(once, got.Txn), after) {
			t.Fatalf("%+v\nof %+v\nmade %+v\nnot %+v", r, tree, once, after)
		}
	}
	for _, code := range []int64{0, impl.ErrArgs, impl.ErrNoNode, impl.ErrExists, impl.ErrVersion, impl.ErrNotEmpty} {
		if seen[code] < 200 {
			t.Errorf("code %d came only %d times", code, seen[code])
		}
	}
}
