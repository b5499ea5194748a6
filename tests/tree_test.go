package tests

import (
	"slices"
	"strings"
	"testing"

	"loop.example/s01594/impl"
)

func TestTreeConstants(t *testing.T) {
	got := []int64{impl.MaxName, impl.MaxDepth, impl.MaxData, impl.MaxNodes, impl.MaxOps, impl.MaxEffects, impl.MaxStat,
		impl.OpCreate, impl.OpDelete, impl.OpSet, impl.OpCheck,
		impl.ErrArgs, impl.ErrNoNode, impl.ErrExists, impl.ErrVersion, impl.ErrNotEmpty, impl.ErrFull, impl.ErrTooLarge, impl.ErrNoSpace, impl.ErrInvalid}
	want := []int64{16, 6, 64, 1000, 64, 1000, 2147483647, 1, 2, 3, 4, 1, 2, 3, 4, 5, 6, 7, 8, 9}
	if !slices.Equal(got, want) {
		t.Errorf("%v", got)
	}
}

func TestValidPath(t *testing.T) {
	name := strings.Repeat("n", impl.MaxName)
	deep := strings.Repeat("/a", impl.MaxDepth)
	longest := strings.Repeat("/"+name, impl.MaxDepth)
	for _, path := range []string{"/", "/a", "/0", "/z/9", "/" + name, deep, longest} {
		if !impl.ValidPath(path) {
			t.Errorf("%q was refused", path)
		}
	}
	for _, path := range []string{"", "a", "a/b", "//", "///", "/a/", "//a", "/a//b", "/" + name + "n", "/a/" + name + "n",
		deep + "/a", longest + "/", longest + "/a", longest + "a", deep + "/", "/a b", " /a", "/a ", "/a\x00", "/\xc3\xa4", strings.Repeat("/", 500)} {
		if impl.ValidPath(path) {
			t.Errorf("%q was accepted", path)
		}
	}
}

func TestValidPathBytes(t *testing.T) {
	for b := range 256 {
		letter := string([]byte{byte(b)})
		want := strings.Contains("abcdefghijklmnopqrstuvwxyz0123456789", letter)
		for _, path := range []string{"/" + letter, "/a" + letter, "/" + letter + "a", "/a" + letter + "b", "/a/" + letter} {
			if b != '/' && impl.ValidPath(path) != want {
				t.Errorf("%q: %v", path, !want)
			}
		}
		if impl.ValidPath(letter+"a") != (b == '/') {
			t.Errorf("%q", letter+"a")
		}
	}
	n := &numbers{state: 31}
	for range 20000 {
		text := make([]byte, n.below(9))
		for i := range text {
			text[i] = pick[byte](n, '/', '/', 'a', 'z', '0', '9', '`', '{', ':', '.')
		}
		if path := string(text); impl.ValidPath(path) != modelPath.MatchString(path) {
			t.Errorf("%q: %v", path, impl.ValidPath(path))
		}
	}
}

func TestNewTree(t *testing.T) {
	if got := impl.NewTree(); !slices.Equal(got.Nodes, []impl.Node{{Path: "/"}}) || !impl.ValidTree(got) {
		t.Errorf("%+v", got)
	}
	first := impl.NewTree()
	first.Nodes[0].Version = 7
	if impl.NewTree().Nodes[0].Version != 0 {
		t.Error("two new trees share their node")
	}
}

func TestValidTree(t *testing.T) {
	good := []impl.Tree{{}, {Nodes: []impl.Node{}}, impl.NewTree(), pathTree("/a/b/c"), pathTree("/", "/a", "/a/b", "/a0", "/b"), wideTree(impl.MaxNodes)}
	for i, tree := range good {
		if !impl.ValidTree(tree) {
			t.Errorf("tree %d was refused", i)
		}
	}
	bad := []impl.Tree{
		wideTree(impl.MaxNodes + 1),
		{Nodes: []impl.Node{{Path: ""}}},
		{Nodes: []impl.Node{{}}},
		{Nodes: []impl.Node{{Path: "/a"}, {Path: "/a"}}},
		{Nodes: []impl.Node{{Path: "/a"}, {Path: "/"}}},
		{Nodes: []impl.Node{{Path: "/"}, {Path: "/b"}, {Path: "/a"}}},
		{Nodes: []impl.Node{{Path: "/"}, {Path: "/a0"}, {Path: "/a/b"}}},
		{Nodes: []impl.Node{{Path: "/"}, {Path: "/a"}, {Path: "/b/"}}},
	}
	for i, tree := range bad {
		if impl.ValidTree(tree) {
			t.Errorf("bad tree %d was accepted", i)
		}
	}
}

// nodeFields gives the node with one of its five numbers changed.
func nodeFields(n impl.Node, x int64) []impl.Node {
	out := []impl.Node{n, n, n, n, n}
	out[0].Version, out[1].CVersion, out[2].Czxid, out[3].Mzxid, out[4].Pzxid = x, x, x, x, x
	return out
}

func TestValidNodes(t *testing.T) {
	limits := map[int64]bool{-1 << 63: false, -1: false, 0: true, 1: true, impl.MaxStat: true, impl.MaxStat + 1: false, 1<<63 - 1: false}
	for x, want := range limits {
		for i, node := range nodeFields(impl.Node{Path: "/a"}, x) {
			tree := impl.Tree{Nodes: []impl.Node{{Path: "/"}, node}}
			if impl.ValidTree(tree) != want {
				t.Errorf("number %d of a tree's node as %d: %v", i, x, !want)
			}
			if impl.ValidTxn(impl.Txn{Zxid: 1, Effects: []impl.Effect{{Node: node}}}) != want {
				t.Errorf("number %d of an effect's node as %d: %v", i, x, !want)
			}
		}
	}
	for size, want := range map[int]bool{0: true, 1: true, impl.MaxData: true, impl.MaxData + 1: false, 9999: false} {
		node := impl.Node{Path: "/", Data: strings.Repeat("\xff", size)}
		if impl.ValidTree(impl.Tree{Nodes: []impl.Node{node}}) != want || impl.ValidTxn(impl.Txn{Zxid: 1, Effects: []impl.Effect{{Node: node}}}) != want {
			t.Errorf("%d bytes of data: %v", size, !want)
		}
	}
}

func TestChildren(t *testing.T) {
	tree := pathTree("/", "/a", "/a/b", "/a/b/c", "/a/b0", "/a0", "/a0/x", "/b/c/d", "/b/e", "/c", "/c/d/e/f")
	want := map[string]string{"/": "a a0 c", "/a": "b b0", "/a/b": "c", "/a/b/c": "", "/a0": "x", "/b": "e", "/b/c": "d",
		"/c": "", "/c/d": "", "/c/d/e": "f", "/z": "", "": "", "a": "", "/a/": "", "//": "", "/A": "", "/a/b/c/d/e/f/g": ""}
	for path, names := range want {
		if got := strings.Join(impl.Children(tree, path), " "); got != names {
			t.Errorf("children of %q: %q, not %q", path, got, names)
		}
	}
	if got := impl.Children(pathTree("/a", "/b/c"), "/"); !slices.Equal(got, []string{"a"}) {
		t.Errorf("without the root: %q", got)
	}
	if got := impl.Children(wideTree(impl.MaxNodes), "/"); len(got) != impl.MaxNodes-1 || !slices.IsSorted(got) {
		t.Errorf("%d children", len(got))
	}
	if got := impl.Children(wideTree(impl.MaxNodes+1), "/"); len(got) != 0 {
		t.Errorf("%d children of a tree with too many nodes", len(got))
	}
	tree.Nodes[3].Path = "/a"
	if got := impl.Children(tree, "/"); len(got) != 0 {
		t.Errorf("%q in a tree that is not valid", got)
	}
}

func TestChildrenOfAny(t *testing.T) {
	n := &numbers{state: 32}
	for range 2000 {
		tree := n.anyTree(5)
		for _, path := range []string{"/", n.path(), n.path(), modelParent(n.path())} {
			if got := impl.Children(tree, path); !slices.Equal(got, modelOf(tree).children(path)) {
				t.Errorf("children of %s in %+v: %q", path, tree, got)
			}
		}
	}
}
