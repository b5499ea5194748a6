package tests

import (
	"slices"
	"strconv"
	"strings"

	"loop.example/s01594/impl"
)

func pick[V any](n *numbers, from ...V) V {
	return from[n.below(len(from))]
}

func request(ops ...impl.Op) impl.Request {
	return impl.Request{Ops: ops}
}

func create(path, data string) impl.Op {
	return impl.Op{Kind: impl.OpCreate, Path: path, Data: data}
}

func createSeq(path, data string) impl.Op {
	return impl.Op{Kind: impl.OpCreate, Path: path, Data: data, Seq: true}
}

func remove(path string, version int64) impl.Op {
	return impl.Op{Kind: impl.OpDelete, Path: path, Version: version}
}

func set(path, data string, version int64) impl.Op {
	return impl.Op{Kind: impl.OpSet, Path: path, Data: data, Version: version}
}

func check(path string, version int64) impl.Op {
	return impl.Op{Kind: impl.OpCheck, Path: path, Version: version}
}

// pathTree is a tree with these paths, each node with numbers of its own.
func pathTree(paths ...string) impl.Tree {
	var t impl.Tree
	for i, path := range slices.Sorted(slices.Values(paths)) {
		at := int64(i)
		t.Nodes = append(t.Nodes, impl.Node{Path: path, Data: "d" + path[1:min(len(path), 60)], Version: at, CVersion: at + 1, Czxid: at + 2, Mzxid: at + 3, Pzxid: at + 4})
	}
	return t
}

// wideTree is the root and so many nodes that the tree has count of them.
func wideTree(count int) impl.Tree {
	paths := []string{"/"}
	for i := 1; i < count; i++ {
		paths = append(paths, "/n"+strconv.Itoa(i))
	}
	return pathTree(paths...)
}

func (n *numbers) path() string {
	depth := pick(n, 1, 1, 1, 2, 2, 3, 4, 6)
	path := ""
	for range depth {
		path += "/" + pick(n, "a", "a", "b", "b", "a0", "0", "z9")
	}
	return path
}

func (n *numbers) stat(zxid int64) int64 {
	return pick(n, 0, 0, 1, 2, zxid, 999999, 1000000, impl.MaxStat-1, impl.MaxStat)
}

func (n *numbers) data() string {
	return pick(n, "", "", "x", "y", "\x00\xff ", strings.Repeat("m", 64))
}

func (n *numbers) node(path string, zxid int64) impl.Node {
	return impl.Node{Path: path, Data: n.data(), Version: n.stat(zxid), CVersion: n.stat(zxid),
		Czxid: n.stat(zxid), Mzxid: n.stat(zxid), Pzxid: n.stat(zxid)}
}

// anyTree may lack parents, and the root too.
func (n *numbers) anyTree(zxid int64) impl.Tree {
	m := modelTree{}
	if n.below(8) > 0 {
		m["/"] = n.node("/", zxid)
	}
	for range n.below(12) {
		path := n.path()
		m[path] = n.node(path, zxid)
		if parent := modelParent(path); n.below(3) > 0 {
			m[parent] = n.node(parent, zxid)
		}
	}
	return m.tree()
}

// op is mostly one that goes well on the tree.
func (n *numbers) op(t impl.Tree) impl.Op {
	path, version := n.path(), int64(-1)
	if len(t.Nodes) > 0 && n.below(5) > 0 {
		known := pick(n, t.Nodes...)
		path, version = known.Path, pick(n, -1, -1, -1, known.Version, known.Version, known.Version+1)
	}
	below := strings.TrimSuffix(path, "/") + "/" + pick(n, "a", "b", "c", "d", "0123456789", "0123456789a")
	switch n.below(8) {
	case 0, 1:
		return create(below, n.data())
	case 2:
		return createSeq(below, n.data())
	case 3, 4:
		return remove(path, version)
	case 5, 6:
		return set(path, n.data(), version)
	}
	return check(path, version)
}

// bent makes an operation worse in one field.
func (n *numbers) bent(o impl.Op) impl.Op {
	switch n.below(5) {
	case 0:
		o.Kind = pick[int64](n, -1, 0, 1, 2, 3, 4, 5, 1<<40)
	case 1:
		o.Path = pick(n, "", "/", "a", "//", "/a/", "/A", "/a\n", "/a/b/c/d/e/f/g", "/0123456789abcdefg", o.Path+"/")
	case 2:
		o.Data = pick(n, "", "q", strings.Repeat("q", 64), strings.Repeat("q", 65))
	case 3:
		o.Version = pick[int64](n, -2, -1, 0, 1, impl.MaxStat, impl.MaxStat+1)
	case 4:
		o.Seq = !o.Seq
	}
	return o
}

func (n *numbers) request(t impl.Tree) impl.Request {
	var r impl.Request
	for range pick(n, 1, 1, 2, 3, 4, 6) {
		o := n.op(t)
		if n.below(12) == 0 {
			o = n.bent(o)
		}
		r.Ops = append(r.Ops, o)
	}
	return r
}
