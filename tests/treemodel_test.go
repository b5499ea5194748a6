package tests

import (
	"fmt"
	"maps"
	"regexp"
	"slices"
	"strings"

	"loop.example/s01594/impl"
)

// The model follows the words of the document's chapter 3 on a map from path to node.
type modelTree map[string]impl.Node

var modelPath = regexp.MustCompile(`\A(/|(/[a-z0-9]{1,16}){1,6})\z`)

func modelOf(t impl.Tree) modelTree {
	m := modelTree{}
	for _, n := range t.Nodes {
		m[n.Path] = n
	}
	return m
}

func (m modelTree) tree() impl.Tree {
	var t impl.Tree
	for _, path := range slices.Sorted(maps.Keys(m)) {
		t.Nodes = append(t.Nodes, m[path])
	}
	return t
}

func modelParent(path string) string {
	names := strings.Split(path, "/")
	if len(names) == 2 {
		return "/"
	}
	return strings.Join(names[:len(names)-1], "/")
}

func (m modelTree) children(path string) []string {
	var out []string
	for p := range m {
		if p != "/" && modelParent(p) == path {
			names := strings.Split(p, "/")
			out = append(out, names[len(names)-1])
		}
	}
	slices.Sort(out)
	return out
}

func modelMore(x int64) int64 {
	if x == impl.MaxStat {
		return x
	}
	return x + 1
}

func (m modelTree) touch(path string, zxid int64) {
	if n, found := m[modelParent(path)]; found {
		n.CVersion = modelMore(n.CVersion)
		n.Pzxid = zxid
		m[n.Path] = n
	}
}

func modelFormed(o impl.Op) bool {
	create, set := o.Kind == impl.OpCreate, o.Kind == impl.OpSet
	remove, check := o.Kind == impl.OpDelete, o.Kind == impl.OpCheck
	switch {
	case !create && !set && !remove && !check:
		return false
	case !modelPath.MatchString(o.Path):
		return false
	case len(o.Data) > 64, (remove || check) && len(o.Data) != 0:
		return false
	case create && o.Version != 0, !create && (o.Version < -1 || o.Version > 2147483647):
		return false
	case o.Seq && !create:
		return false
	}
	return o.Path != "/" || set || check
}

func (m modelTree) do(o impl.Op, zxid int64) (string, int64) {
	if !modelFormed(o) {
		return "", 1
	}
	if o.Kind == impl.OpCreate {
		return m.create(o, zxid)
	}
	n, found := m[o.Path]
	switch {
	case !found:
		return "", 2
	case o.Version != -1 && o.Version != n.Version:
		return "", 4
	case o.Kind == impl.OpDelete && len(m.children(o.Path)) > 0:
		return "", 5
	case o.Kind == impl.OpDelete:
		delete(m, o.Path)
		m.touch(o.Path, zxid)
	case o.Kind == impl.OpSet:
		n.Data, n.Version, n.Mzxid = o.Data, modelMore(n.Version), zxid
		m[o.Path] = n
	}
	return o.Path, 0
}

func (m modelTree) create(o impl.Op, zxid int64) (string, int64) {
	parent, found := m[modelParent(o.Path)]
	if !found {
		return "", 2
	}
	path := o.Path
	if o.Seq {
		path = fmt.Sprintf("%s%06d", path, parent.CVersion)
	}
	if !modelPath.MatchString(path) {
		return "", 1
	}
	if _, there := m[path]; there {
		return "", 3
	}
	if len(m) == 1000 {
		return "", 6
	}
	m[path] = impl.Node{Path: path, Data: o.Data, Czxid: zxid, Mzxid: zxid, Pzxid: zxid}
	m.touch(path, zxid)
	return path, 0
}

func modelValid(t impl.Tree) bool {
	if len(t.Nodes) > 1000 {
		return false
	}
	for i, n := range t.Nodes {
		if !modelPath.MatchString(n.Path) || len(n.Data) > 64 || i > 0 && n.Path <= t.Nodes[i-1].Path {
			return false
		}
		for _, x := range []int64{n.Version, n.CVersion, n.Czxid, n.Mzxid, n.Pzxid} {
			if x < 0 || x > 2147483647 {
				return false
			}
		}
	}
	return true
}

// modelPrepare gives the answer and the tree that the operations make.
func modelPrepare(t impl.Tree, r impl.Request, zxid int64) (impl.Prepared, impl.Tree) {
	if !modelValid(t) || len(r.Ops) < 1 || len(r.Ops) > 64 || zxid < 1 || zxid > 2147483647 {
		return impl.Prepared{Code: 9}, impl.Tree{}
	}
	before, after := modelOf(t), modelOf(t)
	p := impl.Prepared{Txn: impl.Txn{Zxid: zxid}}
	for i, o := range r.Ops {
		name, code := after.do(o, zxid)
		if code != 0 {
			return impl.Prepared{Code: code, Index: int64(i)}, impl.Tree{}
		}
		p.Names = append(p.Names, name)
	}
	p.Txn.Effects = modelEffects(before, after)
	return p, after.tree()
}

func modelEffects(before, after modelTree) []impl.Effect {
	union := maps.Clone(before)
	maps.Copy(union, after)
	var out []impl.Effect
	for _, path := range slices.Sorted(maps.Keys(union)) {
		old, had := before[path]
		now, has := after[path]
		if !has {
			out = append(out, impl.Effect{Del: true, Node: impl.Node{Path: path}})
		} else if !had || old != now {
			out = append(out, impl.Effect{Node: now})
		}
	}
	return out
}

func samePrepared(a, b impl.Prepared) bool {
	return a.Code == b.Code && a.Index == b.Index && slices.Equal(a.Names, b.Names) && sameTxn(a.Txn, b.Txn)
}

func sameTxn(a, b impl.Txn) bool {
	return a.Zxid == b.Zxid && slices.Equal(a.Effects, b.Effects)
}

func sameTree(a, b impl.Tree) bool {
	return slices.Equal(a.Nodes, b.Nodes)
}
