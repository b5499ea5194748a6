package tests

import (
	"bytes"
	"math"
	"slices"
	"strings"
	"testing"

	"loop.example/s01594/impl"
)

// checkEncode asks that the call keeps its lists, and that two answers share no memory.
func checkEncode[V comparable](t *testing.T, name string, given []V, filler V, encode func([]V) []byte) {
	t.Helper()
	g := guard(given, filler)
	first, second := encode(g.list), encode(g.list)
	told := bytes.Clone(second)
	turn(first)
	if !g.kept() {
		t.Errorf("%s: the argument was written into", name)
	}
	spoil(g.list, filler)
	if !bytes.Equal(second, told) {
		t.Errorf("%s: the answer is memory of another answer", name)
	}
}

// checkDecode asks that the call writes nothing into its bytes or behind them, and that its answers stay
// as they are when the bytes change and when another answer is written over.
func checkDecode[V any](t *testing.T, name string, image []byte, decode func([]byte) V, spoiled func(V), same func(a, b V) bool) {
	t.Helper()
	data := spare(image)
	before := bytes.Clone(whole(data))
	first, second := decode(data), decode(data)
	if !bytes.Equal(whole(data), before) {
		t.Errorf("%s: the argument was written into", name)
	}
	spoiled(first)
	turn(data)
	if want := decode(image); !same(second, want) {
		t.Errorf("%s: the answer is memory of the argument or of another answer", name)
	}
}

func spoilTree(r impl.TreeResult) {
	spoil(r.Tree.Nodes, impl.Node{Path: "spoiled"})
}

func spoilTxn(r impl.TxnResult) {
	spoil(r.Txn.Effects, impl.Effect{Node: impl.Node{Path: "spoiled"}})
}

func TestImageMemory(t *testing.T) {
	n := &numbers{state: 74}
	for range 500 {
		tree, x, s := n.anyTree(5), n.anyTxn(), n.super()
		checkEncode(t, "EncodeTree", tree.Nodes, impl.Node{Path: "/spare"}, func(nodes []impl.Node) []byte {
			return impl.EncodeTree(impl.Tree{Nodes: nodes})
		})
		checkEncode(t, "EncodeTxn", x.Effects, put("/spare"), func(effects []impl.Effect) []byte {
			return impl.EncodeTxn(impl.Txn{Zxid: x.Zxid, Effects: effects})
		})
		checkEncode(t, "EncodeSuper", []impl.Super{s}, impl.Super{}, func(supers []impl.Super) []byte {
			return impl.EncodeSuper(supers[0])
		})
		for _, image := range [][]byte{impl.EncodeTree(tree), n.damaged(impl.EncodeTree(tree))} {
			checkDecode(t, "DecodeTree", image, impl.DecodeTree, spoilTree, sameTreeResult)
		}
		for _, image := range [][]byte{impl.EncodeTxn(x), n.damaged(impl.EncodeTxn(x))} {
			checkDecode(t, "DecodeTxn", image, impl.DecodeTxn, spoilTxn, sameTxnResult)
		}
		for _, image := range [][]byte{impl.EncodeSuper(s), n.damaged(impl.EncodeSuper(s))} {
			checkDecode(t, "DecodeSuper", image, impl.DecodeSuper, func(impl.SuperResult) {}, func(a, b impl.SuperResult) bool { return a == b })
		}
	}
}

// TestImagePanics hands bad forms to every function of the images: a panic fails the test.
func TestImagePanics(t *testing.T) {
	odd := []int64{math.MinInt64, -1, 0, 1, 2, 256, 4096, 4097, impl.MaxStat, impl.MaxStat + 1, math.MaxUint32, math.MaxUint32 + 1, math.MaxInt64}
	for _, path := range []string{"", "/", "/a", "//", "\xff", strings.Repeat("a", 255), strings.Repeat("/a", 128), strings.Repeat("/", 100000)} {
		for _, x := range odd {
			for _, node := range nodeFields(impl.Node{Path: path, Data: path}, x) {
				impl.EncodeTree(impl.Tree{Nodes: []impl.Node{node, node}})
				impl.EncodeTxn(impl.Txn{Zxid: x, Effects: []impl.Effect{{Node: node}}})
				impl.EncodeTxn(impl.Txn{Zxid: 1, Effects: []impl.Effect{{Del: true, Node: node}}})
			}
			for _, y := range odd {
				impl.EncodeSuper(impl.Super{Gen: x, Bank: y, Start: x, Len: y, Crc: x})
				impl.EncodeSuper(impl.Super{Gen: 1, Bank: 1, Start: y, Len: x, Crc: y})
			}
		}
	}
	impl.EncodeTree(wideTree(70000))
	impl.EncodeTxn(wideTxn(70000))
	n := &numbers{state: 75}
	lists := [][]byte{nil, {}, make([]byte, 100000), bytes.Repeat([]byte{255}, 100000), bytes.Repeat([]byte{1}, 100000), bytes.Repeat([]byte{2, 1, '/'}, 70000)}
	for size := range 300 {
		lists = append(lists, make([]byte, size), bytes.Repeat([]byte{255}, size), bytes.Repeat([]byte{1}, size), n.bytes(size))
	}
	for range 20000 {
		image := slices.Concat(n.bytes(n.below(8)), modelTxnImage(n.anyTxn()), modelTreeImage(n.anyTree(2)), n.bytes(n.below(8)))
		from := n.below(len(image))
		lists = append(lists, image[from:from+n.below(len(image)-from+1)])
	}
	for _, l := range lists {
		impl.DecodeTree(l)
		impl.DecodeTxn(l)
		impl.DecodeSuper(l)
	}
}
