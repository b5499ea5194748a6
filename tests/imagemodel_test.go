package tests

import (
	"bytes"
	"encoding/binary"
	"slices"

	"loop.example/s01594/impl"
)

// The model of chapter 4 writes with the library's big-endian numbers. What it reads it finds by places
// in the bytes, and believes only if writing it again gives the same bytes.

func modelText(text string) []byte {
	return append([]byte{byte(len(text))}, text...)
}

func modelNodeImage(n impl.Node) []byte {
	out := append(modelText(n.Path), modelText(n.Data)...)
	for _, x := range []int64{n.Version, n.CVersion, n.Czxid, n.Mzxid, n.Pzxid} {
		out = binary.BigEndian.AppendUint32(out, uint32(x))
	}
	return out
}

// modelTreeImage and modelTxnImage ask nothing: tests write images of what is not valid with them.
func modelTreeImage(t impl.Tree) []byte {
	out := []byte{}
	for _, n := range t.Nodes {
		out = append(out, modelNodeImage(n)...)
	}
	return out
}

func modelTxnImage(x impl.Txn) []byte {
	out := binary.BigEndian.AppendUint32(nil, uint32(x.Zxid))
	out = binary.BigEndian.AppendUint16(out, uint16(len(x.Effects)))
	for _, e := range x.Effects {
		if e.Del {
			out = append(append(out, 2), modelText(e.Node.Path)...)
		} else {
			out = append(append(out, 1), modelNodeImage(e.Node)...)
		}
	}
	return out
}

func modelSuperImage(s impl.Super) []byte {
	out := make([]byte, 64)
	binary.BigEndian.PutUint64(out, uint64(s.Gen))
	out[8] = byte(s.Bank)
	binary.BigEndian.PutUint32(out[9:], uint32(s.Start))
	binary.BigEndian.PutUint32(out[13:], uint32(s.Len))
	binary.BigEndian.PutUint32(out[17:], uint32(s.Crc))
	binary.BigEndian.PutUint64(out[56:], uint64(s.Gen))
	return out
}

// modelTextAt gives the text at a place, and the place behind it; -1 if it is not all there.
func modelTextAt(data []byte, at int) (string, int) {
	if at < 0 || at >= len(data) || at+1+int(data[at]) > len(data) {
		return "", -1
	}
	end := at + 1 + int(data[at])
	return string(data[at+1 : end]), end
}

func modelNodeAt(data []byte, at int) (impl.Node, int) {
	var n impl.Node
	n.Path, at = modelTextAt(data, at)
	n.Data, at = modelTextAt(data, at)
	if at < 0 || at+20 > len(data) {
		return impl.Node{}, -1
	}
	number := func(i int) int64 { return int64(binary.BigEndian.Uint32(data[at+4*i:])) }
	n.Version, n.CVersion, n.Czxid, n.Mzxid, n.Pzxid = number(0), number(1), number(2), number(3), number(4)
	return n, at + 20
}

func modelDecodeTree(data []byte) impl.TreeResult {
	var t impl.Tree
	for at := 0; at < len(data); {
		var n impl.Node
		if n, at = modelNodeAt(data, at); at < 0 {
			return impl.TreeResult{}
		}
		t.Nodes = append(t.Nodes, n)
	}
	if !modelValid(t) || !bytes.Equal(modelTreeImage(t), data) {
		return impl.TreeResult{}
	}
	return impl.TreeResult{Good: true, Tree: t}
}

func modelValidTxn(x impl.Txn) bool {
	var nodes impl.Tree
	for _, e := range x.Effects {
		if e.Del && e.Node != (impl.Node{Path: e.Node.Path}) {
			return false
		}
		nodes.Nodes = append(nodes.Nodes, e.Node)
	}
	return x.Zxid >= 1 && x.Zxid <= 2147483647 && modelValid(nodes)
}

func modelDecodeTxn(data []byte) impl.TxnResult {
	if len(data) < 6 {
		return impl.TxnResult{}
	}
	x := impl.Txn{Zxid: int64(binary.BigEndian.Uint32(data))}
	for at := 6; at < len(data); {
		e := impl.Effect{Del: data[at] == 2}
		if e.Del {
			e.Node.Path, at = modelTextAt(data, at+1)
		} else {
			e.Node, at = modelNodeAt(data, at+1)
		}
		if at < 0 {
			return impl.TxnResult{}
		}
		x.Effects = append(x.Effects, e)
	}
	if !modelValidTxn(x) || !bytes.Equal(modelTxnImage(x), data) {
		return impl.TxnResult{}
	}
	return impl.TxnResult{Good: true, Txn: x}
}

func modelValidSuper(s impl.Super) bool {
	return s.Gen >= 1 && (s.Bank == 0 || s.Bank == 1) && s.Start >= 0 && s.Start <= 2147483647 &&
		s.Len >= 0 && s.Len <= 4096 && s.Crc >= 0 && s.Crc <= 4294967295
}

func modelDecodeSuper(block []byte) impl.SuperResult {
	if len(block) != 64 {
		return impl.SuperResult{}
	}
	word := func(at int) int64 { return int64(binary.BigEndian.Uint32(block[at:])) }
	s := impl.Super{Gen: int64(binary.BigEndian.Uint64(block)), Bank: int64(block[8]), Start: word(9), Len: word(13), Crc: word(17)}
	if !modelValidSuper(s) || !bytes.Equal(modelSuperImage(s), block) {
		return impl.SuperResult{}
	}
	return impl.SuperResult{Good: true, Super: s}
}

func sameTreeResult(a, b impl.TreeResult) bool {
	return a.Good == b.Good && sameTree(a.Tree, b.Tree)
}

func sameTxnResult(a, b impl.TxnResult) bool {
	return a.Good == b.Good && sameTxn(a.Txn, b.Txn)
}

// largestNode has every part of a node at its limit.
func largestNode(path string) impl.Node {
	data := make([]byte, impl.MaxData)
	for i := range data {
		data[i] = byte(255 - 4*i)
	}
	return impl.Node{Path: path, Data: string(data), Version: impl.MaxStat, CVersion: impl.MaxStat, Czxid: impl.MaxStat, Mzxid: impl.MaxStat, Pzxid: impl.MaxStat}
}

// anyTxn is valid: effects of both sorts on the paths of some tree.
func (n *numbers) anyTxn() impl.Txn {
	x := impl.Txn{Zxid: pick[int64](n, 1, 2, 255, 256, 65536, 16777216, impl.MaxStat-1, impl.MaxStat)}
	for _, node := range n.anyTree(x.Zxid).Nodes {
		x.Effects = append(x.Effects, pick(n, impl.Effect{Node: node}, drop(node.Path)))
	}
	return x
}

func (n *numbers) super() impl.Super {
	return impl.Super{
		Gen:   pick(n, 1, 2, 3, 255, 256, 257, 65535, 1<<32-1, 1<<32, 1<<56-1, 1<<56, 1<<63-2, 1<<63-1, 1+int64(n.next()), 1+int64(n.next())<<20),
		Bank:  int64(n.below(2)),
		Start: pick(n, 0, 1, 256, impl.MaxStat-1, impl.MaxStat, int64(n.next())),
		Len:   pick(n, 0, 1, 23, 255, 256, 4095, 4096, int64(n.below(4097))),
		Crc:   pick(n, 0, 1, 4294967294, 4294967295, int64(n.next()), int64(n.next())*2+1),
	}
}

// damaged changes the bytes in one of the ways in which bytes go wrong.
func (n *numbers) damaged(image []byte) []byte {
	out := bytes.Clone(image)
	if len(out) == 0 {
		return n.bytes(n.below(30))
	}
	at := n.below(len(out))
	switch n.below(7) {
	case 0:
		return out[:at]
	case 1:
		return out[at:]
	case 2:
		return append(out, n.bytes(1+n.below(30))...)
	case 3:
		return slices.Delete(out, at, at+1)
	case 4:
		return slices.Insert(out, at, byte(n.next()))
	case 5:
		out[at] ^= 1 << n.below(8)
	case 6:
		out[at] += byte(pick(n, 1, 255))
	}
	return out
}
