package tests

import (
	"bytes"
	"fmt"
	"regexp"
	"slices"
	"strconv"
	"strings"

	"loop.example/s01594/impl"
)

// The model of chapter 6 follows its words: lines are told apart by patterns; a server makes a list of the
// disk operations of a line first, and does as many of them as the armed crash lets it.

const (
	modelNumber = `(?:0|-?[1-9][0-9]{0,8})`
	modelField  = `[!-~]+`
	// A field of an operation is not ";".
	modelOpField = `(?:[!-:<-~]|[!-~][!-~]+)`
	modelOpText  = `(?:(?:create|seq) ` + modelOpField + ` ` + modelOpField +
		`|(?:delete|check) ` + modelOpField + ` ` + modelNumber +
		`|set ` + modelOpField + ` ` + modelOpField + ` ` + modelNumber + `)`
)

var modelLines = []*regexp.Regexp{
	impl.LineRequest: regexp.MustCompile(`\A(?:` + modelOpText + `|multi ` + modelOpText + `(?: ; ` + modelOpText + `)*)\z`),
	impl.LineFlush:   regexp.MustCompile(`\Aflush\z`),
	impl.LineGet:     regexp.MustCompile(`\Aget ` + modelField + `\z`),
	impl.LineList:    regexp.MustCompile(`\Alist ` + modelField + `\z`),
	impl.LineDump:    regexp.MustCompile(`\Adump\z`),
	impl.LineSnap:    regexp.MustCompile(`\Asnap\z`),
	impl.LineStep:    regexp.MustCompile(`\Astep (?:[1-9][0-9]{0,2}|1000)\z`),
	impl.LineArm:     regexp.MustCompile(`\Aarm (?:[1-9][0-9]{0,3}|10000)(?: ` + modelNumber + `)*\z`),
	impl.LineCrash:   regexp.MustCompile(`\Acrash(?: ` + modelNumber + `)*\z`),
	impl.LineRot:     regexp.MustCompile(`\Arot [01] (?:0|[1-9][0-9]{0,2}|[1-3][0-9]{3}|40[0-8][0-9]|409[0-5]) (?:[1-9][0-9]?|1[0-9][0-9]|2[0-4][0-9]|25[0-5])\z`),
	impl.LineRecover: regexp.MustCompile(`\Arecover\z`),
	impl.LineStatus:  regexp.MustCompile(`\Astatus\z`),
}

func modelParse(text []byte) impl.Line {
	kind := 0
	for k, pattern := range modelLines {
		if pattern != nil && pattern.Match(text) {
			kind = k
		}
	}
	words := strings.Split(string(text), " ")
	line := impl.Line{Kind: int64(kind)}
	switch kind {
	case impl.LineRequest:
		line.Multi = words[0] == "multi"
		for _, op := range strings.Split(strings.TrimPrefix(string(text), "multi "), " ; ") {
			line.Request.Ops = append(line.Request.Ops, modelOp(strings.Split(op, " ")))
		}
	case impl.LineGet, impl.LineList:
		line.Path = words[1]
	case impl.LineStep, impl.LineArm, impl.LineCrash, impl.LineRot:
		for _, word := range words[1:] {
			number, _ := strconv.ParseInt(word, 10, 64)
			line.Nums = append(line.Nums, number)
		}
	}
	if len(text) > 60000 || len(line.Nums) > 2000 {
		return impl.Line{}
	}
	return line
}

func modelOp(words []string) impl.Op {
	kinds := map[string]int64{"create": 1, "seq": 1, "delete": 2, "set": 3, "check": 4}
	op := impl.Op{Kind: kinds[words[0]], Path: words[1], Seq: words[0] == "seq"}
	if op.Kind == 1 || op.Kind == 3 {
		op.Data = words[2]
	}
	if op.Data == "-" {
		op.Data = ""
	}
	if op.Kind != 1 {
		op.Version, _ = strconv.ParseInt(words[len(words)-1], 10, 64)
	}
	return op
}

func sameLine(a, b impl.Line) bool {
	return a.Kind == b.Kind && slices.Equal(a.Request.Ops, b.Request.Ops) && a.Multi == b.Multi && a.Path == b.Path && slices.Equal(a.Nums, b.Nums)
}

type modelEntry struct {
	zxid  int64
	frame []byte
}

func modelBytes(entries []modelEntry) []byte {
	out := []byte{}
	for _, e := range entries {
		out = append(out, e.frame...)
	}
	return out
}

type modelServer struct {
	config impl.Config
	disk   impl.Disk

	armed   bool
	at      int64
	choices []int64

	up, degraded    bool
	flushed, queued impl.Tree
	f, q            int64
	queue, log      []modelEntry
	super           impl.Super

	snapping bool
	z        int64
	emitted  []impl.Node
	image    []byte

	// The log had no room for a request, and has got none since.
	full bool

	// What the script came through, so that a test can ask whether it came through enough; and its rot lines,
	// so that they can be undone.
	seen map[string]int
	rots []string

	said, answers []string
}

func newModelServer(c impl.Config) *modelServer {
	return &modelServer{config: c, disk: impl.FormatDisk(c), up: true, flushed: impl.NewTree(), queued: impl.NewTree(),
		super: impl.Super{Gen: 1, Len: 23, Crc: crcByBits(modelTreeImage(impl.NewTree()))}, seen: map[string]int{}}
}

// modelServe gives the answers line by line.
func modelServe(script []byte, c impl.Config) ([]string, *modelServer) {
	m := newModelServer(c)
	lines := bytes.Split(script, []byte{10})
	if len(lines[len(lines)-1]) == 0 {
		lines = lines[:len(lines)-1]
	}
	var out []string
	for _, text := range lines {
		out = append(out, m.hear(string(text)))
	}
	return out, m
}

func (m *modelServer) hear(text string) string {
	wasUp := m.up
	answer := m.answer(modelParse([]byte(text)))
	m.seen[strings.Split(answer, " ")[0]]++
	m.full = answer == "error 8" || m.full && !strings.HasPrefix(answer, "sealed")
	if answer == "ok" {
		m.rots = append(m.rots, text)
	}
	if wasUp && answer == "crashed" {
		m.seen["crashed in "+strings.Split(text, " ")[0]]++
	}
	return answer
}

// do makes the operations, each a write or, with no block, a sync; false if the crash came.
func (m *modelServer) do(ops ...impl.Write) bool {
	for _, op := range ops {
		if m.armed && m.at == 1 {
			m.crash(m.choices)
			return false
		}
		m.at--
		m.disk = modelDo(m.disk, op)
	}
	return true
}

func (m *modelServer) crash(choices []int64) {
	*m = modelServer{config: m.config, disk: crashModel(m.disk, choices), seen: m.seen, rots: m.rots, said: m.said, answers: m.answers}
}

// modelWrites are the writes of an area: each block that has a byte of content from the place on, filled
// up with zeros.
func (m *modelServer) modelWrites(bank int64, log bool, content []byte, from int) []impl.Write {
	var out []impl.Write
	for i := range modelSize(m.config, log) {
		isNew := false
		data := make([]byte, 64)
		for at := range data {
			if place := 64*int(i) + at; place < len(content) {
				data[at] = content[place]
				isNew = isNew || place >= from
			}
		}
		if isNew || from < 0 {
			out = append(out, impl.Write{Block: modelFirst(m.config, bank, log) + i, Data: data})
		}
	}
	return out
}

var modelSync = impl.Write{Block: -1}

func (m *modelServer) answer(l impl.Line) string {
	switch l.Kind {
	case impl.LineBad:
		return "badline"
	case impl.LineArm:
		m.armed, m.at, m.choices = true, l.Nums[0], l.Nums[1:]
		return "armed"
	case impl.LineRot:
		if l.Nums[1] >= 64*m.config.SnapBlocks {
			return "badline"
		}
		m.disk.Durable[64*modelFirst(m.config, l.Nums[0], false)+l.Nums[1]] ^= byte(l.Nums[2])
		return "ok"
	case impl.LineRecover:
		return m.recover()
	}
	if !m.up {
		return "down"
	}
	return m.answerUp(l)
}

func (m *modelServer) answerUp(l impl.Line) string {
	switch l.Kind {
	case impl.LineRequest:
		return m.request(l)
	case impl.LineFlush:
		return m.flush()
	case impl.LineGet, impl.LineList:
		return m.read(l)
	case impl.LineDump:
		out := fmt.Sprintf("tree %d", len(m.flushed.Nodes))
		for _, n := range m.flushed.Nodes {
			out += " " + n.Path + " " + modelNodeText(n)
		}
		return out
	case impl.LineSnap:
		return m.snap()
	case impl.LineStep:
		return m.step(int(l.Nums[0]))
	case impl.LineCrash:
		m.crash(l.Nums)
		return "crashed"
	}
	return fmt.Sprintf("status %d %d %d %d", m.f, m.q, len(modelBytes(m.log)), len(modelBytes(m.queue)))
}

func (m *modelServer) request(l impl.Line) string {
	p, after := modelPrepare(m.queued, l.Request, m.q+1)
	if p.Code != 0 {
		if l.Multi {
			return fmt.Sprintf("error %d %d", p.Code, p.Index)
		}
		return fmt.Sprintf("error %d", p.Code)
	}
	image := modelTxnImage(p.Txn)
	if len(image) > 2000 {
		return "error 7"
	}
	entry := modelEntry{m.q + 1, modelFrame(image)}
	if int64(len(modelBytes(m.log))+len(modelBytes(m.queue))+len(entry.frame)) > 64*m.config.LogBlocks {
		m.seen["no space"]++
		return "error 8"
	}
	m.queue = append(m.queue, entry)
	m.queued, m.q = after, m.q+1
	out := fmt.Sprintf("queued %d", m.q)
	for i, op := range l.Request.Ops {
		if op.Seq {
			out += " " + p.Names[i]
		}
	}
	return out
}

func (m *modelServer) flush() string {
	if len(m.queue) == 0 {
		return fmt.Sprintf("flushed 0 %d", m.f)
	}
	count := len(m.queue)
	before := len(modelBytes(m.log))
	log := slices.Concat(m.log, m.queue)
	if !m.do(append(m.modelWrites(m.super.Bank, true, modelBytes(log), before), modelSync)...) {
		return "crashed"
	}
	m.log, m.queue = log, nil
	m.flushed, m.f = m.queued, m.q
	return fmt.Sprintf("flushed %d %d", count, m.f)
}

func modelNodeText(n impl.Node) string {
	data := n.Data
	if data == "" {
		data = "-"
	}
	return fmt.Sprintf("%s %d %d %d %d %d", data, n.Version, n.CVersion, n.Czxid, n.Mzxid, n.Pzxid)
}

func (m *modelServer) read(l impl.Line) string {
	n, found := modelOf(m.flushed)[l.Path]
	if !found {
		return "error 2"
	}
	if l.Kind == impl.LineGet {
		return "node " + modelNodeText(n)
	}
	names := modelOf(m.flushed).children(l.Path)
	return strings.TrimSuffix(fmt.Sprintf("children %d %s", len(names), strings.Join(names, " ")), " ")
}

func (m *modelServer) snap() string {
	if m.degraded {
		return "degraded"
	}
	if m.snapping {
		return "busy"
	}
	if !m.do(modelSync) {
		return "crashed"
	}
	m.snapping, m.z, m.emitted, m.image = true, m.f, nil, nil
	return fmt.Sprintf("started %d", m.z)
}

// left are the nodes that are still to be emitted.
func (m *modelServer) left() []impl.Node {
	var out []impl.Node
	for _, n := range m.flushed.Nodes {
		if len(m.emitted) == 0 || n.Path > m.emitted[len(m.emitted)-1].Path {
			out = append(out, n)
		}
	}
	return out
}

func (m *modelServer) step(count int) string {
	if !m.snapping {
		return "idle"
	}
	taken := m.left()
	if len(taken) > count {
		taken = taken[:count]
	}
	before := len(m.image)
	for _, n := range taken {
		m.emitted = append(m.emitted, n)
		m.image = append(m.image, modelNodeImage(n)...)
	}
	if int64(len(m.image)) > 64*m.config.SnapBlocks {
		m.snapping = false
		return "snapfull"
	}
	if len(taken) == 0 {
		m.seen["nothing left to take"]++
	}
	if !m.do(m.modelWrites(1-m.super.Bank, false, m.image, before)...) {
		return "crashed"
	}
	if len(m.left()) > 0 {
		return fmt.Sprintf("stepped %d", len(taken))
	}
	return m.seal()
}

func (m *modelServer) seal() string {
	var log []modelEntry
	for _, e := range m.log {
		if e.zxid > m.z {
			log = append(log, e)
		}
	}
	if len(log) > 0 {
		m.seen["sealed with a log"]++
	}
	next := impl.Super{Gen: m.super.Gen + 1, Bank: 1 - m.super.Bank, Start: m.z, Len: int64(len(m.image)), Crc: crcByBits(m.image)}
	ops := m.modelWrites(next.Bank, true, modelBytes(log), -1)
	ops = append(ops, modelSync, impl.Write{Block: next.Gen % 2, Data: modelSuperImage(next)}, modelSync)
	if !m.do(ops...) {
		m.seen["crashed while sealing"]++
		return "crashed"
	}
	m.super, m.log, m.snapping = next, log, false
	return fmt.Sprintf("sealed %d", m.z)
}

func (m *modelServer) recover() string {
	if m.up {
		return "up"
	}
	limit := int64(-1)
	if m.armed {
		limit = m.at - 1
	}
	r := modelRecover(m.disk, m.config, limit)
	switch r.Code {
	case 2:
		m.disk = r.Disk
		m.crash(m.choices)
		m.seen["crashed in recover"]++
		return "crashed"
	case 3:
		return "lost"
	}
	m.disk = cloneDisk(r.Disk)
	m.at -= r.Ops
	m.up, m.degraded = true, r.Code == 1
	m.flushed, m.queued, m.f, m.q = r.Tree, r.Tree, r.Zxid, r.Zxid
	m.super, m.log, m.queue, m.snapping = r.Super, nil, nil, false
	for _, record := range modelScan(modelArea(m.disk, m.config, r.Super.Bank, true)) {
		if int64(record.end) <= r.LogUsed {
			m.log = append(m.log, modelEntry{modelDecodeTxn(record.payload).Txn.Zxid, modelFrame(record.payload)})
		}
	}
	if m.degraded {
		return fmt.Sprintf("degraded %d", r.Zxid)
	}
	return fmt.Sprintf("recovered %d", r.Zxid)
}
