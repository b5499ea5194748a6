package tests

import (
	"fmt"
	"strings"
	"testing"

	"loop.example/s01594/impl"
)

// witness goes through a script and its answers, and asks for promises 11, 12 and 13 from what they say
// alone: it knows nothing of a disk. After a rot line it asks for promise 14.
type witness struct {
	config impl.Config
	rotted bool
	// trees[z] is what the accepted requests up to z make, frames[z] how long the record of z is.
	trees  []impl.Tree
	frames []int64
	// The zxids last flushed and last queued.
	flushed, queued int64
	// The log has all records after start; after a crash while a snapshot was sealed perhaps only those
	// after the zxid of this snapshot.
	start, snap int64
	unsure      bool
}

func newWitness(c impl.Config) *witness {
	return &witness{config: c, trees: []impl.Tree{impl.NewTree()}, frames: []int64{0}, snap: -1}
}

func (w *witness) bytesOf(after, last int64) int64 {
	sum := int64(0)
	for z := after + 1; z <= last; z++ {
		sum += w.frames[z]
	}
	return sum
}

func (w *witness) request(l impl.Line, answer string) error {
	p, after := modelPrepare(w.trees[w.queued], l.Request, w.queued+1)
	want := ""
	frame := int64(len(modelFrame(modelTxnImage(p.Txn))))
	switch {
	case p.Code != 0 && l.Multi:
		want = fmt.Sprintf("error %d %d", p.Code, p.Index)
	case p.Code != 0:
		want = fmt.Sprintf("error %d", p.Code)
	case len(modelTxnImage(p.Txn)) > 2000:
		want = "error 7"
	case w.bytesOf(w.start, w.queued)+frame > 64*w.config.LogBlocks:
		want = "error 8"
	default:
		w.queued++
		want = fmt.Sprintf("queued %d", w.queued)
		for i, o := range l.Request.Ops {
			if o.Seq {
				want += " " + p.Names[i]
			}
		}
		w.trees = append(w.trees[:w.queued], after)
		w.frames = append(w.frames[:w.queued], frame)
	}
	return wanted(answer, want)
}

func wanted(answer, want string) error {
	if answer != want {
		return fmt.Errorf("%q, not %q", answer, want)
	}
	return nil
}

func (w *witness) show(l impl.Line) string {
	m := modelServer{flushed: w.trees[w.flushed]}
	if l.Kind == impl.LineDump {
		return m.answerUp(l)
	}
	return m.read(l)
}

func (w *witness) flush(answer string) error {
	want := fmt.Sprintf("flushed %d %d", w.queued-w.flushed, w.queued)
	w.flushed = w.queued
	return wanted(answer, want)
}

// recovered asks for the bounds of promise 11; the lines after it show whether the tree is the right one.
func (w *witness) recovered(answer string) error {
	var z int64
	if _, err := fmt.Sscanf(answer, "recovered %d", &z); err != nil {
		if _, err := fmt.Sscanf(answer, "degraded %d", &z); !w.rotted || err != nil {
			return fmt.Errorf("%q", answer)
		}
	}
	if z < w.flushed || z > w.queued {
		return fmt.Errorf("%q, but flushed was %d and queued %d", answer, w.flushed, w.queued)
	}
	w.flushed, w.queued = z, z
	return nil
}

func (w *witness) status(answer string) error {
	if other := w.bytesOf(w.snap, w.flushed); w.unsure && strings.HasPrefix(answer, fmt.Sprintf("status %d %d %d ", w.flushed, w.queued, other)) {
		w.start = w.snap
	}
	w.unsure = false
	return wanted(answer, fmt.Sprintf("status %d %d %d %d", w.flushed, w.queued, w.bytesOf(w.start, w.flushed), w.bytesOf(w.flushed, w.queued)))
}

func (w *witness) hear(line, answer string) error {
	l := modelParse([]byte(line))
	switch {
	case answer == "down" || l.Kind == impl.LineBad || l.Kind == impl.LineArm:
		return nil
	case answer == "crashed":
		w.unsure = w.unsure || l.Kind == impl.LineStep
		return nil
	case l.Kind == impl.LineRecover && answer == "up":
		return nil
	case l.Kind == impl.LineRot:
		w.rotted = true
		return wanted(answer, "ok")
	}
	switch l.Kind {
	case impl.LineRequest:
		return w.request(l, answer)
	case impl.LineFlush:
		return w.flush(answer)
	case impl.LineRecover:
		return w.recovered(answer)
	case impl.LineStatus:
		return w.status(answer)
	case impl.LineGet, impl.LineList, impl.LineDump:
		return wanted(answer, w.show(l))
	case impl.LineSnap:
		if answer == "busy" {
			return nil
		}
		w.snap = w.flushed
		return wanted(answer, fmt.Sprintf("started %d", w.flushed))
	case impl.LineStep:
		return w.step(answer)
	}
	return fmt.Errorf("%q", answer)
}

func (w *witness) step(answer string) error {
	if !strings.HasPrefix(answer, "sealed") {
		return nil
	}
	w.start = w.snap
	return wanted(answer, fmt.Sprintf("sealed %d", w.snap))
}

// checkWitnessed is promises 11 to 13 for one script.
func checkWitnessed(t *testing.T, c impl.Config, lines []string) []string {
	t.Helper()
	answers := serveLines(t, c, lines)
	w := newWitness(c)
	for i, line := range lines {
		if err := w.hear(line, answers[i]); err != nil {
			t.Fatalf("%+v, after %q, line %d, %q: %v", c, lines[:i], i, line, err)
		}
	}
	return answers
}
