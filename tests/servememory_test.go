package tests

import (
	"bytes"
	"math"
	"strings"
	"testing"

	"loop.example/s01594/impl"
)

func TestServeMemory(t *testing.T) {
	n := &numbers{state: 620}
	for range 60 {
		c := n.config()
		lines, _, _ := n.script(c, 60, true)
		script := spare([]byte(strings.Join(lines, "\n")))
		checkApart(t, "Serve", [][]byte{script}, func() [][]byte { return [][]byte{impl.Serve(script, c), impl.Serve(script, c)} })
		checkApart(t, "Serve", [][]byte{script}, func() [][]byte {
			return [][]byte{impl.Serve(script, impl.Config{}), impl.Serve(script, impl.Config{}), impl.Serve(make([]byte, 60001), c), impl.Serve(make([]byte, 60001), c)}
		})
	}
}

// TestParseLineMemory: the text stays as it was, and the line stays as it is when the text or another line
// changes.
func TestParseLineMemory(t *testing.T) {
	for _, g := range goodLines {
		text := spare([]byte(g.text))
		before := bytes.Clone(whole(text))
		first, second := impl.ParseLine(text), impl.ParseLine(text)
		if !bytes.Equal(whole(text), before) {
			t.Errorf("%q was written into", g.text)
		}
		spoil(first.Nums, -7)
		spoil(first.Request.Ops, impl.Op{Path: "spoiled"})
		turn(text)
		if !sameLine(second, g.want) {
			t.Errorf("%q: the line shares memory: %+v", g.text, second)
		}
	}
}

// TestServerPanics hands all sorts of texts to the functions of the chapter: a panic fails the test.
func TestServerPanics(t *testing.T) {
	n := &numbers{state: 621}
	odd := []int64{math.MinInt64, -1, 0, 1, 2, 63, 64, 65, math.MaxInt64}
	scripts := [][]byte{nil, {}, {10}, {0}, {255}, {10, 10}, []byte("multi"), []byte("arm"), []byte("step"), []byte("rot"), []byte("get"),
		bytes.Repeat([]byte{' '}, impl.MaxScript), bytes.Repeat([]byte{';'}, impl.MaxScript), bytes.Repeat([]byte("; "), impl.MaxScript/2), make([]byte, impl.MaxScript+1), n.bytes(impl.MaxScript)}
	for range 300 {
		lines, _, _ := n.script(n.config(), 40, true)
		script := []byte(strings.Join(lines, "\n"))
		for range n.below(20) {
			at := n.below(len(script))
			switch n.below(4) {
			case 0:
				script[at] = byte(n.next())
			case 1:
				script = append(script[:at:at], script[at+1:]...)
			case 2:
				script = append(script, script[at:]...)
			case 3:
				script = append(script[:at:at], append([]byte(pick(n, " ", "\n", ";", "-", "0", "9", "multi ", "crash ", "recover\n")), script[at:]...)...)
			}
		}
		scripts = append(scripts, script)
	}
	for i, script := range scripts {
		impl.ParseLine(script)
		for line := range bytes.SplitSeq(script, []byte{10}) {
			impl.ParseLine(line)
		}
		impl.Serve(script, n.config())
		impl.Serve(script, impl.Config{SnapBlocks: odd[i%len(odd)], LogBlocks: odd[i/len(odd)%len(odd)]})
	}
}

// TestServeManyOperations runs the longest scripts: the disk must not fill up with writes that are not yet
// synced.
func TestServeManyOperations(t *testing.T) {
	c := impl.Config{SnapBlocks: 64, LogBlocks: 64}
	begin := ""
	for i := range 26 {
		begin += "multi"
		for j := range 6 {
			if j > 0 {
				begin += " ;"
			}
			begin += " create /" + string(rune('a'+i)) + string(rune('a'+j)) + " -"
		}
		begin += "\nflush\nsnap\nstep 999\n"
	}
	for _, round := range []string{"snap\nstep 999\n", "snap\nstep 1\nstep 1\nstep 1\ncrash\nrecover\n", "step 1\n", "check / -1\n", "check / -1\nflush\n", "snap\n" + strings.Repeat("step 1\n", 160)} {
		script := begin + strings.Repeat(round, (impl.MaxScript-len(begin))/len(round))
		answers := strings.Split(string(impl.Serve([]byte(script), c)), "\n")
		if len(answers) != strings.Count(script, "\n")+1 {
			t.Errorf("%q: %d answers to %d lines", round, len(answers)-1, strings.Count(script, "\n"))
		}
		if strings.HasPrefix(round, "snap\nstep 999") && answers[len(answers)-2] != "sealed 26" {
			t.Errorf("%q: %q in the end", round, answers[len(answers)-2])
		}
	}
	// A snapshot in as many steps as there can be, with each block written many times, and sealed at once.
	lines := append(strings.Split(strings.TrimSpace(begin), "\n"), "snap")
	for range 156 {
		lines = append(lines, "step 1")
	}
	lines = append(lines, "step 1", "crash", "recover", "list /")
	model, _ := modelServe([]byte(strings.Join(lines, "\n")), c)
	checkLike(t, c, lines, model)
	if got := model[len(model)-4]; got != "sealed 26" {
		t.Errorf("%q", got)
	}
}
