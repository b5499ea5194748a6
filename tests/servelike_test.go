package tests

import (
	"bytes"
	"strings"
	"sync"
	"testing"

	"loop.example/s01594/impl"
)

// enough asks that the scripts came through each of these things so often.
func enough(t *testing.T, seen map[string]int, least int, things ...string) {
	t.Helper()
	for _, thing := range things {
		if seen[thing] < least {
			t.Errorf("only %d times: %s", seen[thing], thing)
		}
	}
}

func addSeen(all, more map[string]int) {
	for thing, count := range more {
		all[thing] += count
	}
}

// TestServeLikeModel compares the answers to scripts with rot.
func TestServeLikeModel(t *testing.T) {
	n := &numbers{state: 600}
	seen := map[string]int{}
	for range 1200 {
		c := n.config()
		lines, want, m := n.script(c, 30+n.below(120), true)
		checkLike(t, c, lines, want)
		addSeen(seen, m.seen)
	}
	enough(t, seen, 300, "lost", "ok", "down", "badline", "crashed in crash", "crashed in flush", "crashed in step", "crashed while sealing")
	enough(t, seen, 100, "degraded", "sealed with a log", "snapfull", "busy", "crashed in snap", "crashed in recover")
	enough(t, seen, 1000, "armed", "flushed", "queued", "started", "sealed", "recovered", "no space")
}

// TestServePromises is promises 11, 12 and 13 over scripts of all sorts without rot.
func TestServePromises(t *testing.T) {
	n := &numbers{state: 611}
	seen := map[string]int{}
	for range 1500 {
		c := n.config()
		lines, want, m := n.script(c, 30+n.below(120), false)
		checkLike(t, c, lines, want)
		checkWitnessed(t, c, lines)
		addSeen(seen, m.seen)
	}
	enough(t, seen, 10, "nothing left to take")
	enough(t, seen, 200, "crashed in snap", "crashed in recover", "sealed with a log", "snapfull", "busy", "stepped")
	enough(t, seen, 500, "crashed in crash", "crashed in flush", "crashed in step", "crashed while sealing")
	enough(t, seen, 2000, "armed", "flushed", "queued", "started", "sealed", "recovered", "no space")
}

// TestServeLongScripts fills scripts on the largest disks up to their limit.
func TestServeLongScripts(t *testing.T) {
	n := &numbers{state: 612}
	for range 6 {
		c := impl.Config{SnapBlocks: pick[int64](n, 60, 64), LogBlocks: pick[int64](n, 60, 64)}
		_, _, m := n.script(c, 700, false)
		for len(strings.Join(m.said, "\n"))+200 < impl.MaxScript && len(m.said) < 1500 {
			m.say(n.nextLine(m, false))
		}
		if len(strings.Join(m.said, "\n"))+1 > impl.MaxScript {
			continue
		}
		checkLike(t, c, m.said, m.answers)
		checkWitnessed(t, c, m.said)
	}
}

// TestServeDoesNotLookAhead is promise 15.
func TestServeDoesNotLookAhead(t *testing.T) {
	n := &numbers{state: 615}
	for i := range 40 {
		c := n.config()
		lines, _, _ := n.script(c, 20+n.below(30), i%2 == 0)
		script := []byte(strings.Join(lines, "\n") + "\n")
		answers := impl.Serve(script, c)
		for at := range len(lines) + 1 {
			begin := []byte(strings.Join(lines[:at], "\n"))
			if at > 0 {
				begin = append(begin, '\n')
			}
			got := impl.Serve(begin, c)
			if !bytes.HasPrefix(answers, got) || bytes.Count(got, []byte("\n")) != at {
				t.Fatalf("%+v, %q: the first %d lines alone are answered otherwise", c, lines, at)
			}
			other := impl.Serve(append(begin, "crash 1 2 3\nrecover\nx"...), c)
			if !bytes.HasPrefix(other, got) || bytes.Count(other, []byte("\n")) != at+3 {
				t.Fatalf("%+v, %q: the first %d lines are answered otherwise with others behind them", c, lines, at)
			}
		}
	}
}

// TestServeKeepsNothing: no call leaves anything to the next, nor to one beside it.
func TestServeKeepsNothing(t *testing.T) {
	n := &numbers{state: 616}
	var group sync.WaitGroup
	for range 8 {
		c := n.config()
		lines, want, _ := n.script(c, 80, true)
		for range 4 {
			group.Go(func() {
				got := impl.Serve([]byte(strings.Join(lines, "\n")), c)
				if string(got) != strings.Join(want, "\n")+"\n" {
					t.Errorf("%+v, %q: beside other calls the answer is another", c, lines)
				}
			})
		}
	}
	group.Wait()
}
