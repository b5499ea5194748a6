package tests

import (
	"fmt"
	"slices"
	"strings"
	"testing"

	"loop.example/s01594/impl"
)

func TestServeRotPlaces(t *testing.T) {
	for blocks := int64(1); blocks <= impl.MaxArea; blocks++ {
		c := impl.Config{SnapBlocks: blocks, LogBlocks: 1}
		last := 64*blocks - 1
		lines := []string{numbersLine("rot", 0, last, 1), numbersLine("rot", 1, last, 255), numbersLine("rot", 0, last+1, 1), numbersLine("rot", 1, last+1, 1),
			"crash", numbersLine("rot", 0, last, 1), numbersLine("rot", 1, last+1, 1), "recover"}
		checkLike(t, c, lines, []string{"ok", "ok", "badline", "badline", "crashed", "ok", "badline", "recovered 0"})
	}
}

// TestServeRot: what a rot line does shows at the next recovery, and not before.
func TestServeRot(t *testing.T) {
	checkTalk(t, smallConfig, `
		create /a x | queued 1
		flush | flushed 1 1
		snap | started 1
		step 5 | sealed 1
		set /a y 0 | queued 2
		flush | flushed 1 2
		rot 1 3 7 | ok
		dump | tree 2 / - 0 1 0 0 1 /a y 1 0 1 2 1
		set /a z 1 | queued 3
		status | status 2 3 39 39
		crash 64 64 | crashed
		recover | degraded 2
		get /a | node y 1 0 1 2 1
		status | status 2 2 39 0
		snap | degraded
		step 1 | idle
		create /b - | queued 3
		flush | flushed 1 3
		snap | degraded
		crash | crashed
		recover | degraded 3
		snap | degraded
		rot 1 3 7 | ok
		snap | degraded
		crash | crashed
		recover | recovered 3
		snap | started 3
		step 9 | sealed 3
		dump | tree 3 / - 0 2 0 0 3 /a y 1 0 1 2 1 /b - 0 0 3 3 3`)
	// The same change twice is none; that of the other bank plays no part; nor does one behind the snapshot,
	// of 23 and 25 bytes.
	checkTalk(t, smallConfig, `
		create /a x | queued 1
		flush | flushed 1 1
		snap | started 1
		step 5 | sealed 1
		rot 1 3 7 | ok
		rot 1 3 7 | ok
		rot 0 0 1 | ok
		rot 0 22 1 | ok
		rot 1 48 255 | ok
		crash | crashed
		recover | recovered 1
		rot 1 47 255 | ok
		rot 0 22 1 | ok
		crash | crashed
		recover | lost
		rot 0 0 1 | ok
		recover | degraded 1
		snap | degraded`)
}

func TestServeLost(t *testing.T) {
	checkTalk(t, smallConfig, `
		create /a x | queued 1
		flush | flushed 1 1
		rot 0 0 1 | ok
		get /a | node x 0 0 1 1 1
		crash | crashed
		recover | lost
		recover | lost
		get / | down
		snap | down
		bad | badline
		arm 1 | armed
		recover | lost
		rot 0 0 3 | ok
		recover | lost
		rot 0 0 2 | ok
		recover | recovered 1
		recover | up
		snap | crashed
		recover | recovered 1`)
	// A snapshot that was begun since takes the older one away.
	checkTalk(t, smallConfig, `
		create /a x | queued 1
		flush | flushed 1 1
		snap | started 1
		step 5 | sealed 1
		snap | started 1
		step 1 | stepped 1
		rot 1 0 1 | ok
		check / -1 | queued 2
		flush | flushed 1 2
		crash | crashed
		recover | lost`)
}

// TestServeRotIsDurable: the byte on the disk changes, and not what is written over it later.
func TestServeRotIsDurable(t *testing.T) {
	begin := `
		create /a x | queued 1
		flush | flushed 1 1
		snap | started 1
		step 1 | stepped 1
	`
	checkTalk(t, smallConfig, begin+`
		rot 1 5 9 | ok
		step 1 | sealed 1
		crash | crashed
		recover | recovered 1`)
	// A flush made the first step durable; the second step writes the block again.
	checkTalk(t, smallConfig, begin+`
		check / -1 | queued 2
		flush | flushed 1 2
		rot 1 5 9 | ok
		step 1 | sealed 1
		crash | crashed
		recover | recovered 2`)
	// Here it does not, and the checksum is that of the bytes that were emitted.
	checkTalk(t, smallConfig, begin+`
		delete /a 0 | queued 2
		flush | flushed 1 2
		rot 1 5 9 | ok
		step 1 | sealed 1
		crash | crashed
		recover | degraded 2
		dump | tree 1 / - 0 2 0 0 2`)
	// An armed crash counts no rot.
	checkTalk(t, smallConfig, begin+`
		arm 2 64 64 | armed
		rot 1 5 9 | ok
		rot 0 5 9 | ok
		rot 0 5 9 | ok
		step 1 | crashed
		recover | recovered 1`)
}

// TestServeDegradedEnds: a server is degraded until a recovery is good.
func TestServeDegradedEnds(t *testing.T) {
	begin := `
		create /a x | queued 1
		flush | flushed 1 1
		snap | started 1
		step 5 | sealed 1
		create /b x | queued 2
		create /c x | queued 3
		rot 1 0 1 | ok
		arm 4 10 64 64 | armed
		flush | crashed
	`
	checkTalk(t, smallConfig, begin+`
		arm 1 | armed
		recover | crashed
		snap | down
		arm 9 | armed
		recover | degraded 1
		snap | degraded
		create /b x | queued 2
		flush | flushed 1 2
		status | status 2 2 66 0
		create /c x | queued 3
		flush | crashed
		recover | degraded 2
		rot 1 0 1 | ok
		crash | crashed
		recover | recovered 2
		snap | started 2
		step 9 | sealed 2`)
	// Space that a degraded server has used up stays so.
	checkTalk(t, impl.Config{SnapBlocks: 1, LogBlocks: 1}, `
		snap | started 0
		step 1 | sealed 0
		rot 1 0 1 | ok
		crash | crashed
		recover | degraded 0
		set / `+strings.Repeat("x", 24)+` -1 | queued 1
		flush | flushed 1 1
		check / -1 | error 8
		snap | degraded
		check / -1 | error 8
		crash | crashed
		recover | degraded 1
		status | status 1 1 64 0`)
}

// TestServeRotEveryByte is promise 14 for every byte of a snapshot area.
func TestServeRotEveryByte(t *testing.T) {
	begin := []string{"create /a x", "flush", "snap", "create /b y", "flush", "step 1", "create /c z", "flush", "step 9", "set /b w 0", "flush", "create /d -"}
	length := int64(23 + 3*25)
	for place := range int64(128) {
		for _, change := range []int64{1, 64, 128, 255} {
			lines := slices.Concat(begin, []string{numbersLine("rot", 1, place, change), "arm 3 64 64", "flush", "recover", "status", "dump"})
			answers := checkWitnessed(t, smallConfig, lines)
			want := "degraded 5"
			if place >= length {
				want = "recovered 5"
			}
			if got := answers[len(begin)+3]; got != want {
				t.Fatalf("%q: %q, not %q", lines, got, want)
			}
		}
	}
}

// TestServeRotOnce is promise 14 over scripts of all sorts.
func TestServeRotOnce(t *testing.T) {
	n := &numbers{state: 614}
	seen := map[string]int{}
	for range 900 {
		c := n.config()
		_, _, m := n.script(c, n.below(60), false)
		for !m.up {
			m.say("recover")
		}
		m.say("flush", "step 1000", "snap", "step 1", n.requestLine(m.queued), "flush", "step 1000")
		if m.snapping || !m.up || m.super.Gen < 2 || !strings.HasPrefix(m.answers[len(m.answers)-1], "sealed") {
			continue
		}
		quiet := func(count int) {
			for range count {
				m.say(pick(n, n.requestLine(m.queued), n.requestLine(m.queued), "flush", "get /a", "crash "+fmt.Sprint(n.below(65)), "recover"))
			}
			for !m.up {
				m.say("recover")
			}
		}
		quiet(n.below(12))
		place := n.below(int(64 * c.SnapBlocks))
		m.say(numbersLine("rot", m.super.Bank, int64(place), int64(1+n.below(255))))
		inside := int64(place) < m.super.Len
		for range n.below(6) {
			m.say(pick(n, n.requestLine(m.queued), "flush"))
		}
		m.say(n.armLine(6), n.requestLine(m.queued), "flush", "crash")
		if n.below(3) == 0 {
			m.say(n.armLine(3), "recover")
		}
		m.say("recover")
		checkLike(t, c, m.said, m.answers)
		checkWitnessed(t, c, m.said)
		want := "recovered"
		if inside {
			want = "degraded"
		}
		seen["rot and "+want]++
		if !slices.ContainsFunc(m.answers, func(answer string) bool { return strings.HasPrefix(answer, want+" ") }) || m.degraded != inside {
			t.Fatalf("%+v, %q: not %s, %q", c, m.said, want, m.answers)
		}
	}
	enough(t, seen, 80, "rot and degraded", "rot and recovered")
}
