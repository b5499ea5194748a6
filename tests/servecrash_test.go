package tests

import (
	"slices"
	"strings"
	"testing"

	"loop.example/s01594/impl"
)

// opsOf is how many disk operations the last of the lines makes: a crash armed at one more does not come.
func opsOf(t *testing.T, c impl.Config, lines ...string) int64 {
	t.Helper()
	before, line := lines[:len(lines)-1], lines[len(lines)-1]
	for n := int64(1); ; n++ {
		script := slices.Concat(before, []string{numbersLine("arm", n), line})
		answers := serveLines(t, c, script)
		if answers[len(answers)-1] != "crashed" {
			return n - 1
		}
	}
}

func TestServeDiskOperations(t *testing.T) {
	x24 := "set / " + strings.Repeat("x", 24) + " -1"
	nine := "check / -1"
	for _, c := range []struct {
		want  int64
		lines string
	}{
		// A frame of 64 bytes is one block, and the next begins a new one.
		{2, x24 + "|flush"},
		{2, x24 + "|flush|" + nine + "|flush"},
		{3, x24 + "|" + nine + "|flush"},
		{3, nine + "|" + x24 + "|flush"},
		{2, nine + "|flush|" + nine + "|flush"},
		{3, nine + "|flush|" + x24 + "|flush"},
		{4, x24 + "|" + x24 + "|" + nine + "|flush"},
		{4, nine + "|flush|" + x24 + "|" + x24 + "|flush"},
		{2, x24 + "|flush|snap|" + nine + "|flush|step 1|" + nine + "|flush"},
		{0, "flush"},
		{0, x24 + "|flush|flush"},
		{0, x24},
		{0, "create /a x|flush|get /a"},
		{0, "list /"},
		{0, "dump"},
		{0, "status"},
		{0, "rot 0 0 1"},
		{0, "recover"},
		{0, "bad"},
		{1, "snap"},
		{1, x24 + "|flush|snap"},
		{0, "snap|snap"},
		{0, "step 1"},
		// The root has 23 bytes, /a, /b and so on 24: the third begins in the first block and ends in the second.
		{1, "multi create /a - ; create /b - ; create /c - ; create /d -|flush|snap|step 1"},
		{1, "multi create /a - ; create /b - ; create /c - ; create /d -|flush|snap|step 2"},
		{2, "multi create /a - ; create /b - ; create /c - ; create /d -|flush|snap|step 3"},
		{1, "multi create /a - ; create /b - ; create /c - ; create /d -|flush|snap|step 1|step 1"},
		{2, "multi create /a - ; create /b - ; create /c - ; create /d -|flush|snap|step 2|step 1"},
		{1, "multi create /a - ; create /b - ; create /c - ; create /d -|flush|snap|step 3|step 1"},
		// To seal: all blocks of the log, a sync, the slot, a sync.
		{1 + 4 + 3, "snap|step 1"},
		{2 + 4 + 3, "multi create /a - ; create /b - ; create /c - ; create /d -|flush|snap|step 1000"},
		{1 + 4 + 3, "multi create /a - ; create /b - ; create /c - ; create /d -|flush|snap|step 4|step 1"},
		{1 + 4 + 3, "create /a -|flush|snap|step 1|" + x24 + "|flush|step 9"},
		// Nothing is left to be emitted.
		{4 + 3, "create /a -|flush|snap|step 1|delete /a 0|flush|step 1"},
		// Given up without an operation.
		{0, "multi create /a " + strings.Repeat("x", 64) + " ; create /b " + strings.Repeat("x", 64) + "|flush|snap|step 3"},
		// Recovery: nothing to clean; two blocks to clean, and a sync.
		{0, x24 + "|flush|crash|recover"},
		{2, x24 + "|" + nine + "|arm 3 0 64|flush|recover"},
		{3, x24 + "|" + x24 + "|arm 3 10 64|flush|recover"},
	} {
		lines := strings.Split(c.lines, "|")
		if got := opsOf(t, smallConfig, lines...); got != c.want {
			t.Errorf("%q: %d disk operations, not %d", lines, got, c.want)
		}
	}
	for blocks := range int64(impl.MaxArea) {
		if got := opsOf(t, impl.Config{SnapBlocks: 1, LogBlocks: blocks + 1}, "snap", "step 1"); got != blocks+5 {
			t.Errorf("%d blocks: a seal has %d operations", blocks+1, got)
		}
	}
}

// TestServeArm: the operation is counted over lines, and only disk operations count.
func TestServeArm(t *testing.T) {
	checkTalk(t, smallConfig, `
		arm 5 | armed
		check / -1 | queued 1
		flush | flushed 1 1
		get / | node - 0 0 0 0 0
		flush | flushed 0 1
		bad | badline
		rot 1 5 5 | ok
		snap | started 1
		snap | busy
		check / -1 | queued 2
		flush | crashed
		recover | recovered 1
		check / -1 | queued 2
		flush | flushed 1 2`)
	// The second arming takes the place of the first, whichever comes earlier.
	checkTalk(t, smallConfig, `
		arm 1 | armed
		arm 2 64 | armed
		check / -1 | queued 1
		flush | crashed
		recover | recovered 1`)
	checkTalk(t, smallConfig, `
		arm 2 64 | armed
		arm 1 | armed
		check / -1 | queued 1
		flush | crashed
		recover | recovered 0
		check / -1 | queued 1
		flush | flushed 1 1`)
	// A crash that was not armed takes the armed one with it; what is armed when down is kept.
	checkTalk(t, smallConfig, `
		arm 1 | armed
		crash | crashed
		recover | recovered 0
		check / -1 | queued 1
		flush | flushed 1 1
		crash | crashed
		arm 2 64 | armed
		crash | down
		recover | recovered 1
		check / -1 | queued 2
		flush | crashed
		recover | recovered 2
		snap | started 2
		step 1 | sealed 2`)
}

// TestServeForgets: a crash takes the queue, the snapshot in progress and the armed crash.
func TestServeForgets(t *testing.T) {
	checkTalk(t, smallConfig, `
		create /a x | queued 1
		flush | flushed 1 1
		create /b y | queued 2
		snap | started 1
		step 1 | stepped 1
		arm 9 | armed
		crash 64 64 64 | crashed
		recover | recovered 1
		status | status 1 1 66 0
		step 1 | idle
		create /b y | queued 2
		flush | flushed 1 2
		snap | started 2
		step 9 | sealed 2
		dump | tree 3 / - 0 2 0 0 2 /a x 0 0 1 1 1 /b y 0 0 2 2 2`)
	// A step that crashes is not sealed, a flush that crashes has flushed nothing unless it was kept.
	checkTalk(t, smallConfig, `
		create /a x | queued 1
		flush | flushed 1 1
		create /b y | queued 2
		arm 1 64 | armed
		flush | crashed
		get /a | down
		recover | recovered 1
		get /b | error 2
		create /b z | queued 2
		arm 3 64 64 | armed
		flush | crashed
		recover | recovered 2
		get /b | node z 0 0 2 2 2
		create /c - | queued 3`)
}

func TestServeDown(t *testing.T) {
	checkTalk(t, smallConfig, `
		crash | crashed
		create /a x | down
		multi check / -1 | down
		flush | down
		get / | down
		list / | down
		dump | down
		snap | down
		step 1 | down
		crash | down
		crash 1 2 | down
		status | down
		bad | badline
		step 0 | badline
		rot 0 128 1 | badline
		rot 1 127 1 | ok
		arm 1 | armed
		create a x | down
		recover | recovered 0
		recover | up
		snap | crashed
		recover | recovered 0
		snap | started 0`)
}

// TestServeRecoverCrashes: a recovery that has two operations is armed at each of them.
func TestServeRecoverCrashes(t *testing.T) {
	begin := `
		create /a x | queued 1
		flush | flushed 1 1
		create /b y | queued 2
		create /c y | queued 3
		arm 4 10 64 64 | armed
		flush | crashed
	`
	checkTalk(t, smallConfig, begin+`
		recover | recovered 1
		status | status 1 1 66 0`)
	checkTalk(t, smallConfig, begin+`
		arm 1 | armed
		recover | crashed
		recover | recovered 1`)
	checkTalk(t, smallConfig, begin+`
		arm 4 64 0 20 | armed
		recover | crashed
		dump | down
		recover | recovered 1
		status | status 1 1 66 0`)
	// It needs four operations: what is armed at the fifth comes at the next one, a sync.
	checkTalk(t, smallConfig, begin+`
		arm 5 | armed
		recover | recovered 1
		snap | crashed
		recover | recovered 1`)
	checkTalk(t, smallConfig, begin+`
		arm 6 | armed
		recover | recovered 1
		snap | started 1
		step 1 | crashed
		recover | recovered 1`)
	// A recovery that needs none keeps the crash where it is.
	checkTalk(t, smallConfig, `
		create /a x | queued 1
		flush | flushed 1 1
		crash | crashed
		arm 1 | armed
		recover | recovered 1
		create /b y | queued 2
		flush | crashed
		recover | recovered 1`)
}

// TestServeSealSequence: the superblock is what seals, and all that it tells of is durable by then. U is 66
// as long as the old log is the current one. There are 1 write of the snapshot, 4 of the log, a sync, the
// slot, and a sync.
func TestServeSealSequence(t *testing.T) {
	begin := []string{"create /a x", "flush", "snap"}
	for n := int64(1); n <= 9; n++ {
		for slot := range int64(65) {
			for _, others := range []int64{0, 20, 63, 64} {
				choices := slices.Repeat([]int64{others}, 5)
				if n == 8 {
					choices = []int64{slot, others, others}
				}
				lines := slices.Concat(begin, []string{numbersLine("arm", append([]int64{n}, choices...)...), "step 2", "crash", "recover", "status", "get /a"})
				want := []string{"queued 1", "flushed 1 1", "started 1", "armed", "crashed", "down", "recovered 1", "status 1 1 66 0", "node x 0 0 1 1 1"}
				if n == 9 {
					want[4], want[5] = "sealed 1", "crashed"
				}
				if n == 9 || n == 8 && slot == 64 {
					want[7] = "status 1 1 0 0"
				}
				checkLike(t, smallConfig, lines, want)
			}
			if n != 8 {
				break
			}
		}
	}
}

// TestServeFlushTears tears the writes of a flush in all ways: what comes back is the records that are whole.
func TestServeFlushTears(t *testing.T) {
	// Frames of 38 bytes: the first is there; the flush adds three, which end in block 1 at 12 and 50 and in
	// block 2 at 24.
	begin := []string{"set / x -1", "flush", "set / y -1", "set / z -1", "set / w -1"}
	for _, armed := range []int64{1, 2, 3, 4} {
		for first := range int64(65) {
			for _, second := range []int64{0, 11, 12, 49, 50, 51, 63, 64} {
				for _, third := range []int64{0, 23, 24, 64} {
					kept := func(place, block, choice int64) bool {
						return armed > block+1 && choice >= place-64*block
					}
					want := "recovered 1"
					if kept(64, 0, first) && kept(76, 1, second) {
						want = "recovered 2"
						if kept(114, 1, second) {
							want = "recovered 3"
							if kept(128, 1, second) && kept(152, 2, third) {
								want = "recovered 4"
							}
						}
					}
					lines := slices.Concat(begin, []string{numbersLine("arm", armed, first, second, third), "flush", "recover"})
					answers := checkWitnessed(t, smallConfig, lines)
					if got := answers[len(answers)-1]; got != want {
						t.Fatalf("%q: %q, not %q", lines, got, want)
					}
				}
			}
		}
	}
}

// busyScript has flushes over several blocks, snapshots with writes between their steps, one given up, and
// seals with and without a log.
func busyScript() []string {
	return strings.Split(strings.TrimSpace(`
create /b x
multi create /d x ; create /f x
flush
snap
step 2
multi create /a 1 ; create /c 1 ; delete /b 0 ; set /d y 0
flush
set /f z 0
step 1
delete /f 1
step 1
flush
step 9
create /e `+strings.Repeat("e", 60)+`
flush
snap
set /a 2 -1
set /a 3 -1
flush
step 1
snap
create /g `+strings.Repeat("g", 64)+`
step 1
flush
step 9
step 9
snap
delete /g -1
flush
step 9
set /c q -1
flush`), "\n")
}

// crashPatterns are choices for as many writes as there may be.
func crashPatterns(n *numbers) [][]int64 {
	out := [][]int64{nil, slices.Repeat([]int64{64}, 40), slices.Repeat([]int64{30}, 40)}
	for i := range 8 {
		oneKept, oneLost, oneTorn := make([]int64, 40), slices.Repeat([]int64{64}, 40), slices.Repeat([]int64{64}, 40)
		oneKept[i], oneLost[i], oneTorn[i] = 64, 0, int64(1+n.below(63))
		out = append(out, oneKept, oneLost, oneTorn)
	}
	for range 6 {
		out = append(out, n.choices(40))
	}
	return out
}

// TestServeCrashEverywhere is promise 11 at every disk operation of a script, with writes kept, lost and
// torn, and with recoveries that crash too; the server goes on afterwards.
func TestServeCrashEverywhere(t *testing.T) {
	n := &numbers{state: 611}
	c := impl.Config{SnapBlocks: 3, LogBlocks: 12}
	seen := map[string]int{}
	for at := int64(1); ; at++ {
		came := false
		for i, choices := range crashPatterns(n) {
			m := newModelServer(c)
			m.say(numbersLine("arm", append([]int64{at}, choices...)...))
			for _, line := range busyScript() {
				m.say(line)
			}
			came = came || !m.up
			for again := range i % 3 {
				m.say(numbersLine("arm", append([]int64{int64(again + n.below(3) + 1)}, n.choices(6)...)...), "recover")
			}
			m.say("recover", "recover", "set / after -1", "flush", "snap", "step 9", "crash", "recover")
			checkLike(t, c, m.said, m.answers)
			checkWitnessed(t, c, m.said)
			addSeen(seen, m.seen)
		}
		if !came {
			break
		}
	}
	enough(t, seen, 25, "crashed in flush", "crashed in snap", "crashed in step", "crashed while sealing", "crashed in recover", "sealed with a log", "snapfull", "busy", "stepped")
	enough(t, seen, 1000, "recovered")
}
