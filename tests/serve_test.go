package tests

import (
	"fmt"
	"strings"
	"testing"

	"loop.example/s01594/impl"
)

var smallConfig = impl.Config{SnapBlocks: 2, LogBlocks: 4}

func checkAnswer(t *testing.T, c impl.Config, script, want string) {
	t.Helper()
	if got := string(impl.Serve([]byte(script), c)); got != want {
		t.Errorf("%+v, %.60q: %.200q, not %.200q", c, script, got, want)
	}
}

func TestServeRefuses(t *testing.T) {
	long := strings.Repeat("flush\n", impl.MaxScript/6)
	for _, c := range badConfigs() {
		for _, script := range []string{"", "flush", "dump\nflush\n", long, long + "f"} {
			checkAnswer(t, c, script, "bad config\n")
		}
	}
	for _, c := range []impl.Config{{SnapBlocks: 1, LogBlocks: 1}, {SnapBlocks: 1, LogBlocks: 64}, {SnapBlocks: 64, LogBlocks: 1}, {SnapBlocks: 64, LogBlocks: 64}} {
		checkAnswer(t, c, long, strings.Repeat("flushed 0 0\n", impl.MaxScript/6))
		checkAnswer(t, c, long+"f", "script too long\n")
		checkAnswer(t, c, long+"\n", "script too long\n")
		checkAnswer(t, c, strings.Repeat("\n", impl.MaxScript), strings.Repeat("badline\n", impl.MaxScript))
		checkAnswer(t, c, "dump", "tree 1 / - 0 0 0 0 0\n")
	}
}

func TestServeCutsLines(t *testing.T) {
	for script, want := range map[string]string{
		"":                       "",
		"\n":                     "badline\n",
		"\n\n":                   "badline\nbadline\n",
		"flush":                  "flushed 0 0\n",
		"flush\n":                "flushed 0 0\n",
		"flush\n\n":              "flushed 0 0\nbadline\n",
		"\nflush":                "badline\nflushed 0 0\n",
		"flush\nflush":           "flushed 0 0\nflushed 0 0\n",
		"flush\r\nflush":         "badline\nflushed 0 0\n",
		"flush\n ":               "flushed 0 0\nbadline\n",
		"flush\n\x00":            "flushed 0 0\nbadline\n",
		"flush\n\xff\nflush":     "flushed 0 0\nbadline\nflushed 0 0\n",
		"flush\vflush\u2028dump": "badline\n",
	} {
		checkAnswer(t, smallConfig, script, want)
	}
}

func TestServeBegins(t *testing.T) {
	checkTalk(t, smallConfig, `
		status | status 0 0 0 0
		dump | tree 1 / - 0 0 0 0 0
		get / | node - 0 0 0 0 0
		list / | children 0
		get /a | error 2
		list /a | error 2
		flush | flushed 0 0
		step 1 | idle
		recover | up
		create /a x | queued 1`)
}

func TestServeExample(t *testing.T) {
	checkTalk(t, impl.Config{SnapBlocks: 4, LogBlocks: 4}, `
		create /a x | queued 1
		set /a y 0 | queued 2
		get /a | error 2
		flush | flushed 2 2
		get /a | node y 1 0 1 2 1
		snap | started 2
		create /b - | queued 3
		step 1 | stepped 1
		flush | flushed 1 3
		step 9 | sealed 2
		delete /a 7 | error 4
		arm 2 10 | armed
		set /a z -1 | queued 4
		flush | crashed
		recover | recovered 3
		dump | tree 3 / - 0 2 0 0 3 /a y 1 0 1 2 1 /b - 0 0 3 3 3`)
}

func TestServeErrors(t *testing.T) {
	long := strings.Repeat("d", impl.MaxData)
	many := strings.Repeat(" ; check / -1", impl.MaxOps-1)
	checkTalk(t, impl.Config{SnapBlocks: 2, LogBlocks: 64}, `
		create a x | error 1
		create / x | error 1
		create ; x | badline
		delete / -1 | error 1
		set / x -2 | error 1
		create /a `+long+`d | error 1
		seq /0123456789a x | error 1
		create /a/b x | error 2
		set /a x -1 | error 2
		status | status 0 0 0 0
		create /a `+long+` | queued 1
		create /a y | error 3
		set /a y 1 | error 4
		check /b 0 | error 2
		create /a/b - | queued 2
		delete /a -1 | error 5
		delete /a 1 | error 4
		multi create /c x ; create /c y | error 3 1
		multi delete /a -1 | error 5 0
		multi delete a -1 | error 1 0
		multi create /c x ; check /c 0 ; check /c 1 | error 4 2
		multi create /c x ; delete /c 0 ; check /c -1 | error 2 2
		get /c | error 2
		multi check / -1 ; check / -1`+many+` | error 9 0
		multi check / -1`+many+` | queued 3
		multi create /c x ; delete /c 0 | queued 4
		flush | flushed 4 4
		dump | tree 3 / - 0 3 0 0 4 /a `+long+` 0 1 1 1 2 /a/b - 0 0 2 2 2
		list /a | children 1 b
		list /a/b | children 0
		list / | children 1 a`)
}

func TestServeSeqNames(t *testing.T) {
	checkTalk(t, impl.Config{SnapBlocks: 2, LogBlocks: 16}, `
		seq /a x | queued 1 /a000000
		create /a x | queued 2
		multi create /b - ; seq /a/n x ; check /a/n000000 0 ; seq /a/n y ; seq / z | error 1 4
		multi create /b - ; seq /a/n x ; check /a/n000000 0 ; seq /a/n y ; create /c - | queued 3 /a/n000000 /a/n000001
		multi seq /q - | queued 4 /q000004
		multi check / -1 | queued 5
		flush | flushed 5 5
		list / | children 5 a a000000 b c q000004
		list /a | children 2 n000000 n000001
		get /a/n000001 | node y 0 0 3 3 3`)
}

// TestServeJudgesTheQueue is promise 12: requests see all accepted ones, reading sees the flushed ones.
func TestServeJudgesTheQueue(t *testing.T) {
	checkTalk(t, impl.Config{SnapBlocks: 4, LogBlocks: 16}, `
		create /a x | queued 1
		create /a x | error 3
		create /a/b y | queued 2
		set /a z 0 | queued 3
		set /a z 0 | error 4
		dump | tree 1 / - 0 0 0 0 0
		list / | children 0
		get /a | error 2
		status | status 0 3 0 176
		flush | flushed 3 3
		status | status 3 3 176 0
		delete /a/b 0 | queued 4
		delete /a 1 | queued 5
		get /a/b | node y 0 0 2 2 2
		list / | children 1 a
		create /a/b y | error 2
		dump | tree 3 / - 0 1 0 0 1 /a z 1 1 1 3 2 /a/b y 0 0 2 2 2
		flush | flushed 2 5
		flush | flushed 0 5
		dump | tree 1 / - 0 2 0 0 5
		create /a w | queued 6
		crash | crashed
		recover | recovered 5
		create /b w | queued 6
		get /b | error 2
		flush | flushed 1 6
		get /b | node w 0 0 6 6 6`)
}

// TestServeTooLarge has an image of MaxPayload bytes and one of a byte more: the root's effect has 24 bytes,
// each other 89 with a path of two bytes.
func TestServeTooLarge(t *testing.T) {
	ops := []string{}
	for i := range 22 {
		path := fmt.Sprintf("/%c", 'a'+i)
		if i < 12 {
			path += "0"
		}
		ops = append(ops, "create "+path+" "+strings.Repeat("x", 64))
	}
	fits := "multi " + strings.Join(ops, " ; ")
	larger := strings.Replace(fits, "/a0", "/a00", 1)
	checkTalk(t, impl.Config{SnapBlocks: 1, LogBlocks: 36}, larger+` | error 7
		status | status 0 0 0 0
		`+fits+` | queued 1
		status | status 0 1 0 2288
		flush | flushed 1 1
		get /a0 | node `+strings.Repeat("x", 64)+` 0 0 1 1 1
		crash | crashed
		recover | recovered 1
		status | status 1 1 2288 0`)
	// With too little room too, the size of the image is what is told.
	checkTalk(t, impl.Config{SnapBlocks: 1, LogBlocks: 35}, larger+` | error 7
		`+fits+` | error 8
		status | status 0 0 0 0`)
	checkTalk(t, impl.Config{SnapBlocks: 1, LogBlocks: 1}, strings.TrimPrefix(larger, "multi create /a00 "+strings.Repeat("x", 64)+" ; ")+` | badline
		multi `+strings.TrimPrefix(larger, "multi create /a00 "+strings.Repeat("x", 64)+" ; ")+` | error 8`)
}

// TestServeLedger is promise 13: a log is filled to the last byte, and a byte more is refused.
func TestServeLedger(t *testing.T) {
	x24, x25 := strings.Repeat("x", 24), strings.Repeat("x", 25)
	one := impl.Config{SnapBlocks: 1, LogBlocks: 1}
	checkTalk(t, one, `
		set / `+x25+` -1 | error 8
		multi set / `+x25+` -1 | error 8
		status | status 0 0 0 0
		set / `+x24+` -1 | queued 1
		status | status 0 1 0 64
		check / -1 | error 8
		flush | flushed 1 1
		status | status 1 1 64 0
		check / -1 | error 8
		snap | started 1
		check / -1 | error 8
		step 1 | sealed 1
		status | status 1 1 0 0
		set / `+x24+` -1 | queued 2`)
	// A check alone takes nine bytes: seven of them fit.
	checkTalk(t, one, `
		check / -1 | queued 1
		check / -1 | queued 2
		check / -1 | queued 3
		flush | flushed 3 3
		check / -1 | queued 4
		check / -1 | queued 5
		flush | flushed 2 5
		check / -1 | queued 6
		set / - -1 | error 8
		check / -1 | queued 7
		status | status 5 7 45 18
		check / -1 | error 8
		check /a -1 | error 2
		flush | flushed 2 7
		status | status 7 7 63 0
		check / -1 | error 8
		crash | crashed
		recover | recovered 7
		status | status 7 7 63 0
		check / -1 | error 8`)
	// What is queued, and what was flushed since the snapshot began, stays in the ledger.
	checkTalk(t, impl.Config{SnapBlocks: 1, LogBlocks: 2}, `
		set / `+x24+` -1 | queued 1
		flush | flushed 1 1
		snap | started 1
		check / -1 | queued 2
		flush | flushed 1 2
		check / -1 | queued 3
		status | status 2 3 73 9
		step 1 | sealed 1
		status | status 2 3 9 9
		set / `+x24+` -1 | queued 4
		set / - -1 | queued 5
		set / - -1 | error 8
		status | status 2 5 9 110
		flush | flushed 3 5
		status | status 5 5 119 0
		check / -1 | queued 6
		status | status 5 6 119 9
		check / -1 | error 8`)
}

// TestServeLedgerAfterSeal is the second half of promise 13, at every length of a frame.
func TestServeLedgerAfterSeal(t *testing.T) {
	n := &numbers{state: 613}
	for range 300 {
		c := impl.Config{SnapBlocks: 8, LogBlocks: int64(1 + n.below(3))}
		m := newModelServer(c)
		for range 1 + n.below(6) {
			m.say(n.requestLine(m.queued))
		}
		m.say("flush", "snap", "step 1000", "status")
		if !strings.HasPrefix(m.answers[len(m.answers)-2], "sealed") {
			continue
		}
		request := fmt.Sprintf("set / %s -1", strings.Repeat("y", 1+n.below(64)))
		p, _ := modelPrepare(m.flushed, modelParse([]byte(request)).Request, m.f+1)
		frame := int64(len(modelFrame(modelTxnImage(p.Txn))))
		m.say(request)
		answers := serveLines(t, c, m.said)
		used := answers[len(answers)-2]
		if want := fmt.Sprintf("status %d %d 0 0", m.f, m.f); used != want {
			t.Fatalf("%+v, %q: %q, not %q", c, m.said, used, want)
		}
		if fits := answers[len(answers)-1] != "error 8"; fits != (frame <= 64*c.LogBlocks) {
			t.Fatalf("%+v, %q: a frame of %d bytes: %q", c, m.said, frame, answers[len(answers)-1])
		}
	}
}

func TestServeSnapshot(t *testing.T) {
	checkTalk(t, impl.Config{SnapBlocks: 4, LogBlocks: 16}, `
		multi create /a x ; create /b y ; create /c z ; create /d w | queued 1
		snap | started 0
		snap | busy
		flush | flushed 1 1
		step 2 | stepped 2
		snap | busy
		step 1 | stepped 1
		step 1 | stepped 1
		step 1 | sealed 0
		step 1 | idle
		status | status 1 1 156 0
		snap | started 1
		step 5 | sealed 1
		status | status 1 1 0 0
		snap | started 1
		step 1000 | sealed 1
		snap | started 1
		step 4 | stepped 4
		crash | crashed
		recover | recovered 1
		step 1 | idle
		dump | tree 5 / - 0 4 0 0 1 /a x 0 0 1 1 1 /b y 0 0 1 1 1 /c z 0 0 1 1 1 /d w 0 0 1 1 1`)
}

// TestServeSnapshotMoves has nodes that come and go behind and ahead of the last one emitted, and that one
// itself.
func TestServeSnapshotMoves(t *testing.T) {
	c := impl.Config{SnapBlocks: 8, LogBlocks: 16}
	begin := `
		multi create /b - ; create /d - ; create /f - | queued 1
		flush | flushed 1 1
		snap | started 1
		step 3 | stepped 3
	`
	end := `
		crash 64 | crashed
		recover | recovered 2
	`
	checkTalk(t, c, begin+`
		create /a - | queued 2
		flush | flushed 1 2
		step 1 | sealed 1`+end+`
		dump | tree 5 / - 0 4 0 0 2 /a - 0 0 2 2 2 /b - 0 0 1 1 1 /d - 0 0 1 1 1 /f - 0 0 1 1 1`)
	checkTalk(t, c, begin+`
		create /e - | queued 2
		flush | flushed 1 2
		step 1 | stepped 1
		step 1 | sealed 1`+end+`
		dump | tree 5 / - 0 4 0 0 2 /b - 0 0 1 1 1 /d - 0 0 1 1 1 /e - 0 0 2 2 2 /f - 0 0 1 1 1`)
	checkTalk(t, c, begin+`
		create /e - | queued 2
		step 1 | sealed 1
		flush | flushed 1 2`+end+`
		list / | children 4 b d e f`)
	// The last one emitted goes: the next is still the one behind it.
	checkTalk(t, c, begin+`
		delete /d -1 | queued 2
		flush | flushed 1 2
		step 1 | sealed 1`+end+`
		dump | tree 3 / - 0 4 0 0 2 /b - 0 0 1 1 1 /f - 0 0 1 1 1`)
	checkTalk(t, c, begin+`
		multi delete /d -1 ; create /d x | queued 2
		flush | flushed 1 2
		step 1 | sealed 1`+end+`
		get /d | node x 0 0 2 2 2`)
	checkTalk(t, c, begin+`
		delete /b -1 | queued 2
		flush | flushed 1 2
		step 9 | sealed 1`+end+`
		list / | children 2 d f`)
	// Nothing is left to be emitted: the snapshot is sealed as it is.
	checkTalk(t, c, begin+`
		delete /f -1 | queued 2
		flush | flushed 1 2
		step 1 | sealed 1`+end+`
		list / | children 2 b d`)
	checkTalk(t, c, begin+`
		multi delete /f -1 ; delete /d -1 ; delete /b -1 | queued 2
		flush | flushed 1 2
		step 1 | sealed 1`+end+`
		dump | tree 1 / - 0 6 0 0 2`)
	checkTalk(t, c, begin+`
		multi delete /f -1 ; create /g - | queued 2
		flush | flushed 1 2
		step 1 | sealed 1`+end+`
		list / | children 3 b d g`)
	checkTalk(t, c, begin+`
		create /d/e - | queued 2
		flush | flushed 1 2
		step 1 | stepped 1
		step 1 | sealed 1`+end+`
		list /d | children 1 e`)
}

// TestServeSnapshotFull has snapshots of exactly the area's bytes, and of one more. The root has 23 bytes,
// /a 24 and its data.
func TestServeSnapshotFull(t *testing.T) {
	x17, x18 := strings.Repeat("x", 17), strings.Repeat("x", 18)
	one := impl.Config{SnapBlocks: 1, LogBlocks: 8}
	for _, steps := range []string{"step 1 | stepped 1\nstep 1 | ", "step 2 | ", "step 1000 | "} {
		checkTalk(t, one, `
			create /a `+x17+` | queued 1
			flush | flushed 1 1
			snap | started 1
			`+steps+`sealed 1
			step 1 | idle
			crash | crashed
			recover | recovered 1
			get /a | node `+x17+` 0 0 1 1 1
			status | status 1 1 0 0`)
		checkTalk(t, one, `
			create /a `+x18+` | queued 1
			flush | flushed 1 1
			snap | started 1
			`+steps+`snapfull
			step 1 | idle
			status | status 1 1 86 0
			snap | started 1
			`+steps+`snapfull
			set /a - -1 | queued 2
			flush | flushed 1 2
			snap | started 2
			`+steps+`sealed 2
			crash | crashed
			recover | recovered 2
			get /a | node - 1 0 1 2 1
			status | status 2 2 0 0`)
	}
	// The first step may be too large already, and what was emitted and deleted since counts.
	checkTalk(t, one, `
		set / `+strings.Repeat("x", 42)+` -1 | queued 1
		flush | flushed 1 1
		snap | started 1
		step 1 | snapfull
		set / `+strings.Repeat("x", 41)+` -1 | queued 2
		flush | flushed 1 2
		snap | started 2
		step 1 | sealed 2`)
	checkTalk(t, one, `
		create /a - | queued 1
		create /b - | queued 2
		flush | flushed 2 2
		snap | started 2
		step 2 | stepped 2
		delete /a -1 | queued 3
		flush | flushed 1 3
		step 1 | snapfull
		snap | started 3
		step 2 | sealed 3
		dump | tree 2 / - 0 3 0 0 3 /b - 0 0 2 2 2`)
}

// TestServeManySeals goes from bank to bank, from slot to slot.
func TestServeManySeals(t *testing.T) {
	lines, answers := []string{"create /a -"}, []string{"queued 1"}
	z := 1
	for i := range 20 {
		lines = append(lines, "flush", "snap", "step 2", fmt.Sprintf("set /a %d %d", i, i))
		answers = append(answers, fmt.Sprintf("flushed 1 %d", z), fmt.Sprintf("started %d", z), fmt.Sprintf("sealed %d", z), fmt.Sprintf("queued %d", z+1))
		if i%3 == 2 {
			lines = append(lines, "crash", "recover", fmt.Sprintf("set /a %d -1", i))
			answers = append(answers, "crashed", fmt.Sprintf("recovered %d", z), fmt.Sprintf("queued %d", z+1))
		}
		z++
	}
	checkLike(t, smallConfig, lines, answers)
}
