package tests

import (
	"slices"
	"strconv"
	"strings"
	"testing"

	"loop.example/s01594/impl"
)

func TestLineConstants(t *testing.T) {
	if impl.MaxScript != 60000 {
		t.Error("a limit is not the document's")
	}
	kinds := []int64{impl.LineBad, impl.LineRequest, impl.LineFlush, impl.LineGet, impl.LineList, impl.LineDump, impl.LineSnap,
		impl.LineStep, impl.LineArm, impl.LineCrash, impl.LineRot, impl.LineRecover, impl.LineStatus}
	for i, kind := range kinds {
		if kind != int64(i) {
			t.Errorf("kind %d is %d", i, kind)
		}
	}
}

func single(op impl.Op) impl.Line {
	return impl.Line{Kind: 1, Request: request(op)}
}

func several(ops ...impl.Op) impl.Line {
	return impl.Line{Kind: 1, Multi: true, Request: request(ops...)}
}

var goodLines = []struct {
	text string
	want impl.Line
}{
	{"create /a x", single(create("/a", "x"))},
	{"create /a -", single(create("/a", ""))},
	{"create /a --", single(create("/a", "--"))},
	{"create /a -1", single(create("/a", "-1"))},
	{"create - -", single(create("-", ""))},
	{"create create create", single(create("create", "create"))},
	{"create a;b ;;", single(create("a;b", ";;"))},
	{"create ! ~", single(create("!", "~"))},
	{"seq /a x", single(createSeq("/a", "x"))},
	{"seq /a -", single(createSeq("/a", ""))},
	{"delete /a 0", single(remove("/a", 0))},
	{"delete /a -1", single(remove("/a", -1))},
	{"delete - 999999999", single(remove("-", 999999999))},
	{"set /a x 7", single(set("/a", "x", 7))},
	{"set /a - -999999999", single(set("/a", "", -999999999))},
	{"set / 5 5", single(set("/", "5", 5))},
	{"check /a 10", single(check("/a", 10))},
	{"check not/a/path -2", single(check("not/a/path", -2))},
	{"multi create /a x", several(create("/a", "x"))},
	{"multi seq /a - ; set /b x -1 ; delete /c 4 ; check / 0 ; create /d y",
		several(createSeq("/a", ""), set("/b", "x", -1), remove("/c", 4), check("/", 0), create("/d", "y"))},
	{"multi check multi 0 ; create multi multi", several(check("multi", 0), create("multi", "multi"))},
	{"flush", impl.Line{Kind: 2}},
	{"get /a", impl.Line{Kind: 3, Path: "/a"}},
	{"get ;", impl.Line{Kind: 3, Path: ";"}},
	{"get get", impl.Line{Kind: 3, Path: "get"}},
	{"get -", impl.Line{Kind: 3, Path: "-"}},
	{"list /", impl.Line{Kind: 4, Path: "/"}},
	{"list ;;", impl.Line{Kind: 4, Path: ";;"}},
	{"dump", impl.Line{Kind: 5}},
	{"snap", impl.Line{Kind: 6}},
	{"step 1", impl.Line{Kind: 7, Nums: []int64{1}}},
	{"step 1000", impl.Line{Kind: 7, Nums: []int64{1000}}},
	{"arm 1", impl.Line{Kind: 8, Nums: []int64{1}}},
	{"arm 10000 0 -1 999999999 -999999999", impl.Line{Kind: 8, Nums: []int64{10000, 0, -1, 999999999, -999999999}}},
	{"crash", impl.Line{Kind: 9}},
	{"crash 0", impl.Line{Kind: 9, Nums: []int64{0}}},
	{"crash 64 -64 7", impl.Line{Kind: 9, Nums: []int64{64, -64, 7}}},
	{"rot 0 0 1", impl.Line{Kind: 10, Nums: []int64{0, 0, 1}}},
	{"rot 1 4095 255", impl.Line{Kind: 10, Nums: []int64{1, 4095, 255}}},
	{"recover", impl.Line{Kind: 11}},
	{"status", impl.Line{Kind: 12}},
}

func checkLine(t *testing.T, text string, want impl.Line) {
	t.Helper()
	if got := impl.ParseLine([]byte(text)); !sameLine(got, want) {
		if len(text) > 200 {
			text = text[:200] + ".."
		}
		t.Errorf("%q: %+v, not %+v", text, got, want)
	}
}

func TestParseLine(t *testing.T) {
	for _, g := range goodLines {
		checkLine(t, g.text, g.want)
		if !sameLine(modelParse([]byte(g.text)), g.want) {
			t.Errorf("the model reads %q as %+v", g.text, modelParse([]byte(g.text)))
		}
	}
}

func TestParseLineRefuses(t *testing.T) {
	for _, text := range []string{
		"", " ", "  ", ";", "-", "0", "x", "\n", "flush\n", "\nflush", "flush\r", "Flush", "FLUSH", "flus", "flushh", "flush flush",
		"create", "create /a", "create /a x y", "create /a x 0", "create ; x", "create /a ;", "create /a x ;", "; create /a x",
		"seq", "seq /a", "seq /a x 1", "seq ; x", "seq /a ;",
		"delete", "delete /a", "delete /a x", "delete /a 0 0", "delete /a -", "delete ; 0", "delete /a ;",
		"set", "set /a", "set /a x", "set /a x y", "set /a x 0 0", "set ; x 0", "set /a ; 0", "set /a x ;", "set /a x -",
		"check", "check /a", "check /a x", "check /a 0 0", "check ; 0",
		"multi", "multi ;", "multi multi create /a x", "multi flush", "multi get /a", "multi crash", "multi x", "multi create /a",
		"multi create /a x ;", "multi ; create /a x", "multi create /a x ; ; create /b x", "multi create /a x ; create /b",
		"multi create /a x create /b x", "multi create /a x ; flush", "multi create /a x;create /b x", "multi create ; x ; create /a x",
		"multi check /a 0 ; check /a 01", "multi check /a 0 ; multi check /a 0",
		"get", "get /a /b", "list", "list / /", "dump /", "dump 1", "snap 1", "recover 1", "status 0", "status -",
		"step", "step x", "step 1 1", "step 1x", "arm", "arm x", "arm 1 x", "arm 1 1 x", "arm -", "crash x", "crash 0 x", "crash -", "crash 1 - 1",
		"rot", "rot 0", "rot 0 0", "rot 0 0 1 1", "rot x 0 1", "rot 0 x 1", "rot 0 0 x",
	} {
		checkLine(t, text, impl.Line{})
	}
}

func TestParseLineNumbers(t *testing.T) {
	for text, want := range map[string]int64{"0": 0, "1": 1, "9": 9, "10": 10, "123456789": 123456789, "999999999": 999999999, "100000000": 100000000,
		"-1": -1, "-9": -9, "-10": -10, "-999999999": -999999999, "-123456789": -123456789} {
		checkLine(t, "crash "+text, impl.Line{Kind: 9, Nums: []int64{want}})
		checkLine(t, "arm 3 5 "+text, impl.Line{Kind: 8, Nums: []int64{3, 5, want}})
		checkLine(t, "check /a "+text, single(check("/a", want)))
		checkLine(t, "delete /a "+text, single(remove("/a", want)))
		checkLine(t, "set /a x "+text, single(set("/a", "x", want)))
	}
	for _, text := range []string{"00", "01", "-0", "-01", "+0", "+1", "--1", "-+1", "+-1", "-", "+", "1000000000", "-1000000000", "1234567890",
		"0x1", "1e3", "1.0", "1_0", "0_1", "_1", "1a", "a1", "1-", "1,", "0-", "9999999999", "99999999999999999999", "-99999999999999999999", "1/", "1:", "1;", "/1", ":1"} {
		for _, line := range []string{"crash ", "crash 1 ", "arm 3 ", "arm ", "step ", "check /a ", "delete /a ", "set /a x ", "rot ", "multi check / 0 ; check /a "} {
			checkLine(t, line+text, impl.Line{})
		}
		checkLine(t, "rot 0 "+text+" 1", impl.Line{})
		checkLine(t, "rot 0 0 "+text, impl.Line{})
	}
}

func TestParseLineRanges(t *testing.T) {
	for _, r := range []struct {
		before, after string
		least, most   int64
	}{{"step ", "", 1, 1000}, {"arm ", "", 1, 10000}, {"arm ", " 5", 1, 10000}, {"rot ", " 0 1", 0, 1}, {"rot 1 ", " 1", 0, 4095}, {"rot 1 1 ", "", 1, 255}} {
		for x := r.least - 3; x <= r.most+3; x++ {
			text := r.before + strconv.FormatInt(x, 10) + r.after
			if good := impl.ParseLine([]byte(text)).Kind != impl.LineBad; good != (x >= r.least && x <= r.most) {
				t.Errorf("%q: good is %v", text, good)
			}
		}
		for _, x := range []int64{-999999999, 999999999, 100000, 65536, -r.least, -r.most} {
			if x < r.least || x > r.most {
				checkLine(t, r.before+strconv.FormatInt(x, 10)+r.after, impl.Line{})
			}
		}
	}
}

// TestParseLineBytes asks for every byte alone, at the beginning, in the middle and at the end of a field.
func TestParseLineBytes(t *testing.T) {
	for b := range 256 {
		one := string([]byte{byte(b)})
		for _, field := range []string{one, one + "a", "a" + one, "a" + one + "a", one + one} {
			inside := b >= 33 && b <= 126
			want := impl.Line{}
			if inside {
				want = impl.Line{Kind: 3, Path: field}
			}
			checkLine(t, "get "+field, want)
			data := field
			if data == "-" {
				data = ""
			}
			create, set := impl.Line{}, impl.Line{}
			if inside && field != ";" {
				create, set = single(impl.Op{Kind: 1, Path: "/p", Data: data}), single(impl.Op{Kind: 3, Path: field, Data: data, Version: 3})
			}
			checkLine(t, "create /p "+field, create)
			checkLine(t, "set "+field+" "+field+" 3", set)
		}
		checkLine(t, one+"flush", impl.Line{})
		checkLine(t, "flush"+one, impl.Line{})
		if b != ' ' {
			checkLine(t, "get"+one+"/a", impl.Line{})
		}
	}
	for _, text := range []string{"get é", "get /a\xc3", "get \xa0", "get /\u2028", "get\u00a0/a", "create /a \xff", "flush\x00", "\ufeffflush"} {
		checkLine(t, text, impl.Line{})
	}
}

// TestParseLineOneEdit changes every good line in one byte in all the ways that matter, and compares.
func TestParseLineOneEdit(t *testing.T) {
	for _, g := range goodLines {
		for at := range len(g.text) + 1 {
			for _, b := range []string{" ", ";", "-", "0", "1", "9", "a", "x", "\t", "\n", "\x7f", "\x80", " ; "} {
				edits := []string{g.text[:at] + b + g.text[at:]}
				if at < len(g.text) {
					edits = append(edits, g.text[:at]+b+g.text[at+1:], g.text[:at]+g.text[at+1:])
				}
				for _, edit := range edits {
					checkLine(t, edit, modelParse([]byte(edit)))
				}
			}
		}
	}
}

func TestParseLineLimits(t *testing.T) {
	for _, word := range []string{"get ", "list "} {
		long := strings.Repeat("p", impl.MaxScript-len(word))
		checkLine(t, word+long, impl.Line{Kind: modelParse([]byte(word + "p")).Kind, Path: long})
		checkLine(t, word+long+"p", impl.Line{})
	}
	// The first path is as long as it must be for the operations to fill the text exactly.
	op := " ; check /abc 0"
	first := "multi check /" + strings.Repeat("a", (impl.MaxScript-len("multi check / 0"))%len(op)) + " 0"
	count := (impl.MaxScript - len(first)) / len(op)
	full := first + strings.Repeat(op, count)
	if len(full) != impl.MaxScript {
		t.Fatal(len(full))
	}
	line := impl.ParseLine([]byte(full))
	if line.Kind != impl.LineRequest || !line.Multi || len(line.Request.Ops) != count+1 || line.Request.Ops[count] != check("/abc", 0) {
		t.Errorf("%d operations: kind %d, %d operations", count+1, line.Kind, len(line.Request.Ops))
	}
	checkLine(t, strings.Replace(full, "multi check /", "multi check /a", 1), impl.Line{})
	// The crash at operation N has a number more ahead of the choices.
	for _, c := range []struct {
		word string
		own  int
	}{{"crash", 0}, {"arm 3", 1}} {
		full := c.word + strings.Repeat(" 1", impl.MaxPending-c.own)
		line := impl.ParseLine([]byte(full))
		if line.Kind == impl.LineBad || len(line.Nums) != impl.MaxPending || line.Nums[impl.MaxPending-1] != 1 {
			t.Errorf("%s with MaxPending numbers: kind %d, %d numbers", c.word, line.Kind, len(line.Nums))
		}
		checkLine(t, full+" 1", impl.Line{})
		checkLine(t, full+" x", impl.Line{})
	}
}

// TestParseLineLikeModel makes texts of the words of lines.
func TestParseLineLikeModel(t *testing.T) {
	n := &numbers{state: 61}
	words := []string{"create", "seq", "delete", "set", "check", "multi", "flush", "get", "list", "dump", "snap", "step", "arm", "crash", "rot", "recover", "status"}
	fields := slices.Concat(words, []string{";", ";", ";", "-", "0", "1", "-1", "7", "255", "256", "1000", "1001", "4095", "4096", "10000", "10001", "01", "", "/a", "/a", "x", "\t"})
	var kinds [13]int
	for range 60000 {
		parts := []string{pick(n, words...)}
		if n.below(4) > 0 {
			parts = n.lineWords(parts[0])
		}
		for range pick(n, 0, 0, 0, 1, 1, 2) {
			at := n.below(len(parts) + 1)
			if n.below(2) == 0 && at < len(parts) {
				parts[at] = pick(n, fields...)
			} else {
				parts = slices.Insert(parts, at, pick(n, fields...))
			}
		}
		text := strings.Join(parts, " ")
		want := modelParse([]byte(text))
		kinds[want.Kind]++
		checkLine(t, text, want)
	}
	for kind, count := range kinds {
		if count < 300 {
			t.Errorf("only %d lines of kind %d", count, kind)
		}
	}
}

// lineWords are mostly a line with this word.
func (n *numbers) lineWords(word string) []string {
	number := func() string { return pick(n, "0", "1", "-1", "64", "999", "255", "4096", "1000000000") }
	switch word {
	case "create", "seq":
		return []string{word, "/a", pick(n, "x", "-")}
	case "delete", "check":
		return []string{word, "/a", number()}
	case "set":
		return []string{word, "/a", pick(n, "x", "-"), number()}
	case "multi":
		out := []string{word}
		for range pick(n, 1, 1, 2, 3) {
			if len(out) > 1 {
				out = append(out, ";")
			}
			out = append(out, n.lineWords(pick(n, "create", "seq", "delete", "set", "check"))...)
		}
		return out
	case "get", "list":
		return []string{word, "/a"}
	case "step":
		return []string{word, number()}
	case "arm":
		return []string{word, number(), number()}
	case "crash":
		return []string{word, number(), number()}[:1+n.below(3)]
	case "rot":
		return []string{word, pick(n, "0", "1"), number(), number()}
	}
	return []string{word}
}
