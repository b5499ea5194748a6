package tests

import (
	"fmt"
	"slices"
	"strconv"
	"strings"
	"testing"

	"loop.example/s01594/impl"
)

// serveLines gives the answers to the lines, one each.
func serveLines(t *testing.T, c impl.Config, lines []string) []string {
	t.Helper()
	answers := strings.Split(string(impl.Serve([]byte(strings.Join(lines, "\n")+"\n"), c)), "\n")
	if len(answers) != len(lines)+1 || answers[len(lines)] != "" {
		t.Fatalf("%d lines have the answers %q", len(lines), answers)
	}
	return answers[:len(lines)]
}

// talk is a text of lines, each with its answer behind a bar.
func talk(text string) (lines, answers []string) {
	for pair := range strings.SplitSeq(text, "\n") {
		if line, answer, found := strings.Cut(strings.TrimSpace(pair), " | "); found {
			lines, answers = append(lines, line), append(answers, answer)
		}
	}
	return lines, answers
}

// checkTalk asks for the answers of a talk, of the program and of the model.
func checkTalk(t *testing.T, c impl.Config, text string) {
	t.Helper()
	lines, want := talk(text)
	got := serveLines(t, c, lines)
	model, _ := modelServe([]byte(strings.Join(lines, "\n")), c)
	for i, line := range lines {
		if got[i] != want[i] {
			t.Errorf("%+v, line %d, %q: %q, not %q", c, i, line, got[i], want[i])
			return
		}
		if model[i] != want[i] {
			t.Errorf("%+v, line %d, %q: the model answers %q, not %q", c, i, line, model[i], want[i])
			return
		}
	}
}

// checkLike compares with the model's answers.
func checkLike(t *testing.T, c impl.Config, lines, want []string) {
	t.Helper()
	got := serveLines(t, c, lines)
	for i := range lines {
		if got[i] != want[i] {
			t.Fatalf("%+v, after %q, line %d, %q: %q, not %q", c, lines[:i], i, lines[i], got[i], want[i])
		}
	}
}

func opLine(o impl.Op) string {
	data := o.Data
	if data == "" {
		data = "-"
	}
	switch {
	case o.Seq:
		return "seq " + o.Path + " " + data
	case o.Kind == impl.OpCreate:
		return "create " + o.Path + " " + data
	case o.Kind == impl.OpDelete:
		return fmt.Sprintf("delete %s %d", o.Path, o.Version)
	case o.Kind == impl.OpSet:
		return fmt.Sprintf("set %s %s %d", o.Path, data, o.Version)
	}
	return fmt.Sprintf("check %s %d", o.Path, o.Version)
}

func numbersLine(word string, nums ...int64) string {
	for _, x := range nums {
		word += " " + strconv.FormatInt(x, 10)
	}
	return word
}

// requestLine is mostly one that goes well on the tree.
func (n *numbers) requestLine(tree impl.Tree) string {
	line := n.anyRequest(tree)
	for n.below(5) > 0 {
		if p, _ := modelPrepare(tree, modelParse([]byte(line)).Request, 1); p.Code == 0 {
			break
		}
		line = n.anyRequest(tree)
	}
	return line
}

func (n *numbers) anyRequest(tree impl.Tree) string {
	var ops []string
	for range pick(n, 1, 1, 1, 1, 2, 3, 5) {
		o := n.op(tree)
		if n.below(30) == 0 {
			o.Path = pick(n, "/", "a", "/a/", "/A", "/a/b/c/d/e/f/g", "-", "/0123456789abcdefg")
		}
		if o.Data != "" {
			o.Data = pick(n, "x", "y", "-", "--", "-1", "!~", strings.Repeat("m", 40), strings.Repeat("m", 64), strings.Repeat("q", 65))
		}
		ops = append(ops, opLine(o))
	}
	if len(ops) > 1 || n.below(4) == 0 {
		return "multi " + strings.Join(ops, " ; ")
	}
	return ops[0]
}

// crashChoices are mostly of one sort: writes kept, lost or torn.
func (n *numbers) crashChoices() []int64 {
	switch n.below(6) {
	case 0:
		return nil
	case 1:
		return slices.Repeat([]int64{64}, n.below(40))
	case 2:
		return slices.Repeat([]int64{int64(n.below(64))}, n.below(40))
	case 3, 4:
		// The first is lost or torn, what comes behind it is kept.
		return append([]int64{int64(n.below(64))}, slices.Repeat([]int64{64}, n.below(40))...)
	}
	return n.choices(20)
}

func (n *numbers) armLine(most int) string {
	return numbersLine("arm", append([]int64{int64(1 + n.below(most))}, n.crashChoices()...)...)
}

// removeLine takes away the node that a snapshot would emit last, so that nothing may be left to be emitted.
func (n *numbers) removeLine(tree impl.Tree) string {
	return "delete " + tree.Nodes[len(tree.Nodes)-1].Path + " -1"
}

func (n *numbers) rotLine(m *modelServer) string {
	if len(m.rots) > 0 && n.below(2) == 0 {
		return pick(n, m.rots...)
	}
	return numbersLine("rot", pick(n, m.super.Bank, m.super.Bank, 1-m.super.Bank), int64(n.below(int(64*m.config.SnapBlocks)+8)), int64(1+n.below(255)))
}

// nextLine is a line that may do something to the server as it is.
func (n *numbers) nextLine(m *modelServer, rot bool) string {
	known := pick(n, append(m.queued.Nodes, impl.Node{Path: "/nothing"})...).Path
	switch {
	case rot && (n.below(40) == 0 || !m.up && n.below(6) == 0):
		return n.rotLine(m)
	case !m.up && n.below(3) > 0:
		return pick(n, "recover", "recover", n.armLine(4))
	case m.snapping && n.below(8) == 0:
		return n.removeLine(m.queued)
	}
	switch k := n.below(100); {
	case k < 20 && m.snapping:
		return numbersLine("step", pick[int64](n, 1, 1, 2, 3, 5, 1000))
	case k < 50 && m.full:
		return pick(n, "flush", "snap", "step 1", "step 3", "step 1000", n.removeLine(m.queued))
	case k < 64:
		return n.requestLine(m.queued)
	case k < 78:
		return "flush"
	case k < 81:
		return pick(n, "snap", "snap", "step 1")
	case k < 87:
		return n.armLine(14)
	case k < 89:
		return numbersLine("crash", n.crashChoices()...)
	case k < 91:
		return pick(n, "recover", "", "bad", "flush ", "step 0", "create /a", "arm 0", "rot 0 4096 1")
	}
	return pick(n, "get "+known, "list "+known, "get "+n.path(), "dump", "status")
}

func (n *numbers) config() impl.Config {
	return impl.Config{SnapBlocks: pick[int64](n, 1, 2, 4, 6, 8, 16, 40), LogBlocks: pick[int64](n, 1, 2, 4, 6, 8, 16, 40)}
}

// script makes lines, each with a look at what those before it made of the model. What a recovery brought
// back is always asked for.
func (n *numbers) script(c impl.Config, count int, rot bool) ([]string, []string, *modelServer) {
	m := newModelServer(c)
	for len(m.said) < count {
		m.say(n.nextLine(m, rot))
	}
	return m.said, m.answers, m
}

// say is for scripts that are made while they run.
func (m *modelServer) say(lines ...string) string {
	answer := ""
	for _, line := range lines {
		answer = m.hear(line)
		m.said, m.answers = append(m.said, line), append(m.answers, answer)
		if line == "recover" && m.up {
			for _, look := range []string{"status", "dump"} {
				m.said, m.answers = append(m.said, look), append(m.answers, m.hear(look))
			}
		}
	}
	return answer
}
