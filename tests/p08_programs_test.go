package tests

import (
	"fmt"
	"math/rand"
	"slices"
	"strings"
	"testing"

	"loop.example/g00414/impl"
)

// Promise 8: a program goes as far as its pattern means; what is closed is closed, and has what it came of.

// shownProgs are the programs of each kind alone, and of each kind within each other one.
func shownProgs() map[string]string {
	return map[string]string{
		"": "j1 done", "a": "a>1 done", ".": ".>1 done", "[ab]": "[ab]>1 done", "[^ab]": "[^ab]>1 done", "^": "b1 done", "$": "e1 done",
		"a*": "s1,3 a>2 j0 done", "a+": "a>1 s0,2 done", "a?": "s1,2 a>2 done", "ab": "a>1 b>2 done", "a|b": "s1,3 a>2 j4 b>4 done",

		"()*": "s1,3 j2 j0 done", ".*": "s1,3 .>2 j0 done", "[ab]*": "s1,3 [ab]>2 j0 done", "[^ab]*": "s1,3 [^ab]>2 j0 done", "^*": "s1,3 b2 j0 done", "$*": "s1,3 e2 j0 done",
		"a**": "s1,5 s2,4 a>3 j1 j0 done", "a+*": "s1,4 a>2 s1,3 j0 done", "a?*": "s1,4 s2,3 a>3 j0 done", "(ab)*": "s1,4 a>2 b>3 j0 done", "(a|b)*": "s1,6 s2,4 a>3 j5 b>5 j0 done",

		"()+": "j1 s0,2 done", ".+": ".>1 s0,2 done", "[ab]+": "[ab]>1 s0,2 done", "[^ab]+": "[^ab]>1 s0,2 done", "^+": "b1 s0,2 done", "$+": "e1 s0,2 done",
		"a*+": "s1,3 a>2 j0 s0,4 done", "a++": "a>1 s0,2 s0,3 done", "a?+": "s1,2 a>2 s0,3 done", "(ab)+": "a>1 b>2 s0,3 done", "(a|b)+": "s1,3 a>2 j4 b>4 s0,5 done",

		"()?": "s1,2 j2 done", ".?": "s1,2 .>2 done", "[ab]?": "s1,2 [ab]>2 done", "[^ab]?": "s1,2 [^ab]>2 done", "^?": "s1,2 b2 done", "$?": "s1,2 e2 done",
		"a*?": "s1,4 s2,4 a>3 j1 done", "a+?": "s1,3 a>2 s1,3 done", "a??": "s1,3 s2,3 a>3 done", "(ab)?": "s1,3 a>2 b>3 done", "(a|b)?": "s1,5 s2,4 a>3 j5 b>5 done",

		"()c": "j1 c>2 done", "ac": "a>1 c>2 done", ".c": ".>1 c>2 done", "[ab]c": "[ab]>1 c>2 done", "[^ab]c": "[^ab]>1 c>2 done", "^c": "b1 c>2 done", "$c": "e1 c>2 done",
		"a*c": "s1,3 a>2 j0 c>4 done", "a+c": "a>1 s0,2 c>3 done", "a?c": "s1,2 a>2 c>3 done", "abc": "a>1 b>2 c>3 done", "(a|b)c": "s1,3 a>2 j4 b>4 c>5 done",

		"c()": "c>1 j2 done", "ca": "c>1 a>2 done", "c.": "c>1 .>2 done", "c[ab]": "c>1 [ab]>2 done", "c[^ab]": "c>1 [^ab]>2 done", "c^": "c>1 b2 done", "c$": "c>1 e2 done",
		"ca*": "c>1 s2,4 a>3 j1 done", "ca+": "c>1 a>2 s1,3 done", "ca?": "c>1 s2,3 a>3 done", "c(ab)": "c>1 a>2 b>3 done", "c(a|b)": "c>1 s2,4 a>3 j5 b>5 done",

		"|c": "s1,3 j2 j4 c>4 done", "a|c": "s1,3 a>2 j4 c>4 done", ".|c": "s1,3 .>2 j4 c>4 done", "[ab]|c": "s1,3 [ab]>2 j4 c>4 done", "[^ab]|c": "s1,3 [^ab]>2 j4 c>4 done", "^|c": "s1,3 b2 j4 c>4 done", "$|c": "s1,3 e2 j4 c>4 done",
		"a*|c": "s1,5 s2,4 a>3 j1 j6 c>6 done", "a+|c": "s1,4 a>2 s1,3 j5 c>5 done", "a?|c": "s1,4 s2,3 a>3 j5 c>5 done", "ab|c": "s1,4 a>2 b>3 j5 c>5 done", "a|b|c": "s1,6 s2,4 a>3 j5 b>5 j7 c>7 done",

		"c|": "s1,3 c>2 j4 j4 done", "c|a": "s1,3 c>2 j4 a>4 done", "c|.": "s1,3 c>2 j4 .>4 done", "c|[ab]": "s1,3 c>2 j4 [ab]>4 done", "c|[^ab]": "s1,3 c>2 j4 [^ab]>4 done", "c|^": "s1,3 c>2 j4 b4 done", "c|$": "s1,3 c>2 j4 e4 done",
		"c|a*": "s1,3 c>2 j6 s4,6 a>5 j3 done", "c|a+": "s1,3 c>2 j5 a>4 s3,5 done", "c|a?": "s1,3 c>2 j5 s4,5 a>5 done", "c|ab": "s1,3 c>2 j5 a>4 b>5 done", "c|(a|b)": "s1,3 c>2 j7 s4,6 a>5 j7 b>7 done",

		"|": "s1,3 j2 j4 j4 done", "^$": "b1 e2 done", "(^|a)*b$": "s1,6 s2,4 b3 j5 a>5 j0 b>7 e8 done", "(a*|b+)?c": "s1,8 s2,6 s3,5 a>4 j2 j8 b>7 s6,8 c>9 done",
	}
}

func TestProgramsInstructionByInstruction(t *testing.T) {
	for pattern, shown := range shownProgs() {
		nodes := impl.ParsePattern(pattern).Nodes
		want(t, fmt.Sprintf("CompilePattern %q", pattern), impl.CompilePattern(nodes), impl.ProgResult{Prog: progOf(shown)})
		want(t, fmt.Sprintf("ProgFault of %q", pattern), impl.ProgFault(progOf(shown)), int64(impl.OK))
	}
}

// progTold is the program of the tree at a place, from a place of the program on: each part is there ahead of what leads over it.
func progTold(nodes []impl.Node, place int64, from int64) []impl.Inst {
	n := nodes[place]
	one := func(by int64) ([]impl.Inst, int64) {
		inner := progTold(nodes, n.Left, from+by)
		return inner, from + by + int64(len(inner))
	}
	switch n.Kind {
	case impl.ReEmpty:
		return []impl.Inst{{Op: impl.OpJump, X: from + 1}}
	case impl.ReBegin:
		return []impl.Inst{{Op: impl.OpBegin, X: from + 1}}
	case impl.ReEnd:
		return []impl.Inst{{Op: impl.OpEnd, X: from + 1}}
	case impl.ReCat:
		left, behind := one(0)
		return append(left, progTold(nodes, n.Right, behind)...)
	case impl.ReAlt:
		left, jump := one(1)
		right := progTold(nodes, n.Right, jump+1)
		split := impl.Inst{Op: impl.OpSplit, X: from + 1, Y: jump + 1}
		return slices.Concat([]impl.Inst{split}, left, []impl.Inst{{Op: impl.OpJump, X: jump + 1 + int64(len(right))}}, right)
	case impl.ReStar:
		inner, jump := one(1)
		return slices.Concat([]impl.Inst{{Op: impl.OpSplit, X: from + 1, Y: jump + 1}}, inner, []impl.Inst{{Op: impl.OpJump, X: from}})
	case impl.RePlus:
		inner, split := one(0)
		return append(inner, impl.Inst{Op: impl.OpSplit, X: from, Y: split + 1})
	case impl.ReOpt:
		inner, behind := one(1)
		return append([]impl.Inst{{Op: impl.OpSplit, X: from + 1, Y: behind}}, inner...)
	}
	return []impl.Inst{{Op: impl.OpByte, Node: n, X: from + 1}}
}

func wantOfCompiled(t *testing.T, nodes []impl.Node) {
	t.Helper()
	got := impl.CompilePattern(nodes)
	asked := append(progTold(nodes, int64(len(nodes))-1, 0), impl.Inst{Op: impl.OpDone})
	if got.Code != impl.OK || !slices.Equal(got.Prog, asked) {
		t.Errorf("CompilePattern %+v = %+v, asked for %+v", nodes, got, asked)
	}
	if len(got.Prog) > impl.MaxProg || impl.ProgFault(got.Prog) != impl.OK {
		t.Errorf("CompilePattern %+v has %d instructions, fault %d", nodes, len(got.Prog), impl.ProgFault(got.Prog))
	}
}

func TestProgramsOfAllTrees(t *testing.T) {
	for _, tree := range slices.Concat(treesOf(5, leavesOfTrees())...) {
		wantOfCompiled(t, tree)
	}
	for _, tree := range slices.Concat(treesOf(8, [][]impl.Node{charOf('a')})...) {
		wantOfCompiled(t, tree)
	}
	for _, tree := range someTrees(5000) {
		wantOfCompiled(t, tree)
	}
}

func TestProgramsOfTheGreatestTrees(t *testing.T) {
	for _, tree := range greatTrees() {
		wantOfCompiled(t, tree)
	}
	for pattern, count := range map[string]int{
		"a" + strings.Repeat("*", 23): 48, "a" + strings.Repeat("+", 23): 25, "a" + strings.Repeat("?", 23): 25, "^" + strings.Repeat("*", 23): 48,
		strings.Repeat("a", 12): 13, strings.Repeat("a|", 11) + "b": 35, strings.Repeat("a|", 11) + "b*": 37, "(" + strings.Repeat("a|", 7) + "b)" + strings.Repeat("*", 9): 41,
	} {
		want(t, fmt.Sprintf("how many instructions %q has", pattern), len(compiled(pattern)), count)
	}
}

// closeTold goes around until nothing comes to it.
func closeTold(prog []impl.Inst, set []int64, begin bool, end bool) []int64 {
	has := make([]bool, len(prog))
	for _, place := range set {
		has[place] = true
	}
	for range prog {
		for place, in := range prog {
			goes := in.Op == impl.OpSplit || in.Op == impl.OpJump || in.Op == impl.OpBegin && begin || in.Op == impl.OpEnd && end
			has[in.X] = has[in.X] || has[place] && goes
			has[in.Y] = has[in.Y] || has[place] && in.Op == impl.OpSplit
		}
	}
	return endsTold(has)
}

func stepTold(prog []impl.Inst, set []int64, b byte) []int64 {
	has := make([]bool, len(prog))
	for _, place := range set {
		if prog[place].Op == impl.OpByte && impl.HasByte(prog[place].Node, b) {
			has[prog[place].X] = true
		}
	}
	return endsTold(has)
}

// wantClosed asks CloseSet in all four ways, and once more of what it answers.
func wantClosed(t *testing.T, prog []impl.Inst, set []int64, asked [4][]int64) {
	t.Helper()
	for way, list := range asked {
		begin, end := way%2 == 1, way >= 2
		got := impl.CloseSet(prog, set, begin, end)
		if got.Code != impl.OK || !slices.Equal(got.List, list) {
			t.Errorf("CloseSet %+v, %v, %v, %v = %v, asked for %v", prog, set, begin, end, got, list)
		}
		if again := impl.CloseSet(prog, got.List, begin, end); again.Code != impl.OK || !slices.Equal(again.List, got.List) {
			t.Errorf("CloseSet %+v, %v, %v, %v = %v, not %v again", prog, got.List, begin, end, again, got)
		}
		for _, place := range set {
			if !slices.Contains(got.List, place) {
				t.Errorf("CloseSet %+v, %v, %v, %v = %v has not %d", prog, set, begin, end, got, place)
			}
		}
	}
}

func TestSetsAreClosed(t *testing.T) {
	for _, c := range []struct{ prog, set, none, begin, end, both string }{
		// Over each Op.
		{"a>1 done", "0", "0", "0", "0", "0"}, {"done a>0", "0", "0", "0", "0", "0"}, {"s1,2 done done", "0", "0,1,2", "0,1,2", "0,1,2", "0,1,2"}, {"s2,1 done done", "0", "0,1,2", "0,1,2", "0,1,2", "0,1,2"},
		{"j2 done done", "0", "0,2", "0,2", "0,2", "0,2"}, {"b1 done", "0", "0", "0,1", "0", "0,1"}, {"e1 done", "0", "0", "0", "0,1", "0,1"},
		{"b1 e2 done", "0", "0", "0,1", "0", "0,1,2"}, {"e1 b2 done", "0", "0", "0", "0,1", "0,1,2"}, {"e1 b2 done", "1", "1", "1,2", "1", "1,2"}, {"e1 b2 done", "0,1", "0,1", "0,1,2", "0,1", "0,1,2"},
		{"s1,2 b3 e4 done done", "0", "0,1,2", "0,1,2,3", "0,1,2,4", "0,1,2,3,4"}, {"b1 b2 done", "0", "0", "0,1,2", "0", "0,1,2"}, {"e1 e2 done", "0", "0", "0", "0,1,2", "0,1,2"},
		// From none, from several, from all, and back to what is ahead.
		{"s1,2 b3 e4 done done", "", "", "", "", ""}, {"j0", "", "", "", "", ""}, {"j1 done j3 done", "0,2", "0,1,2,3", "0,1,2,3", "0,1,2,3", "0,1,2,3"}, {"j1 done j3 done", "1,3", "1,3", "1,3", "1,3", "1,3"},
		{"done j0 j1", "2", "0,1,2", "0,1,2", "0,1,2", "0,1,2"}, {"done done s1,0", "2", "0,1,2", "0,1,2", "0,1,2", "0,1,2"}, {"done b0 e1", "2", "2", "2", "1,2", "0,1,2"}, {"s1,2 a>0 done", "0,1,2", "0,1,2", "0,1,2", "0,1,2", "0,1,2"},
		// Jumps that go round.
		{"j0", "0", "0", "0", "0", "0"}, {"s0,0", "0", "0", "0", "0", "0"}, {"s0,1 done", "0", "0,1", "0,1", "0,1", "0,1"}, {"s1,0 done", "0", "0,1", "0,1", "0,1", "0,1"}, {"j1 j0", "1", "0,1", "0,1", "0,1", "0,1"}, {"j1 j2 j0 done", "1", "0,1,2", "0,1,2", "0,1,2", "0,1,2"},
		{"s1,3 s2,0 s0,1 done", "2", "0,1,2,3", "0,1,2,3", "0,1,2,3", "0,1,2,3"}, {"b1 e0 done", "0", "0", "0,1", "0", "0,1"}, {"b0", "0", "0", "0", "0", "0"}, {"e0", "0", "0", "0", "0", "0"}, {"b1 b0 done", "1", "1", "0,1", "1", "0,1"}, {"s1,2 j0 j0", "0", "0,1,2", "0,1,2", "0,1,2", "0,1,2"},
		// A loop of what passes over nothing, and anchors in loops.
		{"s1,3 b2 j0 done", "0", "0,1,3", "0,1,2,3", "0,1,3", "0,1,2,3"}, {"b1 s0,2 done", "0", "0", "0,1,2", "0", "0,1,2"}, {"s1,3 e2 j0 done", "0", "0,1,3", "0,1,3", "0,1,2,3", "0,1,2,3"}, {"s1,6 s2,4 b3 j5 a>5 j0 done", "5", "0,1,2,4,5,6", "0,1,2,3,4,5,6", "0,1,2,4,5,6", "0,1,2,3,4,5,6"},
	} {
		wantClosed(t, progOf(c.prog), placesOf(c.set), [4][]int64{placesOf(c.none), placesOf(c.begin), placesOf(c.end), placesOf(c.both)})
	}
}

func TestSetsOfAllProgramsAreClosed(t *testing.T) {
	random := rand.New(rand.NewSource(181414))
	progs := somePrograms(2000)
	for _, tree := range someTrees(1000) {
		progs = append(progs, impl.CompilePattern(tree).Prog)
	}
	for _, prog := range progs {
		count := int64(len(prog))
		for _, set := range [][]int64{nil, {0}, {count - 1}, {int64(random.Intn(int(count)))}, randomSet(random, len(prog)), rising(0, count)} {
			var asked [4][]int64
			for way := range asked {
				asked[way] = closeTold(prog, set, way%2 == 1, way >= 2)
			}
			wantClosed(t, prog, set, asked)
		}
	}
}

func TestStepsOverBytes(t *testing.T) {
	for _, c := range []struct{ prog, set, bytes, next string }{
		// Each kind that stands for a byte, at a line feed and at bytes above 126.
		{"a>1 done", "0", "a", "1"}, {"a>1 done", "0", "b\n\x00\xe1\xff", ""}, {".>1 done", "0", "a\x00\t\r\x7f\x80\xff", "1"}, {".>1 done", "0", "\n", ""}, {"[ac]>1 done", "0", "ac", "1"}, {"[ac]>1 done", "0", "b\n\xe1\xff", ""},
		{"[^ac]>1 done", "0", "b\x00\t\r\x7f\x80\xe1\xff", "1"}, {"[^ac]>1 done", "0", "ac\n", ""}, {"~>1 done", "0", "~", "1"}, {"~>1 done", "0", "\x7f\xfe", ""},
		// Two places that lead to the same one, to themselves, back, and to the last place.
		{"a>2 .>2 done", "0,1", "a", "2"}, {"a>2 .>2 done", "0,1", "b", "2"}, {"a>2 .>2 done", "0,1", "\n", ""}, {"a>2 a>2 a>2 [^b]>2", "0,1,2,3", "a", "2"}, {"a>2 b>2 done", "0,1", "a", "2"}, {"a>2 b>2 done", "0", "b", ""},
		{"a>0", "0", "a", "0"}, {"done a>0", "1", "a", "0"}, {"a>3 a>2 a>1 a>0", "0,1,2,3", "a", "0,1,2,3"}, {"a>3 b>2 a>1 b>0", "0,1,2,3", "a", "1,3"}, {"a>3 b>2 a>1 b>0", "0,1,2,3", "b", "0,2"}, {"a>3 b>2 a>1 b>0", "0,1,2,3", "c", ""}, {"a>1 .>0", "0,1", "a", "0,1"},
		// No other Op goes over a byte, and none where it is not in the set; what is told is not closed.
		{"s1,2 j2 b3 e4 done", "0,1,2,3,4", "ab\n\xff", ""}, {"a>1 a>2 done", "1", "a", "2"}, {"a>1 a>2 done", "", "ab\n", ""}, {"a>1 s0,2 done", "0", "a", "1"}, {"a>1 j2 done", "0", "a", "1"}, {"a>1 b2 done", "0,1", "a", "1"}, {"s1,3 a>2 j0 done", "0,1,3", "a", "2"}, {"s1,2 a>0 done", "0,2", "a", ""},
	} {
		for _, b := range []byte(c.bytes) {
			want(t, fmt.Sprintf("StepSet %s, %s, %q", c.prog, c.set, b), impl.StepSet(progOf(c.prog), placesOf(c.set), b), impl.IntsResult{List: placesOf(c.next)})
		}
	}
}

func TestStepsOfAllPrograms(t *testing.T) {
	random := rand.New(rand.NewSource(281414))
	progs := somePrograms(800)
	for _, tree := range someTrees(400) {
		progs = append(progs, impl.CompilePattern(tree).Prog)
	}
	for _, prog := range progs {
		for _, set := range [][]int64{nil, {int64(random.Intn(len(prog)))}, randomSet(random, len(prog)), rising(0, int64(len(prog)))} {
			for _, b := range []byte{'a', 'b', 'c', ' ', '~', '\n', 0, 127, 128, 255, byte(random.Intn(256))} {
				if got, asked := impl.StepSet(prog, set, b), stepTold(prog, set, b); got.Code != impl.OK || !slices.Equal(got.List, asked) {
					t.Errorf("StepSet %+v, %v, %q = %v, asked for %v", prog, set, b, got, asked)
				}
			}
		}
	}
}

// runTold goes from pair to pair of a place of the program and one of the text, each one once.
func runTold(prog []impl.Inst, text string, at int64) impl.IntResult {
	answer := impl.IntResult{Code: impl.ErrNone}
	type pair struct{ place, at int64 }
	size := int64(len(text))
	seen, work := map[pair]bool{}, []pair{{0, at}}
	for len(work) > 0 {
		p := work[len(work)-1]
		work = work[:len(work)-1]
		if seen[p] {
			continue
		}
		seen[p] = true
		in := prog[p.place]
		switch {
		case in.Op == impl.OpDone:
			answer = impl.IntResult{Value: max(answer.Value, p.at)}
		case in.Op == impl.OpByte && p.at < size && impl.HasByte(in.Node, text[p.at]):
			work = append(work, pair{in.X, p.at + 1})
		case in.Op == impl.OpSplit:
			work = append(work, pair{in.X, p.at}, pair{in.Y, p.at})
		case in.Op == impl.OpJump, in.Op == impl.OpBegin && p.at == 0, in.Op == impl.OpEnd && p.at == size:
			work = append(work, pair{in.X, p.at})
		}
	}
	return answer
}

// stepsTold is RunProg by CloseSet and StepSet alone.
func stepsTold(prog []impl.Inst, text string, at int64) impl.IntResult {
	answer, size := impl.IntResult{Code: impl.ErrNone}, int64(len(text))
	set := []int64{0}
	for {
		set = impl.CloseSet(prog, set, at == 0, at == size).List
		for _, place := range set {
			if prog[place].Op == impl.OpDone {
				answer = impl.IntResult{Value: at}
			}
		}
		if at == size {
			return answer
		}
		set = impl.StepSet(prog, set, text[at]).List
		at++
	}
}

func wantOfRun(t *testing.T, prog []impl.Inst, text string, at int64) {
	t.Helper()
	got := impl.RunProg(prog, []byte(text), at)
	if asked := runTold(prog, text, at); got != asked {
		t.Errorf("RunProg %+v, %q, %d = %v, asked for %v", prog, text, at, got, asked)
	}
	if asked := stepsTold(prog, text, at); got != asked {
		t.Errorf("RunProg %+v, %q, %d = %v, by CloseSet and StepSet %v", prog, text, at, got, asked)
	}
}

func TestHowFarProgramsGo(t *testing.T) {
	const none = -1
	for _, c := range []struct {
		prog, text string
		at, to     int64
	}{
		// At an empty text, at the beginning, in the midst, at the end.
		{"done", "", 0, 0}, {"done", "ab", 0, 0}, {"done", "ab", 1, 1}, {"done", "ab", 2, 2}, {"a>1 done", "", 0, none}, {"a>1 done", "aab", 0, 1}, {"a>1 done", "aab", 1, 2}, {"a>1 done", "aab", 2, none}, {"a>1 done", "aab", 3, none},
		{"s1,3 a>2 j0 done", "", 0, 0}, {"s1,3 a>2 j0 done", "aab", 0, 2}, {"s1,3 a>2 j0 done", "aab", 1, 2}, {"s1,3 a>2 j0 done", "aab", 2, 2}, {"s1,3 a>2 j0 done", "aab", 3, 3},
		// A shorter end comes first, and the set is empty ahead of the end.
		{"s1,3 a>2 done a>4 b>2", "abc", 0, 2}, {"s1,3 a>2 done a>4 b>2", "acb", 0, 1}, {"s1,2 done a>3 a>4 a>1", "aaaa", 0, 3}, {"s1,2 done a>3 a>4 a>1", "aaaa", 1, 4}, {"s1,2 done a>3 a>4 a>1", "aaaa", 2, 2}, {"s1,2 done a>0", "aaba", 0, 2}, {"a>1 s0,2 done", "aabaa", 0, 2},
		// None fits.
		{"a>0", "aaa", 0, none}, {"j0", "", 0, none}, {"s0,0", "aa", 0, none}, {"a>1 b>2 done", "aab", 0, none}, {"a>1 b>2 done", "aab", 1, 3}, {"j0 done", "a", 0, none}, {".>1 done", "\n", 0, none},
		// The beginning and the end, alone and within loops.
		{"b1 done", "aa", 0, 0}, {"b1 done", "aa", 1, none}, {"b1 done", "aa", 2, none}, {"b1 done", "", 0, 0}, {"e1 done", "aa", 0, none}, {"e1 done", "aa", 1, none}, {"e1 done", "aa", 2, 2}, {"e1 done", "", 0, 0}, {"b1 e2 done", "", 0, 0}, {"e1 b2 done", "", 0, 0}, {"b1 e2 done", "a", 0, none}, {"b1 e2 done", "a", 1, none},
		{"a>1 b2 done", "aa", 0, none}, {"a>1 e2 done", "aa", 0, none}, {"a>1 e2 done", "aa", 1, 2}, {"e1 a>2 done", "aa", 0, none}, {"a>1 b2 done", "\na", 1, none}, {"a>1 e2 done", "a\n", 0, none}, {"b1 a>0 done", "aa", 0, none}, {"s1,2 done b3 a>0", "aaa", 0, 1}, {"s1,2 done e3 a>0", "aaa", 2, 2},
		{"b1 s2,3 a>0 done", "aa", 0, 0}, {"s1,3 b2 a>0 done", "aa", 0, 1}, {"a>1 s0,2 e3 done", "aaa", 0, 3}, {"a>1 s0,2 e3 done", "aab", 0, none}, {"s1,3 a>2 e0 done", "aa", 0, 0}, {"s1,3 a>2 e0 done", "aa", 1, 2}, {"s1,5 s2,3 b4 a>4 j0 done", "aab", 0, 2}, {"s1,5 s2,3 e4 a>4 j0 done", "aa", 1, 2},
		// What no pattern compiles to: jumps into the midst, several ends, instructions to which nothing leads, none behind the end.
		{"j2 done a>3 s1,4 b>2", "abab", 0, 3}, {"s1,2 done s3,4 a>1 b>5 b>1", "bb", 0, 2}, {"s1,2 done s3,4 a>1 b>5 b>1", "ab", 0, 1}, {"a>3 done done a>0", "aaaa", 0, none}, {"a>2 b>0 a>1 done", "aab", 0, none}, {"a>2 b>0 s1,3 done", "abaa", 0, 3}, {"done done done", "aa", 1, 1}, {"s2,3 done a>0 .>1", "aab", 0, 3},
	} {
		asked := impl.IntResult{Value: c.to}
		if c.to == none {
			asked = impl.IntResult{Code: impl.ErrNone}
		}
		want(t, fmt.Sprintf("RunProg %s, %q, %d", c.prog, c.text, c.at), impl.RunProg(progOf(c.prog), []byte(c.text), c.at), asked)
		wantOfRun(t, progOf(c.prog), c.text, c.at)
	}
}

// wantAsMeant asks at all places of a text whether a program goes as far as its pattern means.
func wantAsMeant(t *testing.T, nodes []impl.Node, text string) {
	t.Helper()
	prog := impl.CompilePattern(nodes).Prog
	for at := range int64(len(text) + 1) {
		if got, asked := impl.RunProg(prog, []byte(text), at), impl.LongestFrom(nodes, []byte(text), at); got != asked {
			t.Errorf("RunProg of %q, %q, %d = %v, LongestFrom %v", impl.PatternText(nodes).Text, text, at, got, asked)
		}
	}
}

func TestProgramsGoAsFarAsPatternsMean(t *testing.T) {
	for shown := range shownEnds() {
		wantAsMeant(t, impl.ParsePattern(shown[0]).Nodes, shown[1])
	}
	for pattern := range shownProgs() {
		for _, text := range textsOf([]string{"a", "b", "c", "\n"}, 4) {
			wantAsMeant(t, impl.ParsePattern(pattern).Nodes, text)
		}
	}
	for count := range 3 {
		for _, text := range textsOf([]string{"a", "b", "\n"}, count) {
			for _, tree := range slices.Concat(treesOf(4, meantLeaves())...) {
				wantAsMeant(t, tree, text)
			}
		}
	}
	random := rand.New(rand.NewSource(381414))
	for i := range 6000 {
		wantAsMeant(t, narrowTree(random, 1+i%impl.MaxNodes), narrowText(random, random.Intn(12)))
	}
	for i := range 48 {
		wantAsMeant(t, narrowTree(random, 1+i%impl.MaxNodes), narrowText(random, 60+random.Intn(10)))
	}
}

func TestProgramsGoAsFarAsTextsMayBeLong(t *testing.T) {
	random := rand.New(rand.NewSource(481414))
	for _, nodes := range greatTrees() {
		prog := impl.CompilePattern(nodes).Prog
		for _, text := range []string{strings.Repeat("a", 400), strings.Repeat("a", 399) + "b", strings.Repeat("ab", 200), narrowText(random, 400)} {
			for _, at := range []int64{0, 1, 200, 399, 400} {
				want(t, fmt.Sprintf("RunProg of %q, %q, %d", impl.PatternText(nodes).Text, text, at), impl.RunProg(prog, []byte(text), at), impl.LongestFrom(nodes, []byte(text), at))
			}
		}
	}
}

func TestProgramsThatNoPatternCompilesTo(t *testing.T) {
	random := rand.New(rand.NewSource(581414))
	for i, prog := range somePrograms(4000) {
		size := random.Intn(8)
		if i%40 == 0 {
			size = 390 + random.Intn(11)
		}
		text := narrowText(random, size)
		for _, at := range []int64{0, int64(random.Intn(size + 1)), int64(size)} {
			wantOfRun(t, prog, text, at)
		}
	}
	// Small programs, where each place is told apart from its neighbours.
	for range 6000 {
		prog := randomProg(random, 1+random.Intn(7))
		text := narrowText(random, random.Intn(5))
		for at := range int64(len(text) + 1) {
			wantOfRun(t, prog, text, at)
		}
	}
}

func TestProgramsOfAsManyInstructionsAsThereMayBe(t *testing.T) {
	// Over a byte from each place to the next one, and to the end by the last one.
	long := make([]impl.Inst, impl.MaxProg)
	for i := range long {
		long[i] = byteInst(charOf('a')[0], int64(i)+1)
	}
	long[impl.MaxProg-1] = impl.Inst{Op: impl.OpDone}
	text := strings.Repeat("a", 100)
	for _, at := range []int64{0, 1, 20, 21} {
		want(t, fmt.Sprintf("RunProg of a long program from %d", at), impl.RunProg(long, []byte(text), at), impl.IntResult{Value: at + 79})
	}
	want(t, "RunProg of a long program from behind", impl.RunProg(long, []byte(text), 22), impl.IntResult{Code: impl.ErrNone})
	want(t, "StepSet of all places", impl.StepSet(long, rising(0, impl.MaxProg), 'a'), impl.IntsResult{List: rising(1, impl.MaxProg)})
	want(t, "CloseSet of all places", impl.CloseSet(long, rising(0, impl.MaxProg), true, true), impl.IntsResult{List: rising(0, impl.MaxProg)})
	// From the first place over all others to the last one ahead of it.
	jumps := make([]impl.Inst, impl.MaxProg)
	for i := range jumps {
		jumps[i] = impl.Inst{Op: impl.OpJump, X: int64(i+impl.MaxProg-1) % impl.MaxProg}
	}
	want(t, "CloseSet of jumps back", impl.CloseSet(jumps, []int64{0}, false, false), impl.IntsResult{List: rising(0, impl.MaxProg)})
	jumps[1] = impl.Inst{Op: impl.OpDone}
	want(t, "RunProg of jumps back", impl.RunProg(jumps, []byte("ab"), 1), impl.IntResult{Value: 1})
	want(t, "CloseSet of jumps back to the end", impl.CloseSet(jumps, []int64{1}, true, true), impl.IntsResult{List: []int64{1}})
}
