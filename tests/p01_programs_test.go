package tests

import (
	"bytes"
	"fmt"
	"math"
	"math/rand"
	"slices"
	"strings"
	"sync"
	"testing"
	"time"

	"loop.example/g00414/impl"
)

// Promise 1, of chapter 7: every function answers at every argument, ends, and changes none;
// what it answers is new memory; it hangs on the arguments alone.

// wantOfProgFault asks all functions that ask for a fault of a program, with what has faults of its own, too.
func wantOfProgFault(t *testing.T, prog []impl.Inst, code int64) {
	t.Helper()
	call := fmt.Sprintf("of %+v", prog)
	want(t, "ProgFault "+call, impl.ProgFault(prog), code)
	want(t, "SetFault "+call, impl.SetFault(prog, nil), code)
	if code == impl.OK {
		return
	}
	for _, set := range [][]int64{nil, {0}, {-1}, {1, 1}, {math.MaxInt64}, make([]int64, 81)} {
		want(t, "SetFault "+call, impl.SetFault(prog, set), code)
		want(t, "CloseSet "+call, impl.CloseSet(prog, set, true, true), impl.IntsResult{Code: code})
		want(t, "StepSet "+call, impl.StepSet(prog, set, 'a'), impl.IntsResult{Code: code})
	}
	for _, size := range []int{0, 1, 400, 401} {
		for _, at := range []int64{0, -1, int64(size) + 1} {
			want(t, "RunProg "+call, impl.RunProg(prog, make([]byte, size), at), impl.IntResult{Code: code})
		}
	}
}

func TestHowManyInstructionsThereAre(t *testing.T) {
	for _, none := range [][]impl.Inst{nil, {}, make([]impl.Inst, 0, 9)} {
		wantOfProgFault(t, none, impl.ErrMany)
	}
	for _, in := range []impl.Inst{instOf("done"), instOf("j0"), instOf("s0,0"), instOf("b0"), instOf("e0"), instOf("a>0")} {
		for count := 1; count <= impl.MaxProg+2; count++ {
			code := int64(impl.OK)
			if count > impl.MaxProg {
				code = impl.ErrMany
			}
			wantOfProgFault(t, slices.Repeat([]impl.Inst{in}, count), code)
		}
	}
	// However many there are, and whatever faults these have.
	wantOfProgFault(t, make([]impl.Inst, 81), impl.ErrMany)
	wantOfProgFault(t, make([]impl.Inst, 5000), impl.ErrMany)
	wantOfProgFault(t, slices.Repeat([]impl.Inst{instOf("j80")}, 81), impl.ErrMany)
}

// wantOfInst puts an instruction among right ones, at each place of three.
func wantOfInst(t *testing.T, in impl.Inst, code int64) {
	t.Helper()
	for place := range 3 {
		prog := progOf("s1,2 a>0 done")
		prog[place] = in
		wantOfProgFault(t, prog, code)
	}
}

func TestOpsOfInstructions(t *testing.T) {
	for _, op := range append(farNumbers(), -2, -1, 0, 7, 8, 12, 256+1) {
		wantOfInst(t, impl.Inst{Op: op}, impl.ErrForm)
		wantOfInst(t, impl.Inst{Op: op, Node: charOf('a')[0], X: 1, Y: 1}, impl.ErrForm)
		wantOfInst(t, impl.Inst{Op: op, X: 3, Y: 3}, impl.ErrForm)
	}
	for op := int64(impl.OpSplit); op <= impl.OpDone; op++ {
		wantOfInst(t, impl.Inst{Op: op}, impl.OK)
		wantOfProgFault(t, []impl.Inst{{Op: op}}, impl.OK)
	}
	wantOfInst(t, byteInst(charOf('a')[0], 0), impl.OK)
	wantOfInst(t, impl.Inst{Op: impl.OpByte}, impl.ErrForm)
	wantOfInst(t, impl.Inst{Op: impl.OpByte, X: 3}, impl.ErrForm)
	wantOfInst(t, impl.Inst{}, impl.ErrForm)
}

func TestWhatAnOpHasNot(t *testing.T) {
	numbers := append(farNumbers(), -1, 1, 2, 3)
	for _, text := range []string{"a>1", "s1,2", "j1", "b1", "e1", "done"} {
		right := instOf(text)
		wantOfInst(t, right, impl.OK)
		for _, number := range numbers {
			more := []impl.Inst{right, right, right}
			more[0].Node.Left, more[1].Node.Right = number, number
			if right.Op != impl.OpByte {
				more[2].Node.Char = number
				more = append(more, right, right)
				more[3].Node.Kind = number
				more[4].Node = impl.Node{Kind: number, Char: number, Set: "a", Left: number, Right: number}
			} else {
				more[2].Node = impl.Node{Kind: impl.ReSet, Char: number, Set: "a"}
			}
			if right.Op != impl.OpSplit {
				more = append(more, right)
				more[len(more)-1].Y = number
			}
			if right.Op == impl.OpDone {
				more = append(more, right)
				more[len(more)-1].X = number
			}
			for _, in := range more {
				wantOfInst(t, in, impl.ErrForm)
			}
		}
		for _, set := range []string{"a", "ab", "", "\x00", strings.Repeat("a", 21)} {
			in := right
			in.Node.Set = set
			code := int64(impl.OK)
			if set != "" {
				code = impl.ErrForm
			}
			wantOfInst(t, in, code)
		}
		if right.Op != impl.OpByte {
			in := right
			for _, tree := range leavesOfTrees() {
				in.Node = tree[0]
				wantOfInst(t, in, impl.ErrForm)
			}
		}
	}
}

func TestNodesOfBytes(t *testing.T) {
	for _, nodes := range [][]impl.Node{
		charOf(32), charOf('a'), charOf(126), nodeOf(impl.ReAny), setOf(impl.ReSet, " "), setOf(impl.ReSet, "~"), setOf(impl.ReSet, " a~"), setOf(impl.ReSet, "abcdefghijklmnopqrst"),
		setOf(impl.ReNot, " "), setOf(impl.ReNot, "~"), setOf(impl.ReNot, " a~"), setOf(impl.ReNot, "abcdefghijklmnopqrst"),
	} {
		wantOfInst(t, byteInst(nodes[0], 1), impl.OK)
	}
	// Each kind that stands for no byte, as it stands alone and within a tree.
	for kind := int64(impl.ReBegin); kind <= impl.ReAlt; kind++ {
		for _, left := range append(farNumbers(), -1, 0, 1) {
			wantOfInst(t, byteInst(impl.Node{Kind: kind, Left: left}, 1), impl.ErrForm)
			wantOfInst(t, byteInst(impl.Node{Kind: kind, Left: left, Right: left}, 1), impl.ErrForm)
			wantOfInst(t, byteInst(impl.Node{Kind: kind, Right: left}, 1), impl.ErrForm)
		}
	}
	wantOfInst(t, byteInst(impl.Node{Kind: impl.ReEmpty}, 1), impl.ErrForm)
	for code, patterns := range faultyPatterns() {
		for _, nodes := range patterns {
			if len(nodes) == 1 {
				wantOfInst(t, byteInst(nodes[0], 1), code)
			}
		}
	}
	for _, kind := range []int64{impl.ReSet, impl.ReNot} {
		for _, set := range []string{"", "\x1f", "\x7f", "\n", "a\x7f", "\x1fa", "\xff", "\x80\xff", "ba", "aa", "abb", "abcdefghijklmnopqrstu", strings.Repeat("a", 21)} {
			wantOfInst(t, byteInst(setOf(kind, set)[0], 1), impl.ErrRange)
			wantOfInst(t, byteInst(impl.Node{Kind: kind, Char: 'a', Set: set}, 1), impl.ErrForm)
		}
	}
	wantOfInst(t, byteInst(charOf(31)[0], 1), impl.ErrRange)
	wantOfInst(t, byteInst(charOf(127)[0], 1), impl.ErrRange)
	wantOfInst(t, byteInst(charOf(0)[0], 1), impl.ErrRange)
	wantOfInst(t, byteInst(impl.Node{Kind: impl.ReChar, Set: "a"}, 1), impl.ErrForm)
}

func TestPlacesOfInstructions(t *testing.T) {
	for _, count := range []int{1, 2, 3, 79, 80} {
		last := int64(count) - 1
		for _, at := range []int{0, count / 2, count - 1} {
			for _, to := range append(farNumbers(), -80, -2, -1, 0, last, last+1, last+2, 80, 81, 256+last, 1<<32, 1<<32+last, -1<<32) {
				code := int64(impl.OK)
				if to < 0 || to > last {
					code = impl.ErrRange
				}
				for _, in := range []impl.Inst{
					byteInst(charOf('a')[0], to), {Op: impl.OpSplit, X: to}, {Op: impl.OpSplit, Y: to}, {Op: impl.OpSplit, X: last, Y: to}, {Op: impl.OpSplit, X: to, Y: last}, {Op: impl.OpSplit, X: to, Y: to}, {Op: impl.OpJump, X: to}, {Op: impl.OpBegin, X: to}, {Op: impl.OpEnd, X: to},
				} {
					prog := slices.Repeat([]impl.Inst{{Op: impl.OpDone}}, count)
					prog[at] = in
					wantOfProgFault(t, prog, code)
				}
			}
		}
	}
}

// faultyInsts are instructions with a fault, by their code, in a program of three.
func faultyInsts() map[int64][]impl.Inst {
	wide := impl.Node{Kind: impl.ReChar, Char: 127}
	return map[int64][]impl.Inst{
		impl.ErrForm: {
			{}, {Op: 7, X: 3}, {Op: impl.OpDone, X: 3}, {Op: impl.OpDone, Y: -1}, {Op: impl.OpJump, X: 3, Y: 3}, {Op: impl.OpSplit, Node: wide, X: 3, Y: 3}, {Op: impl.OpByte, Node: wide, X: 3, Y: 1}, {Op: impl.OpByte, X: 3},
			{Op: impl.OpByte, Node: impl.Node{Kind: impl.ReChar, Char: 127, Left: 1}, X: 3}, {Op: impl.OpByte, Node: impl.Node{Kind: impl.ReSet, Char: 127}}, {Op: impl.OpByte, Node: impl.Node{Kind: impl.ReEnd}, X: 3}, {Op: impl.OpByte, Node: impl.Node{Kind: impl.ReStar}, X: -1}, {Op: impl.OpBegin, Node: wide}, {Op: impl.OpEnd, X: -1, Y: math.MinInt64},
		},
		impl.ErrRange: {
			{Op: impl.OpByte, Node: wide}, {Op: impl.OpByte, Node: wide, X: 3}, {Op: impl.OpByte, Node: impl.Node{Kind: impl.ReAny}, X: 3}, {Op: impl.OpByte, Node: impl.Node{Kind: impl.ReNot}}, {Op: impl.OpSplit, X: 3, Y: -1}, {Op: impl.OpSplit, Y: 3}, {Op: impl.OpJump, X: -1}, {Op: impl.OpBegin, X: 3}, {Op: impl.OpEnd, X: math.MaxInt64},
		},
	}
}

func TestWhichFaultOfAProgramComesFirst(t *testing.T) {
	faulty := faultyInsts()
	for code, insts := range faulty {
		for _, in := range insts {
			wantOfInst(t, in, code)
			// One by one: whatever is behind says nothing.
			for _, others := range faulty {
				for _, other := range others {
					wantOfProgFault(t, []impl.Inst{in, other, instOf("done")}, code)
					wantOfProgFault(t, []impl.Inst{in, instOf("s1,2"), other}, code)
					wantOfProgFault(t, []impl.Inst{instOf("a>2"), in, other}, code)
				}
			}
			wantOfProgFault(t, slices.Repeat([]impl.Inst{in}, 81), impl.ErrMany)
		}
	}
}

// wantOfSet asks all functions that ask for a fault of a set.
func wantOfSet(t *testing.T, prog []impl.Inst, set []int64, code int64) {
	t.Helper()
	call := fmt.Sprintf("of %d instructions, %v", len(prog), set)
	want(t, "SetFault "+call, impl.SetFault(prog, set), code)
	for _, begin := range []bool{false, true} {
		for _, end := range []bool{false, true} {
			got := impl.CloseSet(prog, set, begin, end)
			want(t, "the code of CloseSet "+call, got.Code, code)
			if code != impl.OK {
				want(t, "CloseSet "+call, got, impl.IntsResult{Code: code})
			}
		}
	}
	for _, b := range []byte{0, '\n', 'a', 127, 255} {
		got := impl.StepSet(prog, set, b)
		want(t, "the code of StepSet "+call, got.Code, code)
		if code != impl.OK {
			want(t, "StepSet "+call, got, impl.IntsResult{Code: code})
		}
	}
}

func TestFaultsOfSets(t *testing.T) {
	for _, count := range []int64{1, 2, 3, 40, 79, 80} {
		prog := randomProg(rand.New(rand.NewSource(count)), int(count))
		last := count - 1
		for _, set := range [][]int64{nil, {}, make([]int64, 0, 9), {0}, {last}, {count / 2}, rising(0, count), rising(1, count), rising(0, last)} {
			wantOfSet(t, prog, set, impl.OK)
		}
		for _, place := range append(farNumbers(), -80, -1, count, count+1, 80, 81, 256, 1<<32, -1<<32, 1<<32+last) {
			wantOfSet(t, prog, []int64{place}, impl.ErrRange)
			wantOfSet(t, prog, []int64{0, place}, impl.ErrRange)
			wantOfSet(t, prog, []int64{place, last}, impl.ErrRange)
		}
		for _, set := range [][]int64{{0, 0}, {last, last}, {last, last, last}, {1, 0}, {last, 0}, {0, last, last}, {0, last, 0}, rising(0, count+1)[1:], rising(-1, last), make([]int64, 80)} {
			wantOfSet(t, prog, set, impl.ErrRange)
		}
		falling := rising(0, count)
		if slices.Reverse(falling); count > 1 {
			wantOfSet(t, prog, falling, impl.ErrRange)
		}
		// More than a program may have, whatever they are.
		for _, set := range [][]int64{make([]int64, 81), rising(0, 81), rising(-1, 80), make([]int64, 5000), slices.Repeat([]int64{math.MinInt64}, 81), rising(0, 5000)} {
			wantOfSet(t, prog, set, impl.ErrMany)
		}
		if count < 80 {
			wantOfSet(t, prog, rising(0, 80), impl.ErrRange)
		}
	}
	wantOfSet(t, progOf("s1,2 a>0 done"), []int64{0, 2, 1}, impl.ErrRange)
	wantOfSet(t, progOf("s1,2 a>0 done"), []int64{0, 2}, impl.OK)
	wantOfSet(t, progOf("s1,2 a>0 done"), []int64{0, 1, 1, 2}, impl.ErrRange)
}

func TestSetsOfNoneAreNoFault(t *testing.T) {
	for _, prog := range somePrograms(160) {
		for _, none := range [][]int64{nil, {}, make([]int64, 0, 9)} {
			want(t, "CloseSet of none", impl.CloseSet(prog, none, true, true), impl.IntsResult{})
			want(t, "StepSet of none", impl.StepSet(prog, none, 'a'), impl.IntsResult{})
		}
	}
}

func TestPatternsThatHaveNoProgram(t *testing.T) {
	for code, patterns := range faultyPatterns() {
		for _, nodes := range patterns {
			want(t, fmt.Sprintf("CompilePattern %+v", nodes), impl.CompilePattern(nodes), impl.ProgResult{Code: code})
		}
	}
	stars := charOf('a')
	for len(stars) < impl.MaxNodes {
		stars = treeOf(impl.ReStar, stars)
	}
	want(t, "CompilePattern of as many nodes as there may be", impl.CompilePattern(stars).Code, int64(impl.OK))
	want(t, "CompilePattern of one more", impl.CompilePattern(treeOf(impl.ReStar, stars)), impl.ProgResult{Code: impl.ErrMany})
}

func TestTextsOfProgramsThatLeaveTheirBounds(t *testing.T) {
	for _, text := range []string{"done", "a>0", "j0", "s1,3 a>2 j0 done", "b1 done", "e1 done"} {
		prog := progOf(text)
		for _, size := range []int{401, 402, 5000} {
			for _, at := range append(farNumbers(), -1, 0, 1, 400, 401, int64(size), int64(size)+1) {
				want(t, fmt.Sprintf("RunProg %s, %d bytes, %d", text, size, at), impl.RunProg(prog, bytes.Repeat([]byte("a"), size), at), impl.IntResult{Code: impl.ErrMany})
			}
		}
		for _, size := range []int{0, 1, 2, 63, 64, 399, 400} {
			bytes := bytes.Repeat([]byte("a"), size)
			for _, at := range append(farNumbers(), -400, -2, -1, int64(size)+1, int64(size)+2, 401, 1000) {
				want(t, fmt.Sprintf("RunProg %s, %d bytes, %d", text, size, at), impl.RunProg(prog, bytes, at), impl.IntResult{Code: impl.ErrRange})
			}
			for _, at := range []int64{0, int64(size) / 2, int64(size)} {
				wantOfRun(t, prog, string(bytes), at)
			}
		}
		for _, none := range [][]byte{nil, {}, make([]byte, 0, 9)} {
			want(t, fmt.Sprintf("RunProg %s, nothing", text), impl.RunProg(prog, none, 0), runTold(prog, "", 0))
			want(t, fmt.Sprintf("RunProg %s, behind nothing", text), impl.RunProg(prog, none, 1), impl.IntResult{Code: impl.ErrRange})
		}
	}
	long := bytes.Repeat([]byte("a"), 400)
	want(t, "RunProg over 400 bytes", impl.RunProg(compiled("a*"), long, 0), impl.IntResult{Value: 400})
	want(t, "RunProg at the end of 400 bytes", impl.RunProg(compiled("a*"), long, 400), impl.IntResult{Value: 400})
	want(t, "RunProg over 400 bytes to their end", impl.RunProg(compiled("a+$"), long, 399), impl.IntResult{Value: 400})
}

// roundProgs are programs in which one may go round for ever.
func roundProgs() [][]impl.Inst {
	const count = impl.MaxProg
	progs := [][]impl.Inst{progOf("j0"), progOf("s0,0"), progOf("b0"), progOf("e0"), progOf("j1 j0"), progOf("s1,0 s0,1"), progOf("a>0"), progOf("s1,2 j0 .>0")}
	for _, to := range []func(i int) (x int, y int){
		func(i int) (int, int) { return 0, count - 1 }, func(i int) (int, int) { return i, i }, func(i int) (int, int) { return i + 1, i + count - 1 }, func(i int) (int, int) { return i + count - 1, i + 1 }, func(i int) (int, int) { return i + 1, i + 2 }, func(i int) (int, int) { return 2 * i, 2*i + 1 }, func(i int) (int, int) { return i + 1, 0 },
	} {
		splits, jumps, ends, bytes := make([]impl.Inst, count), make([]impl.Inst, count), make([]impl.Inst, count), make([]impl.Inst, count)
		for i := range count {
			x, y := to(i)
			splits[i] = impl.Inst{Op: impl.OpSplit, X: int64(x % count), Y: int64(y % count)}
			jumps[i] = impl.Inst{Op: impl.OpJump, X: int64(x % count)}
			ends[i] = impl.Inst{Op: impl.OpBegin + int64(i%2), X: int64(y % count)}
			bytes[i] = splits[i]
			if i%2 == 0 {
				bytes[i] = byteInst(impl.Node{Kind: impl.ReAny}, int64(y%count))
			}
		}
		progs = append(progs, splits, jumps, ends, bytes)
	}
	return progs
}

func TestEachCallOfAProgramEndsSoon(t *testing.T) {
	progs := append(roundProgs(), somePrograms(160)...)
	for _, nodes := range greatTrees() {
		progs = append(progs, impl.CompilePattern(nodes).Prog)
	}
	texts := [][]byte{nil, bytes.Repeat([]byte("a"), 400), bytes.Repeat([]byte("ab"), 200), bytes.Repeat([]byte("\n"), 400)}
	for _, prog := range progs {
		want(t, "ProgFault of a program that goes round", impl.ProgFault(prog), int64(impl.OK))
		begin := time.Now()
		for _, set := range [][]int64{nil, {0}, {int64(len(prog)) - 1}, rising(0, int64(len(prog)))} {
			impl.CloseSet(prog, set, true, true)
			impl.CloseSet(prog, set, false, false)
			impl.StepSet(prog, set, 'a')
		}
		for _, text := range texts {
			impl.RunProg(prog, text, 0)
			impl.RunProg(prog, text, int64(len(text)))
		}
		if took := time.Since(begin); took > 4*time.Second {
			t.Errorf("%+v took %v", prog, took)
		}
	}
	for _, prog := range roundProgs() {
		for _, text := range []string{"", "a", "ab\nab"} {
			wantOfRun(t, prog, text, 0)
			wantOfRun(t, prog, text, int64(len(text)))
		}
	}
}

// programCase is what the functions of the chapter are asked of.
type programCase struct {
	nodes []impl.Node
	prog  []impl.Inst
	set   []int64
	text  []byte
}

// programCases have faults now and then.
func programCases() []programCase {
	random := rand.New(rand.NewSource(681414))
	progs := append(somePrograms(240), roundProgs()...)
	for _, nodes := range meantPatterns() {
		progs = append(progs, impl.CompilePattern(nodes).Prog)
	}
	for _, insts := range faultyInsts() {
		for _, in := range insts {
			progs = append(progs, []impl.Inst{instOf("s1,2"), in, instOf("done")})
		}
	}
	progs = append(progs, make([]impl.Inst, 81))
	patterns, texts := meantPatterns(), meantTexts()
	cases := make([]programCase, len(progs))
	for i, prog := range progs {
		set := randomSet(random, len(prog))
		switch random.Intn(8) {
		case 0:
			set = append(set, int64(len(prog)))
		case 1:
			set = rising(0, 81)
		}
		cases[i] = programCase{patterns[i%len(patterns)], prog, set, []byte(texts[i%len(texts)])}
	}
	return cases
}

// asked asks all functions of the chapter.
func (c programCase) asked(at int64) string {
	told := fmt.Sprint(impl.ProgFault(c.prog), impl.SetFault(c.prog, c.set), impl.CompilePattern(c.nodes), impl.RunProg(c.prog, c.text, at))
	for _, yes := range []bool{false, true} {
		told += fmt.Sprint(impl.CloseSet(c.prog, c.set, yes, false), impl.CloseSet(c.prog, c.set, yes, true))
	}
	for _, b := range []byte{'a', 'b', '\n', 255} {
		told += fmt.Sprint(impl.StepSet(c.prog, c.set, b))
	}
	return told
}

func TestWhatProgramsAreAskedOfStaysAsItIs(t *testing.T) {
	node := impl.Node{Kind: 170, Char: 170, Set: "mark", Left: 170, Right: 170}
	for _, c := range programCases() {
		var wholeNodes []impl.Node
		var wholeProg []impl.Inst
		var wholeSet []int64
		var wholeText []byte
		asked := c
		asked.nodes, wholeNodes = roomy(c.nodes, node)
		asked.prog, wholeProg = roomy(c.prog, impl.Inst{Op: 170, Node: node, X: 170, Y: 170})
		asked.set, wholeSet = roomy(c.set, 170)
		asked.text, wholeText = roomy(c.text, 170)
		nodes, prog, set, text := slices.Clone(wholeNodes), slices.Clone(wholeProg), slices.Clone(wholeSet), slices.Clone(wholeText)
		for _, at := range []int64{-1, 0, int64(len(c.text)) / 2, int64(len(c.text)), int64(len(c.text)) + 1} {
			asked.asked(at)
		}
		if !slices.Equal(wholeNodes, nodes) || !slices.Equal(wholeProg, prog) || !slices.Equal(wholeSet, set) || !slices.Equal(wholeText, text) {
			t.Fatalf("%+v was changed to %+v", c, asked)
		}
	}
}

// wantNoSharing asks twice, changes the one answer and all arguments, and looks at the other answer.
func wantNoSharing[T comparable](t *testing.T, call string, mark T, ask func() []T, change func()) {
	t.Helper()
	first := ask()
	kept := slices.Clone(first)
	second := ask()
	overwrite(first, mark)
	if !slices.Equal(second, kept) {
		t.Errorf("%s = %v, the other answer changed, asked for %v", call, second, kept)
	}
	if third := ask(); !slices.Equal(third, kept) {
		t.Errorf("%s = %v, asked once more, asked for %v", call, third, kept)
	}
	change()
	if !slices.Equal(second, kept) {
		t.Errorf("%s = %v, the arguments changed, asked for %v", call, second, kept)
	}
}

func TestAnswersOfProgramsShareNoMemory(t *testing.T) {
	for _, c := range programCases() {
		for way := range 6 {
			prog, set, nodes := slices.Clone(c.prog), slices.Clone(c.set), slices.Clone(c.nodes)
			change := func() {
				overwrite(prog, impl.Inst{Op: 9, X: -1})
				overwrite(set, -1)
				overwrite(nodes, impl.Node{Kind: 13})
			}
			call := fmt.Sprintf("of %+v, %v, way %d", c.prog, c.set, way)
			switch way {
			case 4:
				wantNoSharing(t, "StepSet "+call, -1, func() []int64 { return impl.StepSet(prog, set, 'a').List }, change)
			case 5:
				wantNoSharing(t, fmt.Sprintf("CompilePattern %+v", c.nodes), impl.Inst{Op: 9}, func() []impl.Inst { return impl.CompilePattern(nodes).Prog }, change)
			default:
				wantNoSharing(t, "CloseSet "+call, -1, func() []int64 { return impl.CloseSet(prog, set, way%2 == 1, way >= 2).List }, change)
			}
		}
	}
}

func TestAnswersOfProgramsHangOnTheArgumentsAlone(t *testing.T) {
	cases := programCases()
	all := func(i int) string {
		return cases[i].asked(0) + cases[i].asked(int64(i%(len(cases[i].text)+2)))
	}
	first := make([]string, len(cases))
	for i := range cases {
		first[i] = all(i)
	}
	var group sync.WaitGroup
	for range 4 {
		group.Go(func() {
			for i := len(cases) - 1; i >= 0; i-- {
				if again := all(i); again != first[i] {
					t.Errorf("%+v was answered in two ways:\n%s\n%s", cases[i], first[i], again)
				}
			}
		})
	}
	group.Wait()
}
