package tests

import (
	"bytes"
	"fmt"
	"math"
	"math/rand"
	"slices"
	"strings"
	"sync"
	"testing"
	"time"

	"loop.example/g00414/impl"
)

// Promise 1, of chapter 9: every function answers at every argument, ends, and changes none;
// what it answers is new memory; it hangs on the arguments alone.

func TestFaultsOfPatternsComeAheadOfThoseOfLines(t *testing.T) {
	for code, patterns := range faultyPatterns() {
		for _, nodes := range patterns {
			for _, size := range []int{0, 1, 400, 401, 5000} {
				want(t, fmt.Sprintf("SpansIn %+v in %d bytes", nodes, size), impl.SpansIn(nodes, bytes.Repeat([]byte("a"), size)), impl.SpansResult{Code: code})
			}
			want(t, fmt.Sprintf("SpansIn %+v in nothing", nodes), impl.SpansIn(nodes, nil), impl.SpansResult{Code: code})
		}
	}
}

func TestLinesOfSpansThatAreTooLong(t *testing.T) {
	for _, pattern := range []string{"", "a*", ".*", "b", "^", "$", "(a|b)+"} {
		nodes := impl.ParsePattern(pattern).Nodes
		prog := impl.CompilePattern(nodes).Prog
		for _, size := range []int{401, 402, 448, 512, 5000} {
			line := bytes.Repeat([]byte("a"), size)
			want(t, fmt.Sprintf("SpansIn %q in %d bytes", pattern, size), impl.SpansIn(nodes, line), impl.SpansResult{Code: impl.ErrMany})
			want(t, fmt.Sprintf("LineHas %q, %d bytes", pattern, size), impl.LineHas(prog, line), false)
			for _, table := range []impl.Table{tableOf(1, ""), tableOf(12, "0 a0"), tableOf(2, "0 a1 | - a1")} {
				want(t, fmt.Sprintf("SpansFast %q, %+v in %d bytes", pattern, table, size), impl.SpansFast(prog, table, line), impl.SpansResult{Code: impl.ErrMany})
			}
		}
		for _, size := range []int{0, 1, 399, 400} {
			line := strings.Repeat("a", size)
			want(t, fmt.Sprintf("SpansIn %q in %d bytes", pattern, size), impl.SpansIn(nodes, []byte(line)), impl.SpansResult{Spans: firstTold(nodes, line)})
			wantOfFast(t, prog, tableOf(2, "0 a1 | - a1"), line)
			want(t, fmt.Sprintf("LineHas %q, %d bytes", pattern, size), impl.LineHas(prog, []byte(line)), hasTold(prog, line))
		}
		for _, none := range [][]byte{nil, {}, make([]byte, 0, 9)} {
			want(t, fmt.Sprintf("SpansIn %q in nothing", pattern), impl.SpansIn(nodes, none), impl.SpansResult{Spans: firstTold(nodes, "")})
			want(t, fmt.Sprintf("SpansFast %q in nothing", pattern), impl.SpansFast(prog, tableOf(1, ""), none), fastTold(prog, tableOf(1, ""), ""))
			want(t, fmt.Sprintf("LineHas %q, nothing", pattern), impl.LineHas(prog, none), hasTold(prog, ""))
		}
	}
}

// wantNoSpans asks for the code of a table with a fault, in lines that have none and in such as are too long.
func wantNoSpans(t *testing.T, prog []impl.Inst, table impl.Table, code int64) {
	t.Helper()
	want(t, "TableFault", impl.TableFault(prog, table), code)
	for _, line := range [][]byte{nil, {}, []byte("a"), make([]byte, 400), make([]byte, 401), make([]byte, 5000)} {
		want(t, fmt.Sprintf("SpansFast of %d instructions, %+v in %d bytes", len(prog), table, len(line)), impl.SpansFast(prog, table, line), impl.SpansResult{Code: code})
	}
}

func TestFaultsOfTablesComeAheadOfThoseOfLines(t *testing.T) {
	prog := progOf("s1,2 a>0 done")
	for _, size := range append(farNumbers(), -1, 0, 13, 14) {
		wantNoSpans(t, prog, tableOf(size, ""), impl.ErrRange)
		wantNoSpans(t, prog, tableOf(size, "0 | 0 | 3"), impl.ErrRange)
	}
	for size := int64(1); size <= impl.MaxStates; size++ {
		wantNoSpans(t, prog, impl.Table{Size: size, States: make([]impl.SetState, size+1)}, impl.ErrMany)
	}
	for code, states := range faultyStates() {
		for _, state := range states {
			wantNoSpans(t, prog, impl.Table{Size: 3, States: []impl.SetState{state}}, code)
			wantNoSpans(t, prog, impl.Table{Size: 3, States: []impl.SetState{{}, {}, state}}, code)
			wantNoSpans(t, prog, impl.Table{Size: 1, States: []impl.SetState{{}, state}}, impl.ErrMany)
		}
	}
	for _, states := range []string{"0 | 0", "- | -", "0 a1 | 1 | 0"} {
		wantNoSpans(t, prog, tableOf(12, states), impl.ErrState)
	}
}

// wantNoLine asks all that ask for a fault of a program, with what has faults of its own, too.
func wantNoLine(t *testing.T, prog []impl.Inst, code int64) {
	t.Helper()
	for _, table := range []impl.Table{{}, tableOf(1, ""), tableOf(1, "0 | 0"), tableOf(13, "9"), tableOf(12, "0 a0 a0")} {
		wantNoSpans(t, prog, table, code)
	}
	for _, line := range [][]byte{nil, {}, []byte("a"), make([]byte, 401)} {
		want(t, fmt.Sprintf("LineHas %+v, %d bytes", prog, len(line)), impl.LineHas(prog, line), false)
	}
	for _, f := range []impl.File{{}, fileOf("a\nb"), fileOf(strings.Repeat("a\n", 201))} {
		for _, number := range []int64{math.MinInt64, -1, 0, 1, 1000, math.MaxInt64} {
			want(t, fmt.Sprintf("FindLine %+v, %d", prog, number), impl.FindLine(prog, f, number, 1, false), impl.IntResult{Code: code})
			want(t, fmt.Sprintf("FindLine %+v, count %d", prog, number), impl.FindLine(prog, f, 0, number, true), impl.IntResult{Code: code})
		}
	}
}

func TestFaultsOfProgramsComeAheadOfAllElse(t *testing.T) {
	for _, prog := range [][]impl.Inst{nil, {}, make([]impl.Inst, 0, 9), make([]impl.Inst, 81), slices.Repeat([]impl.Inst{{Op: impl.OpDone}}, 81), make([]impl.Inst, 5000)} {
		wantNoLine(t, prog, impl.ErrMany)
	}
	for code, insts := range faultyInsts() {
		for _, in := range insts {
			wantNoLine(t, []impl.Inst{instOf("s1,2"), in, instOf("done")}, code)
			wantNoLine(t, []impl.Inst{instOf("done"), instOf("done"), in}, code)
		}
	}
}

// wantOfSpansFault asks all that ask for a fault of spans.
func wantOfSpansFault(t *testing.T, spans []impl.Span, code int64) {
	t.Helper()
	call := fmt.Sprintf("of %d spans, %v", len(spans), spans[:min(len(spans), 9)])
	want(t, "SpansFault "+call, impl.SpansFault(spans), code)
	for _, n := range []int64{0, 1, 200, 400} {
		asked := impl.IntsResult{Code: code}
		if code == impl.OK {
			asked = impl.IntsResult{List: markTold(spans, n)}
		}
		want(t, fmt.Sprintf("MarkBytes %s, %d", call, n), impl.MarkBytes(spans, n), asked)
	}
	for _, n := range append(farNumbers(), -400, -1, 401, 402) {
		asked := impl.IntsResult{Code: code}
		if code == impl.OK {
			asked = impl.IntsResult{Code: impl.ErrRange}
		}
		want(t, fmt.Sprintf("MarkBytes %s, %d", call, n), impl.MarkBytes(spans, n), asked)
	}
}

func TestHowManySpansThereAre(t *testing.T) {
	for _, none := range [][]impl.Span{nil, {}, make([]impl.Span, 0, 9)} {
		wantOfSpansFault(t, none, impl.OK)
	}
	var empty, full []impl.Span
	for place := range int64(401) {
		wantOfSpansFault(t, []impl.Span{{From: place, To: place}}, impl.OK)
		empty = append(empty, impl.Span{From: place, To: place})
		full = append(full, impl.Span{From: place, To: min(place+1, 400)})
	}
	wantOfSpansFault(t, empty, impl.OK)
	wantOfSpansFault(t, full, impl.OK)
	// One more, wherever it stands, and whatever it is.
	for _, more := range []impl.Span{{}, {From: 200, To: 200}, {From: 400, To: 400}, {From: 401, To: 401}, {From: -1}} {
		wantOfSpansFault(t, append(slices.Clone(empty), more), impl.ErrMany)
		wantOfSpansFault(t, append([]impl.Span{more}, full...), impl.ErrMany)
	}
	for _, count := range []int{402, 403, 5000} {
		wantOfSpansFault(t, make([]impl.Span, count), impl.ErrMany)
		wantOfSpansFault(t, slices.Repeat([]impl.Span{{From: 5, To: 3}}, count), impl.ErrMany)
	}
	// As many as there may be, with a fault; there are more than places, too: two at one place.
	for _, place := range []int{0, 1, 200, 399, 400} {
		faulty := slices.Clone(empty)
		faulty[place].To = -1
		wantOfSpansFault(t, faulty, impl.ErrRange)
		twice := slices.Insert(slices.Clone(empty[:400]), place, empty[min(place, 399)])
		wantOfSpansFault(t, twice, impl.ErrRange)
	}
	half := slices.Clone(empty[:200])
	for _, span := range full[199:399] {
		half = append(half, span)
	}
	wantOfSpansFault(t, append(half, impl.Span{From: 399, To: 400}), impl.OK)
}

func TestSpansThatLeaveTheirBounds(t *testing.T) {
	for _, number := range append(farNumbers(), -401, -400, -2, -1, 401, 402, 1000) {
		for _, span := range []impl.Span{{From: number, To: 400}, {From: number, To: number}, {From: number}, {To: number}, {From: 200, To: number}, {From: 400, To: number}, {From: number, To: math.MaxInt64}, {From: math.MinInt64, To: number}} {
			wantOfSpansFault(t, []impl.Span{span}, impl.ErrRange)
			wantOfSpansFault(t, []impl.Span{{}, span}, impl.ErrRange)
			wantOfSpansFault(t, []impl.Span{span, {From: 400, To: 400}}, impl.ErrRange)
			wantOfSpansFault(t, []impl.Span{{}, {From: 1, To: 2}, span, {From: 400, To: 400}}, impl.ErrRange)
		}
	}
	for from := int64(0); from <= 400; from += 50 {
		for to := int64(0); to <= 400; to += 50 {
			code := int64(impl.OK)
			if to < from {
				code = impl.ErrRange
			}
			wantOfSpansFault(t, []impl.Span{{From: from, To: to}}, code)
		}
		wantOfSpansFault(t, []impl.Span{{From: from, To: from - 1}}, impl.ErrRange)
	}
}

func TestSpansThatAreBehindOneAnotherOrNot(t *testing.T) {
	for spans, code := range map[string]int64{
		// Behind the one ahead, just at its end, below it.
		"0-1 2-3": impl.OK, "0-1 1-2": impl.OK, "0-2 1-3": impl.ErrRange, "1-3 0-1": impl.ErrRange, "3-5 5-9": impl.OK, "3-5 6-9": impl.OK, "3-5 4-9": impl.ErrRange, "3-5 4-4": impl.ErrRange, "3-5 3-3": impl.ErrRange, "3-5 2-9": impl.ErrRange, "3-5 0-0": impl.ErrRange, "0-400 399-400": impl.ErrRange, "0-400 400-400": impl.OK, "0-399 399-400": impl.OK, "399-400 0-0": impl.ErrRange,
		// Two that are alike; two of nothing at one place; one of nothing at the end of the one ahead, and ahead of one.
		"3-5 3-5": impl.ErrRange, "3-3 3-3": impl.ErrRange, "0-0 0-0": impl.ErrRange, "400-400 400-400": impl.ErrRange, "3-5 5-5": impl.OK, "3-3 3-5": impl.OK, "0-0 0-1": impl.OK, "0-0": impl.OK, "3-3 4-4": impl.OK, "3-3 2-2": impl.ErrRange, "3-5 5-5 5-5": impl.ErrRange, "3-5 5-5 5-6": impl.OK, "3-5 5-5 4-6": impl.ErrRange, "3-3 3-5 5-5": impl.OK, "3-3 3-5 3-3": impl.ErrRange,
		// The fault is at the first pair, in the midst, at the last one.
		"0-2 1-3 4-5 6-7": impl.ErrRange, "0-1 1-3 2-5 6-7": impl.ErrRange, "0-1 1-3 4-5 4-7": impl.ErrRange, "0-1 1-3 4-5 5-4": impl.ErrRange, "0-1 1-3 4-5 6-7": impl.OK, "0-1 1-1 2-3 3-3": impl.OK, "0-1 1-1 2-3 0-1": impl.ErrRange, "0-0 1-1 0-0": impl.ErrRange,
	} {
		wantOfSpansFault(t, spansOf(spans), code)
	}
	for from := range int64(6) {
		for to := from; to < 6; to++ {
			for next := range int64(6) {
				for last := next; last < 6; last++ {
					code := int64(impl.OK)
					if next < to || next == from && last == to {
						code = impl.ErrRange
					}
					wantOfSpansFault(t, []impl.Span{{From: from, To: to}, {From: next, To: last}}, code)
				}
			}
		}
	}
}

func TestFilesThatAreTooLongToBeSearched(t *testing.T) {
	for _, prog := range [][]impl.Inst{compiled("a"), compiled("b"), compiled("")} {
		for _, size := range []int{401, 402, 5000} {
			for _, unit := range []string{"a", "\n", "a\n"} {
				f := fileOf(strings.Repeat(unit, size)[:size])
				for _, number := range append(farNumbers(), -2, -1, 0, 1, 400, 401, 999, 1000) {
					want(t, fmt.Sprintf("FindLine of %d bytes from %d", size, number), impl.FindLine(prog, f, number, 1, false), impl.IntResult{Code: impl.ErrMany})
					want(t, fmt.Sprintf("FindLine of %d bytes, count %d", size, number), impl.FindLine(prog, f, 0, number, true), impl.IntResult{Code: impl.ErrMany})
				}
			}
		}
	}
}

func TestLinesAndCountsThatLeaveTheirBounds(t *testing.T) {
	for _, file := range []string{"", "a", "a\n", "\n", "b\na", "a\nb\nc\nbb\n", "a\n\n\n", strings.Repeat("\n", 400), strings.Repeat("a", 400)} {
		f := fileOf(file)
		lines := int64(len(impl.LinesIn(f).Lines))
		// Also where there is none at all: a number that leaves its bounds comes first.
		for _, prog := range [][]impl.Inst{compiled("b"), compiled(""), compiled("x")} {
			hits := hitsTold(prog, file)
			for _, back := range []bool{false, true} {
				for _, from := range append(farNumbers(), -1000, -3, -2, lines+1, lines+2, 402, 1000) {
					for _, count := range []int64{1, 2, 999, 0, 1000, math.MaxInt64} {
						want(t, fmt.Sprintf("FindLine %q from %d, count %d", file, from, count), impl.FindLine(prog, f, from, count, back), impl.IntResult{Code: impl.ErrRange})
					}
				}
				for _, count := range append(farNumbers(), -999, -2, -1, 0, 1000, 1001, 1<<32+1) {
					for _, from := range []int64{-1, 0, lines, lines + 1, math.MinInt64} {
						want(t, fmt.Sprintf("FindLine %q from %d, count %d", file, from, count), impl.FindLine(prog, f, from, count, back), impl.IntResult{Code: impl.ErrRange})
					}
				}
				for _, from := range []int64{-1, 0, max(lines-1, 0), lines} {
					for _, count := range []int64{1, 2, 500, 998, 999} {
						want(t, fmt.Sprintf("FindLine %q from %d, count %d", file, from, count), impl.FindLine(prog, f, from, count, back), findTold(hits, from, count, back))
					}
				}
			}
		}
		for _, none := range [][]byte{nil, {}, make([]byte, 0, 9)} {
			want(t, "FindLine of nothing", impl.FindLine(compiled(""), impl.File{Bytes: none}, 0, 1, false), impl.IntResult{Code: impl.ErrNone})
			want(t, "FindLine of nothing, from behind it", impl.FindLine(compiled(""), impl.File{Bytes: none}, 1, 1, false), impl.IntResult{Code: impl.ErrRange})
		}
	}
}

func TestEachSearchEndsSoon(t *testing.T) {
	texts := [][]byte{nil, bytes.Repeat([]byte("a"), 400), append(bytes.Repeat([]byte("a"), 399), 'b'), bytes.Repeat([]byte("ab"), 200), bytes.Repeat([]byte("\n"), 400)}
	progs := append(roundProgs(), somePrograms(80)...)
	for _, nodes := range greatTrees() {
		progs = append(progs, impl.CompilePattern(nodes).Prog)
		for _, text := range texts {
			begin := time.Now()
			want(t, "the code of SpansIn", impl.SpansIn(nodes, text).Code, int64(impl.OK))
			if took := time.Since(begin); took > 4*time.Second {
				t.Errorf("%q in %q took %v", impl.PatternText(nodes).Text, text, took)
			}
		}
	}
	for _, prog := range progs {
		for _, text := range texts {
			begin := time.Now()
			want(t, "the code of SpansFast", impl.SpansFast(prog, tableOf(1, ""), text).Code, int64(impl.OK))
			want(t, "the code of SpansFast", impl.SpansFast(prog, tableOf(12, ""), text).Code, int64(impl.OK))
			impl.LineHas(prog, text)
			impl.FindLine(prog, impl.File{Bytes: text}, 0, 999, true)
			if took := time.Since(begin); took > 4*time.Second {
				t.Errorf("%+v in %q took %v", prog, text, took)
			}
		}
	}
	// Arcs that lead round for ever.
	for _, prog := range roundProgs() {
		table := impl.Table{Size: 1, States: []impl.SetState{{Set: rising(0, int64(len(prog))), Arcs: arcsOf(256, 0)}}}
		table = impl.EnterSet(prog, table, impl.CloseSet(prog, []int64{0}, true, false).List).Table
		for place := range table.States {
			table.States[place].Arcs = arcsOf(256, int64(len(table.States))-1)
		}
		for _, text := range texts {
			want(t, "the code of SpansFast", impl.SpansFast(prog, table, text).Code, int64(impl.OK))
		}
	}
}

// searchCase is what the functions of the chapter are asked of.
type searchCase struct {
	nodes []impl.Node
	prog  []impl.Inst
	table impl.Table
	line  []byte
	spans []impl.Span
	file  impl.File
}

// searchCases have faults now and then.
func searchCases() []searchCase {
	random := rand.New(rand.NewSource(1061414))
	patterns := meantPatterns()
	files := someFiles(100)
	var cases []searchCase
	for i, from := range tableCases() {
		c := searchCase{patterns[i%len(patterns)], from.prog, from.table, []byte(narrowText(random, random.Intn(40))), drawnSpans(random), fileOf(files[i%len(files)])}
		if i%2 == 0 && impl.NodesFault(c.nodes) == impl.OK {
			c.prog = impl.CompilePattern(c.nodes).Prog
			c.table = trueTable(random, c.prog, int64(1+random.Intn(impl.MaxStates)))
			c.spans = impl.SpansIn(c.nodes, c.line).Spans
		}
		switch i % 20 {
		case 0:
			c.line = make([]byte, 401)
		case 1:
			c.file.Bytes = make([]byte, 401)
		case 2:
			c.spans = append(c.spans, impl.Span{From: -1})
		case 3:
			c.prog = append(slices.Clone(c.prog), impl.Inst{Op: 7})
		}
		cases = append(cases, c)
	}
	return cases
}

// asked asks all functions of the chapter.
func (c searchCase) asked() string {
	told := fmt.Sprint(impl.SpansIn(c.nodes, c.line), impl.SpansFast(c.prog, c.table, c.line), impl.SpansFault(c.spans), impl.LineHas(c.prog, c.line))
	for _, n := range []int64{-1, 0, int64(len(c.line)), 400, 401} {
		told += fmt.Sprint(impl.MarkBytes(c.spans, n))
	}
	for _, from := range []int64{-2, -1, 0, 1, 3, 401} {
		for _, count := range []int64{0, 1, 2, 999} {
			told += fmt.Sprint(impl.FindLine(c.prog, c.file, from, count, false), impl.FindLine(c.prog, c.file, from, count, true))
		}
	}
	return told
}

func TestWhatSearchesAreAskedOfStaysAsItIs(t *testing.T) {
	node := impl.Node{Kind: 170, Char: 170, Set: "mark", Left: 170, Right: 170}
	for _, c := range searchCases() {
		asked := c
		nodes, wholeNodes := roomy(c.nodes, node)
		prog, wholeProg := roomy(c.prog, impl.Inst{Op: 170, Node: node, X: 170, Y: 170})
		table, lists := roomyTable(c.table)
		line, wholeLine := roomy(c.line, 170)
		spans, wholeSpans := roomy(c.spans, impl.Span{From: 170, To: 170})
		file, wholeFile := roomy(c.file.Bytes, 170)
		asked = searchCase{nodes, prog, table, line, spans, impl.File{Bytes: file}}
		keptNodes, keptProg, keptLine, keptSpans, keptFile := slices.Clone(wholeNodes), slices.Clone(wholeProg), slices.Clone(wholeLine), slices.Clone(wholeSpans), slices.Clone(wholeFile)
		states, sets, arcs := clonedLists(lists.states), clonedLists(lists.sets), clonedLists(lists.arcs)
		asked.asked()
		if !slices.Equal(wholeNodes, keptNodes) || !slices.Equal(wholeProg, keptProg) || !slices.Equal(wholeLine, keptLine) || !slices.Equal(wholeSpans, keptSpans) || !slices.Equal(wholeFile, keptFile) {
			t.Fatalf("%+v was changed to %+v", c, asked)
		}
		if !same(lists.states, states) || !same(lists.sets, sets) || !same(lists.arcs, arcs) {
			t.Fatalf("%+v was changed to %+v", c.table, lists)
		}
	}
}

func TestAnswersOfSearchesShareNoMemory(t *testing.T) {
	mark := impl.Span{From: -1}
	for _, c := range searchCases() {
		nodes, prog, line, spans := slices.Clone(c.nodes), slices.Clone(c.prog), slices.Clone(c.line), slices.Clone(c.spans)
		call := fmt.Sprintf(" of %+v", c)
		wantNoSharing(t, "MarkBytes"+call, -1, func() []int64 { return impl.MarkBytes(spans, 400).List }, func() { overwrite(spans, mark) })
		wantNoSharing(t, "SpansIn"+call, mark, func() []impl.Span { return impl.SpansIn(nodes, line).Spans }, func() { overwrite(nodes, impl.Node{Kind: 13}) })
		wantNoSharing(t, "SpansFast"+call, mark, func() []impl.Span { return impl.SpansFast(prog, c.table, line).Spans }, func() {
			overwrite(prog, impl.Inst{Op: 9, X: -1})
			overwrite(line, 'Z')
		})
		wantTablesApart(t, c)
	}
}

// wantTablesApart holds the lists of the table that is asked against those of two tables that are left, and of one another.
func wantTablesApart(t *testing.T, c searchCase) {
	t.Helper()
	var lists tableLists
	table, whole := roomyTable(c.table)
	lists.states, lists.sets, lists.arcs = whole.states, whole.sets, whole.arcs
	lists.add(impl.SpansFast(c.prog, table, c.line).Table)
	lists.add(impl.SpansFast(c.prog, table, nil).Table)
	lists.add(impl.SpansFast(c.prog, table, c.line).Table)
	wantApart(t, lists.sets, func(list int) int64 { return int64(1000 + list) }, func(a int64, b int64) bool { return a == b })
	wantApart(t, lists.arcs, func(list int) impl.Arc { return impl.Arc{Byte: int64(1000 + list)} }, func(a impl.Arc, b impl.Arc) bool { return a == b })
	// The states come last: what is in them has been written over by then.
	wantApart(t, lists.states, func(list int) impl.SetState { return impl.SetState{Set: []int64{int64(1000 + list)}} }, func(a impl.SetState, b impl.SetState) bool {
		return slices.Equal(a.Set, b.Set) && slices.Equal(a.Arcs, b.Arcs)
	})
}

func TestAnswersOfSearchesHangOnTheArgumentsAlone(t *testing.T) {
	cases := searchCases()
	first := make([]string, len(cases))
	for i := range cases {
		first[i] = cases[i].asked()
	}
	var group sync.WaitGroup
	for range 4 {
		group.Go(func() {
			for i := range slices.Backward(cases) {
				if again := cases[i].asked(); again != first[i] {
					t.Errorf("%+v was answered in two ways:\n%s\n%s", cases[i], first[i], again)
				}
			}
		})
	}
	group.Wait()
}
