package tests

import (
	"fmt"
	"math/rand"
	"slices"
	"strings"
	"testing"

	"loop.example/g00414/impl"
)

// Promise 10: spans are what fits, one behind the other, as long as they can be, and a program with a table tells the same;
// a byte is marked just where it is in a span; what is found is a line that has the pattern, and there and back one is where one was.

// spansOf reads spans: two places with - between, and a blank between two of them.
func spansOf(text string) []impl.Span {
	var spans []impl.Span
	for _, word := range strings.Fields(text) {
		from, to, _ := strings.Cut(word, "-")
		spans = append(spans, impl.Span{From: placesOf(from)[0], To: placesOf(to)[0]})
	}
	return spans
}

// spansTold goes from place to place of a line; where nothing fits the last place is -1.
func spansTold(line string, last func(at int64) int64) []impl.Span {
	var spans []impl.Span
	at := int64(0)
	for at <= int64(len(line)) {
		to := last(at)
		if to >= 0 {
			spans = append(spans, impl.Span{From: at, To: to})
		}
		if to <= at {
			at++
		} else {
			at = to
		}
	}
	return spans
}

// meantTold are the spans by what a pattern means, told by squares.
func meantTold(nodes []impl.Node, line string) []impl.Span {
	fits := fitTold(nodes, int64(len(nodes))-1, line)
	return spansTold(line, func(at int64) int64 {
		for to := len(line); to >= 0; to-- {
			if fits[at][to] {
				return int64(to)
			}
		}
		return -1
	})
}

// firstTold are the spans by FirstIn, word by word as the chapter tells it.
func firstTold(nodes []impl.Node, line string) []impl.Span {
	var spans []impl.Span
	for at := int64(0); at <= int64(len(line)); {
		first := impl.FirstIn(nodes, []byte(line), at)
		if first.Code != impl.OK {
			break
		}
		spans = append(spans, impl.Span{From: first.From, To: first.To})
		if at = first.To; first.From == first.To {
			at++
		}
	}
	return spans
}

// spansByProg are the spans by RunProg.
func spansByProg(prog []impl.Inst, line string) []impl.Span {
	return spansTold(line, func(at int64) int64 {
		run := impl.RunProg(prog, []byte(line), at)
		if run.Code != impl.OK {
			return -1
		}
		return run.Value
	})
}

// fastTold is SpansFast of what has no fault: each place hands its table on to the next one.
func fastTold(prog []impl.Inst, table impl.Table, line string) impl.SpansResult {
	spans := spansTold(line, func(at int64) int64 {
		run := goneTold(prog, table, line, at)
		table = run.Table
		return run.Value
	})
	return impl.SpansResult{Spans: spans, Table: table}
}

// fastByRuns is the same by RunTable.
func fastByRuns(prog []impl.Inst, table impl.Table, line string) impl.SpansResult {
	spans := spansTold(line, func(at int64) int64 {
		run := impl.RunTable(prog, table, []byte(line), at)
		table = run.Table
		return run.Value
	})
	return impl.SpansResult{Spans: spans, Table: table}
}

// wantBehindOneAnother asks for what spans of a line have to be, whatever they are of.
func wantBehindOneAnother(t *testing.T, call string, spans []impl.Span, line string) {
	t.Helper()
	want(t, "SpansFault of "+call, impl.SpansFault(spans), int64(impl.OK))
	for place, span := range spans {
		if span.From < 0 || span.To < span.From || span.To > int64(len(line)) {
			t.Errorf("%s: %v is not in the line", call, span)
		}
		if place > 0 && (span.From < spans[place-1].To || span.From == spans[place-1].From) {
			t.Errorf("%s: %v is not behind %v", call, span, spans[place-1])
		}
	}
}

// wantOfSpans asks for the spans of a pattern, by its nodes, and by its program with a table of each Size.
func wantOfSpans(t *testing.T, nodes []impl.Node, line string, spans []impl.Span) {
	t.Helper()
	call := fmt.Sprintf("%q in %q", impl.PatternText(nodes).Text, line)
	want(t, "SpansIn "+call, impl.SpansIn(nodes, []byte(line)), impl.SpansResult{Spans: spans})
	wantBehindOneAnother(t, call, spans, line)
	prog := impl.CompilePattern(nodes).Prog
	for size := int64(1); size <= impl.MaxStates; size++ {
		got := impl.SpansFast(prog, impl.NewTable(size).Table, []byte(line))
		want(t, fmt.Sprintf("SpansFast %s, Size %d", call, size), got, impl.SpansResult{Spans: spans, Table: got.Table})
		if got.Table.Size != size || int64(len(got.Table.States)) > size || !impl.TableTrue(prog, got.Table) {
			t.Errorf("SpansFast %s, Size %d leaves %+v", call, size, got.Table)
		}
		// By what was met already one goes the same way.
		again := impl.SpansFast(prog, got.Table, []byte(line))
		want(t, fmt.Sprintf("SpansFast %s, Size %d, once more", call, size), again, impl.SpansResult{Spans: spans, Table: again.Table})
	}
	want(t, "LineHas "+call, impl.LineHas(prog, []byte(line)), len(spans) > 0)
}

// shownSpans are patterns and lines, and the spans there.
func shownSpans() map[[2]string]string {
	return map[[2]string]string{
		{"a*", "baa"}: "0-0 1-3 3-3",
		// What fits to nothing only, to everything, nowhere.
		{"", ""}: "0-0", {"", "ab"}: "0-0 1-1 2-2", {"()*", "a\nb"}: "0-0 1-1 2-2 3-3", {"x*", "aba"}: "0-0 1-1 2-2 3-3", {".*", ""}: "0-0", {".*", "abc"}: "0-3 3-3", {".+", "abc"}: "0-3", {".*$", "abc"}: "0-3 3-3", {"^.*", "abc"}: "0-3", {"^.*$", "abc"}: "0-3", {"(a|b|c)*", "cab"}: "0-3 3-3",
		{"x", "abc"}: "", {"a", ""}: "", {"$a", "aa"}: "", {"a^", "aa"}: "", {"aab", "abaa"}: "", {".", "\n"}: "", {"^$", "a"}: "", {"^b", "ab"}: "", {"a$", "ab"}: "", {"[^ab]", "ab"}: "", {"a+b", "aaa"}: "",
		// At the end alone, at the beginning alone, at both.
		{"$", "ab"}: "2-2", {"$", ""}: "0-0", {"b$", "bab"}: "2-3", {"a*$", "aba"}: "2-3 3-3", {"a+$", "aba"}: "2-3", {"$$", "a\n"}: "2-2", {"(a|b)+$", "ab\nba"}: "3-5", {"^", "ab"}: "0-0", {"^", ""}: "0-0", {"^a", "aa"}: "0-1", {"^a*", "aab"}: "0-2", {"^a*", "baa"}: "0-0", {"^+", "ab"}: "0-0", {"^b", "a\nb"}: "", {"^$", ""}: "0-0", {"$^", ""}: "0-0", {"^|$", "ab"}: "0-0 2-2", {"^a|a$", "aaa"}: "0-1 2-3", {"^|b", "bab"}: "0-1 2-3", {"^|b", "ab"}: "0-0 1-2", {"$|b", "bab"}: "0-1 2-3 3-3", {"$|a", "ab"}: "0-1 2-2",
		// A span of nothing right behind one that is not empty, in the midst and at the end.
		{"a*", "aba"}: "0-1 1-1 2-3 3-3", {"a*", "aab"}: "0-2 2-2 3-3", {"a?", "aab"}: "0-1 1-2 2-2 3-3", {"(ab)*", "abab"}: "0-4 4-4", {"(ab)*", "abba"}: "0-2 2-2 3-3 4-4", {".*", "a\nb"}: "0-1 1-1 2-3 3-3", {"a*|b", "aabb"}: "0-2 2-3 3-4 4-4", {"b|$", "ab"}: "1-2 2-2", {"b|", "ab"}: "0-0 1-2 2-2",
		// As long as it can be, and nothing that begins within one.
		{"a|ab", "abab"}: "0-2 2-4", {"a|ab|abc", "abcab"}: "0-3 3-5", {"(a|ab)(c|bcd)", "abcd"}: "0-4", {"a+", "aabaaa"}: "0-2 3-6", {"aa", "aaaaa"}: "0-2 2-4", {"aba", "ababa"}: "0-3", {"ab|b", "abb"}: "0-2 2-3", {"a$|a", "aa"}: "0-1 1-2", {"ab*|bc", "abbc"}: "0-3", {"ab|bc", "abc"}: "0-2", {"bc|b", "abcb"}: "1-3 3-4", {"a.*|b", "bab"}: "0-1 1-3", {"a+?", "aaba"}: "0-2 2-2 3-4 4-4",
		// Line feeds, and bytes above 126.
		{".", "a\nb"}: "0-1 2-3", {"[^a]", "\na\xff"}: "2-3", {".", "\xc3\xa4"}: "0-1 1-2", {"a", "\xe1a"}: "1-2", {"[^b]*", "a\nb"}: "0-1 1-1 2-2 3-3", {"~+", "~~\xfe\x7f~"}: "0-2 4-5",
	}
}

func TestSpansOfPatterns(t *testing.T) {
	for shown, spans := range shownSpans() {
		nodes := impl.ParsePattern(shown[0]).Nodes
		wantOfSpans(t, nodes, shown[1], spansOf(spans))
		want(t, fmt.Sprintf("told otherwise, %q", shown), meantTold(nodes, shown[1]), spansOf(spans))
		want(t, fmt.Sprintf("by FirstIn, %q", shown), firstTold(nodes, shown[1]), spansOf(spans))
	}
}

func TestSpansOfAllSmallPatterns(t *testing.T) {
	for count := range 4 {
		for _, line := range textsOf([]string{"a", "b", "\n"}, count) {
			for _, tree := range slices.Concat(treesOf(3, meantLeaves())...) {
				wantOfSpans(t, tree, line, meantTold(tree, line))
			}
		}
	}
	for _, tree := range treesOf(4, meantLeaves())[4] {
		for _, line := range []string{"", "a", "aba"} {
			want(t, fmt.Sprintf("SpansIn %+v in %q", tree, line), impl.SpansIn(tree, []byte(line)), impl.SpansResult{Spans: meantTold(tree, line)})
		}
	}
}

func TestSpansOfGreaterPatterns(t *testing.T) {
	random := rand.New(rand.NewSource(1001414))
	for i := range 600 {
		tree, line := narrowTree(random, 1+i%impl.MaxNodes), narrowText(random, random.Intn(12))
		spans := meantTold(tree, line)
		wantOfSpans(t, tree, line, spans)
		want(t, fmt.Sprintf("by FirstIn, %+v in %q", tree, line), firstTold(tree, line), spans)
	}
	for i := range 48 {
		tree, line := narrowTree(random, 1+i%impl.MaxNodes), narrowText(random, 340+random.Intn(61))
		wantOfSpans(t, tree, line, firstTold(tree, line))
	}
}

func TestSpansOfAsManyBytesAsThereMayBe(t *testing.T) {
	long, pairs := strings.Repeat("a", impl.MaxBytes), strings.Repeat("ab", impl.MaxBytes/2)
	var nothing, each, second []impl.Span
	for place := range int64(impl.MaxBytes) {
		nothing = append(nothing, impl.Span{From: place, To: place})
		each = append(each, impl.Span{From: place, To: place + 1})
		if place%2 == 0 {
			second = append(second, impl.Span{From: place, To: place + 1})
		}
	}
	end := impl.Span{From: impl.MaxBytes, To: impl.MaxBytes}
	for _, c := range []struct {
		pattern, line string
		spans         []impl.Span
	}{
		{"", long, append(nothing, end)}, {"b*", long, append(nothing, end)}, {"()*", pairs, append(nothing, end)}, {"a", long, each}, {"a?", long, append(each, end)}, {".", pairs, each}, {"a*", long, spansOf("0-400 400-400")}, {"a+", long, spansOf("0-400")}, {"a", pairs, second}, {"ab?", long, each}, {"$", long, spansOf("400-400")}, {"a$", long, spansOf("399-400")}, {"^", pairs, spansOf("0-0")}, {"b$", long, nil}, {"a+b", long, nil}, {"b$", pairs, spansOf("399-400")}, {"^(ab)+$", pairs, spansOf("0-400")},
	} {
		wantOfSpans(t, impl.ParsePattern(c.pattern).Nodes, c.line, c.spans)
	}
}

// wantOfFast asks SpansFast of a table without a fault, true or not.
func wantOfFast(t *testing.T, prog []impl.Inst, table impl.Table, line string) {
	t.Helper()
	call := fmt.Sprintf("SpansFast %+v, %+v, %q", prog, table, line)
	got := impl.SpansFast(prog, table, []byte(line))
	want(t, call, got, fastTold(prog, table, line))
	want(t, "by RunTable, "+call, got, fastByRuns(prog, table, line))
	wantBehindOneAnother(t, call, got.Spans, line)
	want(t, "TableFault of what is left, "+call, impl.TableFault(prog, got.Table), int64(impl.OK))
}

func TestTablesThatSpansLeave(t *testing.T) {
	for _, c := range []struct {
		pattern string
		size    int64
		table   string
		line    string
		spans   string
		left    string
	}{
		// From a table without states: what one place met the next one finds.
		{"a*b", 4, "", "", "", "0,1,3"}, {"a*b", 4, "", "ab", "0-2", "0,1,3 a1 | 0,1,2,3 b2 | 4"}, {"a*b", 4, "", "bb", "0-1 1-2", "0,1,3 b1 | 4 b2 | -"}, {"a*", 12, "", "baa", "0-0 1-3 3-3", "0,1,3 b1 a2 | - | 0,1,2,3 a2"}, {"a*b", 12, "", "aca", "", "0,1,3 a1 c2 | 0,1,2,3 c2 | -"},
		// States are gone on the way, and the first set of a place is entered, too.
		{"a*", 2, "", "baa", "0-0 1-3 3-3", "0,1,2,3 a0 | 0,1,3"}, {"a*", 1, "", "baa", "0-0 1-3 3-3", "0,1,3"}, {"a*b", 1, "", "aab", "0-3", "0,1,3"}, {"a*b", 1, "", "bb", "0-1 1-2", "0,1,3"}, {"a*b", 2, "", "bb", "0-1 1-2", "4 | 0,1,3"}, {"a*b", 1, "", "", "", "0,1,3"}, {"b", 1, "", "ab", "1-2", "0"},
		// With states and arcs already.
		{"a*", 1, "3 c0", "", "0-0", "0,1,3"}, {"a*b", 3, "4 | 0,1,2,3 | 0,1,3", "ab", "0-2", "4 | 0,1,2,3 b0 | 0,1,3 a1"}, {"a*b", 3, "0,1,3 a1 b2 | 0,1,2,3 a1 b2 | 4", "abb", "0-2 2-3", "- | 0,1,3 b2 | 4"}, {"a*b", 4, "0,1,3 a1 b2 | 0,1,2,3 a1 b2 | 4", "abb", "0-2 2-3", "0,1,3 a1 b2 | 0,1,2,3 a1 b2 | 4 b3 | -"}, {"a*b", 2, "4 c1 | -", "b", "0-1", "0,1,3 b1 | 4"}, {"a*b", 12, "4 | 3 | 2", "", "", "4 | 3 | 2 | 0,1,3"},
		// Arcs lead elsewhere than they should.
		{"a*b", 3, "0,1,3 a1 | 4 a2 | -", "aab", "0-1 1-2 2-3", "0,1,3 a1 b1 | 4 a2 b2 | -"}, {"a*b", 2, "0,1,3 b0 | 4", "bb", "", "0,1,3 b0 | 4"}, {"a*b", 2, "0,1,3 c1 | 4 c1", "cc", "0-2", "0,1,3 c1 | 4 c1"}, {"a*b", 2, "0,1,3 b1 | -", "bb", "", "0,1,3 b1 | -"}, {"a*b", 1, "0,1,3 c0", "cb", "0-2", "0,1,3"}, {"a", 2, "0 b1 | 1 b1", "bb", "0-2", "0 b1 | 1 b1"},
		// The beginning and the end.
		{"^a", 4, "", "aa", "0-1", "0,1 a1 | 2 a2 | - | 0 a2"}, {"^a", 1, "", "aa", "0-1", "0"}, {"^", 2, "", "a", "0-0", "0"}, {"^", 3, "", "a", "0-0", "0,1 a1 | - | 0"}, {"a$", 4, "", "aa", "1-2", "0 a1 | 1 a2 | -"}, {"$", 1, "", "", "0-0", "0"}, {"^$", 1, "", "", "0-0", "0,1"}, {"$", 3, "", "a", "1-1", "0 a1 | -"},
	} {
		prog, table := compiled(c.pattern), tableOf(c.size, c.table)
		asked := impl.SpansResult{Spans: spansOf(c.spans), Table: tableOf(c.size, c.left)}
		call := fmt.Sprintf("SpansFast %q, Size %d, %q: %q", c.pattern, c.size, c.table, c.line)
		want(t, call, impl.SpansFast(prog, table, []byte(c.line)), asked)
		wantOfFast(t, prog, table, c.line)
	}
}

func TestSpansByDrawnTables(t *testing.T) {
	random := rand.New(rand.NewSource(1011414))
	for _, prog := range somePrograms(400) {
		wantOfFast(t, prog, randomTable(random, prog), narrowText(random, random.Intn(12)))
		wantOfFast(t, prog, trueTable(random, prog, int64(1+random.Intn(impl.MaxStates))), narrowText(random, random.Intn(12)))
	}
	for i := range 400 {
		prog := impl.CompilePattern(narrowTree(random, 1+i%impl.MaxNodes)).Prog
		wantOfFast(t, prog, randomTable(random, prog), narrowText(random, random.Intn(12)))
	}
	for range 400 {
		prog := randomProg(random, 1+random.Intn(7))
		wantOfFast(t, prog, randomTable(random, prog), narrowText(random, random.Intn(8)))
	}
}

func TestTablesTellTheSameSpans(t *testing.T) {
	random := rand.New(rand.NewSource(1021414))
	progs := somePrograms(200)
	for i := range 400 {
		progs = append(progs, impl.CompilePattern(narrowTree(random, 1+i%impl.MaxNodes)).Prog, randomProg(random, 1+random.Intn(7)))
	}
	for _, prog := range progs {
		line := narrowText(random, random.Intn(10))
		spans := spansByProg(prog, line)
		for size := int64(1); size <= impl.MaxStates; size++ {
			table := trueTable(random, prog, size)
			got := impl.SpansFast(prog, table, []byte(line))
			want(t, fmt.Sprintf("SpansFast %+v, %+v, %q", prog, table, line), got.Spans, spans)
			if got.Code != impl.OK || got.Table.Size != size || !impl.TableTrue(prog, got.Table) {
				t.Errorf("SpansFast %+v, %+v, %q leaves %+v", prog, table, line, got)
			}
		}
		want(t, fmt.Sprintf("LineHas %+v, %q", prog, line), impl.LineHas(prog, []byte(line)), len(spans) > 0)
	}
}

// markTold asks each byte whether it is in one of the spans.
func markTold(list []impl.Span, n int64) []int64 {
	var marked []int64
	for place := range n {
		if slices.ContainsFunc(list, func(span impl.Span) bool { return span.From <= place && place < span.To }) {
			marked = append(marked, place)
		}
	}
	return marked
}

func TestBytesThatAreMarked(t *testing.T) {
	for _, c := range []struct {
		spans  string
		n      int64
		marked string
	}{
		{"0-0 1-3 3-3", 3, "1,2"}, {"", 0, ""}, {"", 400, ""}, {"0-0", 0, ""}, {"0-0", 1, ""}, {"0-1", 0, ""}, {"0-1", 1, "0"}, {"0-1", 2, "0"}, {"0-1 1-2", 2, "0,1"}, {"0-1 2-3", 400, "0,2"}, {"0-1 1-1 2-4 4-4", 400, "0,2,3"},
		// Spans that go over n, end at it, begin at it, are behind it.
		{"2-5", 6, "2,3,4"}, {"2-5", 5, "2,3,4"}, {"2-5", 4, "2,3"}, {"2-5", 3, "2"}, {"2-5", 2, ""}, {"2-5", 1, ""}, {"2-5", 0, ""}, {"0-2 3-5 7-9", 4, "0,1,3"}, {"0-2 3-5 7-9", 3, "0,1"}, {"0-2 3-5 7-9", 7, "0,1,3,4"}, {"0-2 3-5 7-9", 8, "0,1,3,4,7"}, {"0-2 300-400", 1, "0"}, {"399-400", 400, "399"}, {"399-400", 399, ""}, {"400-400", 400, ""},
		// Those of nothing, at one place with others.
		{"0-0 1-1 2-2", 3, ""}, {"3-3 3-5", 5, "3,4"}, {"3-5 5-5", 6, "3,4"}, {"3-5 5-5 5-6", 6, "3,4,5"}, {"3-5 5-5 6-7", 7, "3,4,6"},
	} {
		want(t, fmt.Sprintf("MarkBytes %s, %d", c.spans, c.n), impl.MarkBytes(spansOf(c.spans), c.n), impl.IntsResult{List: placesOf(c.marked)})
		want(t, fmt.Sprintf("told otherwise, %s, %d", c.spans, c.n), markTold(spansOf(c.spans), c.n), placesOf(c.marked))
	}
	whole := []impl.Span{{To: impl.MaxBytes}}
	for _, n := range []int64{0, 1, 2, 399, 400} {
		want(t, fmt.Sprintf("MarkBytes of a whole line, %d", n), impl.MarkBytes(whole, n), impl.IntsResult{List: rising(0, n)})
	}
}

// drawnSpans have no fault: spans that may touch one another, some of nothing.
func drawnSpans(random *rand.Rand) []impl.Span {
	var spans []impl.Span
	most := int64(1 + random.Intn(1+random.Intn(60)))
	for at := random.Int63n(1 + most); ; at += random.Int63n(1 + most) {
		span := impl.Span{From: at, To: at + random.Int63n(1+most)}
		if span.To > impl.MaxBytes || len(spans) == impl.MaxBytes+1 {
			return spans
		}
		if at = span.To; len(spans) == 0 || span != spans[len(spans)-1] {
			spans = append(spans, span)
		}
		if random.Intn(200) == 0 {
			return spans
		}
	}
}

func TestAByteIsMarkedJustWhereItIsInASpan(t *testing.T) {
	random := rand.New(rand.NewSource(1031414))
	for range 2000 {
		spans, n := drawnSpans(random), int64(random.Intn(impl.MaxBytes+1))
		want(t, fmt.Sprintf("SpansFault %v", spans), impl.SpansFault(spans), int64(impl.OK))
		want(t, fmt.Sprintf("MarkBytes %v, %d", spans, n), impl.MarkBytes(spans, n), impl.IntsResult{List: markTold(spans, n)})
	}
	for i := range 400 {
		tree, line := narrowTree(random, 1+i%impl.MaxNodes), narrowText(random, random.Intn(60))
		spans := impl.SpansIn(tree, []byte(line)).Spans
		for _, n := range []int64{0, int64(len(line)) / 2, int64(len(line)), impl.MaxBytes} {
			want(t, fmt.Sprintf("MarkBytes of %q in %q, %d", impl.PatternText(tree).Text, line, n), impl.MarkBytes(spans, n), impl.IntsResult{List: markTold(spans, n)})
		}
	}
}

// hasTold goes from each place of a line on for itself.
func hasTold(prog []impl.Inst, line string) bool {
	for at := range int64(len(line)) + 1 {
		if runTold(prog, line, at).Code == impl.OK {
			return true
		}
	}
	return false
}

func TestLinesThatHaveAPattern(t *testing.T) {
	for _, c := range []struct {
		prog, line string
		has        bool
	}{
		// What is done at nothing, at the end alone, at the beginning alone, nowhere.
		{"done", "", true}, {"done", "ab", true}, {"j1 done", "\n", true}, {"s1,2 a>0 done", "b", true}, {"e1 done", "", true}, {"e1 done", "ab", true}, {"a>1 e2 done", "ab", false}, {"a>1 e2 done", "aba", true}, {"a>1 e2 done", "", false}, {"b1 done", "", true}, {"b1 done", "ab", true}, {"b1 a>2 done", "ab", true}, {"b1 a>2 done", "ba", false}, {"b1 e2 done", "", true}, {"b1 e2 done", "a", false}, {"e1 b2 done", "", true}, {"a>1 b2 done", "aa", false}, {"e1 a>2 done", "aa", false}, {"j0 done", "aaa", false}, {"a>0", "aaa", false}, {"s0,0", "", false},
		// From the first place, from the last one, from the end; two ways at once.
		{"a>1 done", "abb", true}, {"a>1 done", "bba", true}, {"a>1 done", "bbb", false}, {"a>1 done", "", false}, {"a>1 b>2 done", "aab", true}, {"a>1 b>2 done", "aba", true}, {"a>1 b>2 done", "ba", false}, {"a>1 b>2 done", "a\nb", false}, {"a>1 a>2 b>3 done", "aaaab", true}, {"a>1 .>2 b>3 done", "aaab", true}, {"a>1 .>2 b>3 done", "aba", false}, {".>1 e2 done", "\na", true}, {".>1 e2 done", "a\n", false}, {"a>1 b>2 a>3 c>4 done", "ababac", true}, {"a>1 b>2 a>3 c>4 done", "abac", true}, {"a>1 b>2 a>3 c>4 done", "abaab", false},
		// What no pattern compiles to.
		{"a>2 done b>1", "bab", true}, {"a>2 done b>1", "aab", true}, {"a>2 done b>1", "ba", false}, {"a>2 done a>0", "aaaa", false}, {"a>3 done done a>0", "aaaa", false}, {"s2,3 done a>0 b>1", "aab", true},
	} {
		prog := progOf(c.prog)
		want(t, fmt.Sprintf("LineHas %s, %q", c.prog, c.line), impl.LineHas(prog, []byte(c.line)), c.has)
		want(t, fmt.Sprintf("told otherwise, %s, %q", c.prog, c.line), hasTold(prog, c.line), c.has)
	}
	long := strings.Repeat("a", impl.MaxBytes)
	for pattern, has := range map[string]bool{"": true, "a$": true, "^a": true, "b": false, "b|$": true, "^a+$": true, "a+b": false, strings.Repeat("a", 12): true} {
		want(t, fmt.Sprintf("LineHas %q of 400 bytes", pattern), impl.LineHas(compiled(pattern), []byte(long)), has)
	}
	want(t, "LineHas, at the last byte of 400", impl.LineHas(compiled("b"), []byte(long[1:]+"b")), true)
	want(t, "LineHas, at the first byte of 400", impl.LineHas(compiled("b"), []byte("b"+long[1:])), true)
}

func TestLinesThatHaveDrawnPrograms(t *testing.T) {
	random := rand.New(rand.NewSource(1041414))
	has, progs := 0, somePrograms(1000)
	for i := range 2000 {
		progs = append(progs, randomProg(random, 1+random.Intn(9)), impl.CompilePattern(narrowTree(random, 1+i%impl.MaxNodes)).Prog)
	}
	for _, prog := range progs {
		line := narrowText(random, random.Intn(9))
		got, asked := impl.LineHas(prog, []byte(line)), hasTold(prog, line)
		if got != asked {
			t.Errorf("LineHas %+v, %q = %v", prog, line, got)
		}
		if asked {
			has++
		}
	}
	if has < 500 || has > len(progs)-500 {
		t.Errorf("%d of %d lines have their program", has, len(progs))
	}
}

// hitsTold tells of each line of a file whether it has what a program is done at.
func hitsTold(prog []impl.Inst, file string) []bool {
	lines := strings.Split(file, "\n")
	if lines[len(lines)-1] == "" {
		lines = lines[:len(lines)-1]
	}
	hits := make([]bool, len(lines))
	for number, line := range lines {
		hits[number] = hasTold(prog, line)
	}
	return hits
}

// findTold goes from line to line, around the ends of the file.
func findTold(hits []bool, from int64, count int64, back bool) impl.IntResult {
	if !slices.Contains(hits, true) {
		return impl.IntResult{Code: impl.ErrNone}
	}
	for at := from; ; {
		switch {
		case back && at <= 0:
			at = int64(len(hits)) - 1
		case back:
			at--
		case at >= int64(len(hits))-1:
			at = 0
		default:
			at++
		}
		if hits[at] {
			count--
		}
		if count == 0 {
			return impl.IntResult{Value: at}
		}
	}
}

func TestLinesThatAreFound(t *testing.T) {
	const none = -1
	for _, c := range []struct {
		file        string
		from, count int64
		back        bool
		line        int64
	}{
		// Forth, from ahead of all to behind all; lines 1 and 3 are hits.
		{"a\nb\nc\nbb\n", -1, 1, false, 1}, {"a\nb\nc\nbb\n", -1, 2, false, 3}, {"a\nb\nc\nbb\n", -1, 3, false, 1}, {"a\nb\nc\nbb\n", 0, 1, false, 1}, {"a\nb\nc\nbb\n", 0, 2, false, 3}, {"a\nb\nc\nbb\n", 1, 1, false, 3}, {"a\nb\nc\nbb\n", 1, 2, false, 1}, {"a\nb\nc\nbb\n", 1, 3, false, 3}, {"a\nb\nc\nbb\n", 2, 1, false, 3}, {"a\nb\nc\nbb\n", 2, 2, false, 1}, {"a\nb\nc\nbb\n", 3, 1, false, 1}, {"a\nb\nc\nbb\n", 3, 2, false, 3}, {"a\nb\nc\nbb\n", 4, 1, false, 1}, {"a\nb\nc\nbb\n", 4, 2, false, 3},
		// Back.
		{"a\nb\nc\nbb\n", -1, 1, true, 3}, {"a\nb\nc\nbb\n", -1, 2, true, 1}, {"a\nb\nc\nbb\n", 0, 1, true, 3}, {"a\nb\nc\nbb\n", 0, 2, true, 1}, {"a\nb\nc\nbb\n", 1, 1, true, 3}, {"a\nb\nc\nbb\n", 1, 2, true, 1}, {"a\nb\nc\nbb\n", 1, 3, true, 3}, {"a\nb\nc\nbb\n", 2, 1, true, 1}, {"a\nb\nc\nbb\n", 2, 2, true, 3}, {"a\nb\nc\nbb\n", 3, 1, true, 1}, {"a\nb\nc\nbb\n", 3, 2, true, 3}, {"a\nb\nc\nbb\n", 4, 1, true, 3}, {"a\nb\nc\nbb\n", 4, 2, true, 1}, {"a\nb\nc\nbb\n", 4, 3, true, 3},
		// Several times round.
		{"a\nb\nc\nbb\n", 0, 998, false, 3}, {"a\nb\nc\nbb\n", 0, 999, false, 1}, {"a\nb\nc\nbb\n", 1, 998, false, 1}, {"a\nb\nc\nbb\n", 1, 999, false, 3}, {"a\nb\nc\nbb\n", 0, 998, true, 1}, {"a\nb\nc\nbb\n", 0, 999, true, 3}, {"a\nb\nc\nbb\n", 3, 998, true, 3}, {"a\nb\nc\nbb\n", 3, 999, true, 1}, {"b\nb\nb\n", 1, 999, false, 1}, {"b\nb\nb\n", 1, 998, false, 0}, {"b\nb\nb\n", 1, 998, true, 2}, {"b\nb\nb\n", 3, 999, false, 2}, {"b\nb\nb\n", -1, 999, true, 0},
		// Just one line is a hit: from it, from ahead of it and from behind it.
		{"a\nb\nc", 1, 1, false, 1}, {"a\nb\nc", 1, 1, true, 1}, {"a\nb\nc", 1, 999, true, 1}, {"a\nb\nc", 0, 1, true, 1}, {"a\nb\nc", 0, 2, false, 1}, {"a\nb\nc", 2, 1, false, 1}, {"a\nb\nc", 3, 1, true, 1}, {"b", 0, 1, false, 0}, {"b", 0, 1, true, 0}, {"b", -1, 1, true, 0}, {"b", 1, 1, false, 0}, {"b\n", 1, 999, false, 0},
		// The last line has no line feed; lines of nothing; the first line and the last one.
		{"b\na\nb", 0, 1, false, 2}, {"b\na\nb", 2, 1, false, 0}, {"b\na\nb", 0, 1, true, 2}, {"b\na\nb", 3, 1, true, 2}, {"b\na\nb", -1, 1, false, 0}, {"\n\nb", 0, 1, false, 2}, {"\n\nb\n\n", 4, 1, true, 2}, {"\n\n", -1, 1, false, none},
		// None at all, and no line at all.
		{"", -1, 1, false, none}, {"", 0, 1, false, none}, {"", 0, 999, true, none}, {"", -1, 1, true, none}, {"a", 0, 1, false, none}, {"a\nc\n", 1, 2, true, none}, {"a\nc\n", -1, 999, false, none}, {"\n", 1, 1, true, none},
	} {
		asked := impl.IntResult{Value: c.line}
		if c.line == none {
			asked = impl.IntResult{Code: impl.ErrNone}
		}
		call := fmt.Sprintf("%q, %d, %d, %v", c.file, c.from, c.count, c.back)
		want(t, "FindLine "+call, impl.FindLine(compiled("b"), fileOf(c.file), c.from, c.count, c.back), asked)
		want(t, "told otherwise, "+call, findTold(hitsTold(compiled("b"), c.file), c.from, c.count, c.back), asked)
	}
}

func TestALineIsTriedForItself(t *testing.T) {
	for _, c := range []struct {
		pattern, file string
		lines         []int64
	}{
		{"^", "a\n\nb", []int64{0, 1, 2}}, {"$", "a\n\nb\n", []int64{0, 1, 2}}, {"^$", "a\n\nb\n\n", []int64{1, 3}}, {"^b", "ab\nb\nba\n", []int64{1, 2}}, {"b$", "ab\nb\nba\n", []int64{0, 1}}, {"^b$", "ab\nb\nba\nb", []int64{1, 3}}, {"ab", "a\nb\nab", []int64{2}}, {"a.b", "a\nb\na\tb\n", []int64{2}}, {"", "\n\n\n", []int64{0, 1, 2}}, {"[^a]", "\na\nb", []int64{2}}, {"a*", "b\nb", []int64{0, 1}}, {".", "\r\n\n\xff\n", []int64{0, 2}},
	} {
		prog := compiled(c.pattern)
		for i, line := range c.lines {
			want(t, fmt.Sprintf("FindLine %q, %q, the hit %d", c.pattern, c.file, i), impl.FindLine(prog, fileOf(c.file), -1, int64(i)+1, false), impl.IntResult{Value: line})
			want(t, fmt.Sprintf("FindLine %q, %q, the hit %d, back", c.pattern, c.file, i), impl.FindLine(prog, fileOf(c.file), -1, int64(len(c.lines)-i), true), impl.IntResult{Value: line})
		}
		want(t, fmt.Sprintf("FindLine %q, %q, one more", c.pattern, c.file), impl.FindLine(prog, fileOf(c.file), -1, int64(len(c.lines))+1, false), impl.FindLine(prog, fileOf(c.file), -1, 1, false))
	}
}

// wantOfFind asks for the lines of a file from each line on, and there and back again.
func wantOfFind(t *testing.T, prog []impl.Inst, file string, counts []int64) {
	t.Helper()
	f, hits := fileOf(file), hitsTold(prog, file)
	for from := int64(-1); from <= int64(len(hits)); from++ {
		for _, count := range counts {
			for _, back := range []bool{false, true} {
				call := fmt.Sprintf("FindLine %+v, %q, %d, %d, %v", prog, file, from, count, back)
				got := impl.FindLine(prog, f, from, count, back)
				want(t, call, got, findTold(hits, from, count, back))
				if got.Code != impl.OK {
					continue
				}
				if line := impl.LineBytes(f, got.Value); line.Code != impl.OK || !impl.LineHas(prog, line.Bytes) {
					t.Errorf("%s = %v, where the line has it not", call, got)
				}
				if from >= 0 && from < int64(len(hits)) && hits[from] {
					want(t, "and the other way, "+call, impl.FindLine(prog, f, got.Value, count, !back), impl.IntResult{Value: from})
				}
			}
		}
	}
}

func TestThereAndBackOneIsWhereOneWas(t *testing.T) {
	random := rand.New(rand.NewSource(1051414))
	for _, file := range shortFiles(5) {
		for _, pattern := range []string{"a", "^$", "aa", ""} {
			wantOfFind(t, compiled(pattern), file, []int64{1, 2, 3, 4, 5, 6, 998, 999})
		}
	}
	for i := range 300 {
		file := strings.ReplaceAll(narrowText(random, random.Intn(30)), "b", "\n")
		wantOfFind(t, impl.CompilePattern(narrowTree(random, 1+i%impl.MaxNodes)).Prog, file, []int64{1, 2, int64(1 + random.Intn(10)), int64(1 + random.Intn(999))})
		wantOfFind(t, randomProg(random, 1+random.Intn(7)), file, []int64{1, int64(1 + random.Intn(999))})
	}
	for _, file := range someFiles(90) {
		for _, pattern := range []string{"x", "y$", "^[AEQUaeiouxy~]", ""} {
			prog := compiled(pattern)
			hits := hitsTold(prog, file)
			for range 8 {
				from, count, back := int64(random.Intn(len(hits)+2)-1), int64(1+random.Intn(999)), random.Intn(2) == 0
				want(t, fmt.Sprintf("FindLine %q, %q, %d, %d, %v", pattern, file, from, count, back), impl.FindLine(prog, fileOf(file), from, count, back), findTold(hits, from, count, back))
			}
		}
	}
}

func TestAsManyLinesAsThereMayBe(t *testing.T) {
	f, nothing := fileOf(strings.Repeat("\n", impl.MaxBytes)), compiled("^$")
	for _, c := range []struct {
		from, count int64
		back        bool
		line        int64
	}{
		{-1, 1, false, 0}, {-1, 400, false, 399}, {-1, 401, false, 0}, {-1, 999, false, 198}, {0, 1, false, 1}, {0, 399, false, 399}, {0, 400, false, 0}, {0, 999, false, 199}, {399, 1, false, 0}, {400, 1, false, 0}, {400, 400, false, 399},
		{-1, 1, true, 399}, {-1, 400, true, 0}, {0, 1, true, 399}, {0, 400, true, 0}, {0, 401, true, 399}, {0, 999, true, 201}, {1, 1, true, 0}, {399, 1, true, 398}, {399, 999, true, 200}, {400, 1, true, 399}, {400, 400, true, 0}, {400, 401, true, 399},
	} {
		want(t, fmt.Sprintf("FindLine of 400 lines, %d, %d, %v", c.from, c.count, c.back), impl.FindLine(nothing, f, c.from, c.count, c.back), impl.IntResult{Value: c.line})
	}
	long := fileOf(strings.Repeat("a", impl.MaxBytes-1) + "b")
	want(t, "FindLine of one line of 400 bytes", impl.FindLine(compiled("b$"), long, -1, 999, true), impl.IntResult{})
	want(t, "FindLine of one line of 400 bytes that has it not", impl.FindLine(compiled("ba"), long, 0, 1, true), impl.IntResult{Code: impl.ErrNone})
}
