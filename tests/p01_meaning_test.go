package tests

import (
	"bytes"
	"fmt"
	"math"
	"math/rand"
	"slices"
	"strings"
	"sync"
	"testing"
	"time"

	"loop.example/g00414/impl"
)

// Promise 1, of chapter 6: every function answers at every argument, ends, and changes none;
// what it answers is new memory; it hangs on the arguments alone.

// wantNoEnds asks all functions where a code has to be told.
func wantNoEnds(t *testing.T, call string, nodes []impl.Node, text []byte, at int64, code int64) {
	t.Helper()
	call = fmt.Sprintf("%s: %+v in %d bytes from %d", call, nodes, len(text), at)
	want(t, "EndsFrom "+call, impl.EndsFrom(nodes, text, at), impl.IntsResult{Code: code})
	want(t, "LongestFrom "+call, impl.LongestFrom(nodes, text, at), impl.IntResult{Code: code})
	want(t, "FirstIn "+call, impl.FirstIn(nodes, text, at), impl.SpanResult{Code: code})
}

// faultyPatterns are nodes with each fault, by their code.
func faultyPatterns() map[int64][][]impl.Node {
	a := impl.Node{Kind: impl.ReChar, Char: 'a'}
	faulty := map[int64][][]impl.Node{
		impl.ErrMany:  {nil, {}, make([]impl.Node, 25), slices.Repeat(charOf('a'), 5000)},
		impl.ErrRange: {charOf(31), charOf(127), charOf(-97), charOf(1<<32 + 97), setOf(impl.ReSet, ""), setOf(impl.ReNot, ""), setOf(impl.ReSet, "ba"), setOf(impl.ReNot, "aa"), setOf(impl.ReSet, "\n"), setOf(impl.ReSet, strings.Repeat("a", 21))},
		impl.ErrForm: {
			{a, a}, {{Kind: impl.ReStar}}, {{Kind: impl.RePlus, Left: -1}}, {a, {Kind: impl.ReStar, Left: 1}}, {a, {Kind: impl.ReOpt, Left: -1}}, {a, {Kind: impl.ReCat}}, {{Kind: impl.ReAlt, Left: -1, Right: -1}},
			{a, a, {Kind: impl.ReCat, Left: 1, Right: 0}}, {a, a, {Kind: impl.ReCat, Left: 2, Right: 2}}, {a, a, {Kind: impl.ReAlt, Left: 1, Right: 1}}, {a, a, {Kind: impl.ReStar, Left: 1}}, {{Kind: impl.ReAny, Char: 'a'}}, {{Kind: impl.ReChar, Char: 'a', Set: "a"}}, {{Kind: impl.ReBegin, Left: 1}},
		},
	}
	for _, number := range append(farNumbers(), -1, 13) {
		faulty[impl.ErrForm] = append(faulty[impl.ErrForm], nodeOf(number), []impl.Node{a, {Kind: impl.ReStar, Left: number}}, []impl.Node{a, a, {Kind: impl.ReCat, Left: number, Right: 1}}, []impl.Node{a, a, {Kind: impl.ReAlt, Right: number}})
		faulty[impl.ErrRange] = append(faulty[impl.ErrRange], charOf(number))
	}
	return faulty
}

func TestFaultsOfPatternsComeFirst(t *testing.T) {
	for code, patterns := range faultyPatterns() {
		for _, nodes := range patterns {
			for _, size := range []int{0, 1, 400, 401, 5000} {
				text := bytes.Repeat([]byte("a"), size)
				for _, at := range []int64{0, -1, int64(size), int64(size) + 1, math.MinInt64, math.MaxInt64} {
					wantNoEnds(t, "a fault", nodes, text, at, code)
				}
				want(t, fmt.Sprintf("DoesFit %+v", nodes), impl.DoesFit(nodes, text), false)
			}
			want(t, fmt.Sprintf("DoesFit %+v, nil", nodes), impl.DoesFit(nodes, nil), false)
		}
	}
}

func TestTextsThatAreTooLong(t *testing.T) {
	for _, pattern := range []string{"", "a*", ".*", "b", "^", "$", "(a|b)+"} {
		nodes := impl.ParsePattern(pattern).Nodes
		for _, size := range []int{401, 402, 448, 449, 512, 5000} {
			text := bytes.Repeat([]byte("a"), size)
			for _, at := range append(farNumbers(), -1, 0, 1, 400, 401, int64(size), int64(size)+1) {
				wantNoEnds(t, "too long", nodes, text, at, impl.ErrMany)
			}
			want(t, fmt.Sprintf("DoesFit %q, %d bytes", pattern, size), impl.DoesFit(nodes, text), false)
		}
	}
	long := bytes.Repeat([]byte("a"), 400)
	want(t, "EndsFrom of 400 bytes", len(impl.EndsFrom(impl.ParsePattern("a*").Nodes, long, 0).List), 401)
	want(t, "EndsFrom of 400 bytes, from their end", impl.EndsFrom(impl.ParsePattern("a*").Nodes, long, 400), impl.IntsResult{List: []int64{400}})
	want(t, "LongestFrom of 400 bytes", impl.LongestFrom(impl.ParsePattern("a*").Nodes, long, 0), impl.IntResult{Value: 400})
	want(t, "FirstIn of 400 bytes", impl.FirstIn(impl.ParsePattern("a$").Nodes, long, 0), impl.SpanResult{From: 399, To: 400})
	want(t, "DoesFit of 400 bytes", impl.DoesFit(impl.ParsePattern("a*").Nodes, long), true)
}

func TestPlacesOfTextsThatLeaveTheirBounds(t *testing.T) {
	for _, pattern := range []string{"", "a", "a*", "^", "$", ".|b"} {
		nodes := impl.ParsePattern(pattern).Nodes
		for _, size := range []int{0, 1, 2, 63, 64, 399, 400} {
			text := bytes.Repeat([]byte("a"), size)
			for _, at := range append(farNumbers(), -400, -2, -1, int64(size)+1, int64(size)+2, 401, 448, 1000) {
				wantNoEnds(t, "out of bounds", nodes, text, at, impl.ErrRange)
			}
			for _, at := range []int64{0, int64(size)} {
				want(t, fmt.Sprintf("EndsFrom %q, %d bytes, %d", pattern, size, at), impl.EndsFrom(nodes, text, at).Code, int64(impl.OK))
			}
		}
		for _, none := range [][]byte{nil, {}, make([]byte, 0, 9)} {
			wantNoEnds(t, "behind nothing", nodes, none, 1, impl.ErrRange)
			wantNoEnds(t, "ahead of nothing", nodes, none, -1, impl.ErrRange)
			wantOfEnds(t, nodes, string(none), 0, impl.EndsFrom(nodes, nil, 0).List)
			want(t, fmt.Sprintf("FirstIn %q, nothing", pattern), impl.FirstIn(nodes, none, 0), impl.FirstIn(nodes, nil, 0))
			want(t, fmt.Sprintf("DoesFit %q, nothing", pattern), impl.DoesFit(nodes, none), impl.CanBeEmpty(nodes))
		}
	}
}

// greatTrees are those that take the longest where something is gone over again and again.
func greatTrees() [][]impl.Node {
	var trees [][]impl.Node
	for _, pattern := range []string{
		"a" + strings.Repeat("*", 23), "a" + strings.Repeat("+", 23), "a" + strings.Repeat("?", 23), "a" + strings.Repeat("*+?", 7) + "*+", "()" + strings.Repeat("*", 23), "^" + strings.Repeat("+", 23), "$" + strings.Repeat("*", 23), "(a|)" + strings.Repeat("+", 20),
		"((((a*a*)*a*)*a*)*a*)*b", "((((a*a*)*(a*a*)*)*a*)*b)|a", "(a*(a*(a*(a*(a*(a*b?)))))*)*", "(a*a*a*a*a*a*b)*", "a?a?a?a?a?a?aaa", "(a|a)*(a|a)*(a|a)*(a|a)*b", "((a|aa)+(a|aa)+)*b", "(((a+)+)+)+b", "((a*)*|(a*)*|(a*)*)*b", "(.*.*.*.*.*.*.*)*", "(((.*.)*.)*.)*b", "((((((a?)*a?)*a?)*a?)*a?)*a?)*",
	} {
		trees = append(trees, impl.ParsePattern(pattern).Nodes)
	}
	random := rand.New(rand.NewSource(471414))
	for range 150 {
		tree := randomTree(random, impl.MaxNodes)
		for i, n := range tree {
			if n.Kind < impl.ReStar && random.Intn(4) > 0 {
				tree[i] = charOf('a')[0]
			}
		}
		trees = append(trees, tree)
	}
	return trees
}

func TestEachCallEndsSoon(t *testing.T) {
	texts := [][]byte{bytes.Repeat([]byte("a"), 400), append(bytes.Repeat([]byte("a"), 399), 'b'), bytes.Repeat([]byte("ab"), 200), bytes.Repeat([]byte("\n"), 400)}
	for _, nodes := range greatTrees() {
		want(t, "NodesFault of a great tree", impl.NodesFault(nodes), int64(impl.OK))
		for _, text := range texts {
			begin := time.Now()
			impl.EndsFrom(nodes, text, 0)
			impl.LongestFrom(nodes, text, 1)
			impl.FirstIn(nodes, text, 0)
			impl.DoesFit(nodes, text)
			if took := time.Since(begin); took > 4*time.Second {
				t.Errorf("%q in %q took %v", impl.PatternText(nodes).Text, text, took)
			}
		}
	}
}

// askedMeaning asks all functions of the chapter.
func askedMeaning(nodes []impl.Node, text []byte, at int64) string {
	return fmt.Sprint(impl.EndsFrom(nodes, text, at), impl.LongestFrom(nodes, text, at), impl.FirstIn(nodes, text, at), impl.DoesFit(nodes, text))
}

// meantTexts are those of all sizes, one of them too long.
func meantTexts() []string {
	random := rand.New(rand.NewSource(571414))
	texts := []string{"", "a", "aab", strings.Repeat("a", 400), strings.Repeat("a", 401)}
	for range 20 {
		texts = append(texts, narrowText(random, random.Intn(30)))
	}
	return texts
}

// meantPatterns are nodes: trees that fit often, and lists that have a fault.
func meantPatterns() [][]impl.Node {
	random := rand.New(rand.NewSource(671414))
	patterns := append(somePatterns(), greatTrees()[:20]...)
	for i := range 200 {
		patterns = append(patterns, narrowTree(random, 1+i%impl.MaxNodes))
	}
	return patterns
}

func TestWhatMeaningIsAskedOfStaysAsItIs(t *testing.T) {
	texts := meantTexts()
	for i, nodes := range meantPatterns() {
		mark := impl.Node{Kind: 170, Char: 170, Set: "mark", Left: 170, Right: 170}
		whole := append(slices.Clone(nodes), slices.Repeat([]impl.Node{mark}, 8)...)
		part, kept := whole[:len(nodes):len(whole)], slices.Clone(whole)
		text, wholeText := guarded([]byte(texts[i%len(texts)]))
		keptText := bytes.Clone(wholeText)
		for _, at := range []int64{-1, 0, int64(len(text)) / 2, int64(len(text)), int64(len(text)) + 1} {
			askedMeaning(part, text, at)
		}
		if !slices.Equal(whole, kept) || !bytes.Equal(wholeText, keptText) {
			t.Fatalf("%v in %q was changed to %v in %q", kept, keptText, whole, wholeText)
		}
	}
}

func TestAnswersOfMeaningShareNoMemory(t *testing.T) {
	for shown := range shownEnds() {
		nodes, text := impl.ParsePattern(shown[0]).Nodes, []byte(shown[1])
		first := impl.EndsFrom(nodes, text, 0)
		kept := slices.Clone(first.List)
		second := impl.EndsFrom(nodes, text, 0)
		overwrite(first.List, -1)
		want(t, fmt.Sprintf("EndsFrom %q, the other answer changed", shown), second.List, kept)
		overwrite(text, 'Z')
		overwrite(nodes, impl.Node{Kind: 13})
		want(t, fmt.Sprintf("EndsFrom %q, its arguments changed", shown), second.List, kept)
		want(t, fmt.Sprintf("EndsFrom %q, asked again", shown), impl.EndsFrom(impl.ParsePattern(shown[0]).Nodes, []byte(shown[1]), 0).List, kept)
	}
}

func TestAnswersOfMeaningHangOnTheArgumentsAlone(t *testing.T) {
	patterns, texts := meantPatterns(), meantTexts()
	all := func(i int) string {
		text := []byte(texts[i%len(texts)])
		return askedMeaning(patterns[i], text, 0) + askedMeaning(patterns[i], text, int64(i%(len(text)+2)))
	}
	first := make([]string, len(patterns))
	for i := range patterns {
		first[i] = all(i)
	}
	var group sync.WaitGroup
	for range 4 {
		group.Go(func() {
			for i := len(patterns) - 1; i >= 0; i-- {
				if again := all(i); again != first[i] {
					t.Errorf("%v in %q was answered in two ways:\n%s\n%s", patterns[i], texts[i%len(texts)], first[i], again)
				}
			}
		})
	}
	group.Wait()
}
