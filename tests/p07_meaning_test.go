package tests

import (
	"fmt"
	"math/rand"
	"slices"
	"strings"
	"testing"

	"loop.example/g00414/impl"
)

// Promise 7: of two behind one another the second goes on where the first ends, and of two one or the other fits;
// the first one that fits begins nowhere ahead, and is as long as it can be; what fits to nothing can be empty.

// square tells for each place of a text to which ones something fits.
type square [][]bool

func squareOf(count int) square {
	fits := make(square, count)
	for from := range fits {
		fits[from] = make([]bool, count)
	}
	return fits
}

// fitTold is the square of the tree at a place: loops are found by going over each place in between.
func fitTold(nodes []impl.Node, place int64, text string) square {
	n, count := nodes[place], len(text)+1
	fits := squareOf(count)
	switch {
	case n.Kind == impl.ReCat:
		left, right := fitTold(nodes, n.Left, text), fitTold(nodes, n.Right, text)
		for from := range count {
			for mid := range count {
				for to := range count {
					fits[from][to] = fits[from][to] || left[from][mid] && right[mid][to]
				}
			}
		}
	case n.Kind == impl.ReAlt:
		left, right := fitTold(nodes, n.Left, text), fitTold(nodes, n.Right, text)
		for from := range count {
			for to := range count {
				fits[from][to] = left[from][to] || right[from][to]
			}
		}
	case n.Kind >= impl.ReStar:
		fits = fitTold(nodes, n.Left, text)
		for mid := range count {
			for from := range count {
				for to := range count {
					fits[from][to] = fits[from][to] || n.Kind != impl.ReOpt && fits[from][mid] && fits[mid][to]
				}
			}
		}
		for from := range count {
			fits[from][from] = fits[from][from] || n.Kind != impl.RePlus
		}
	default:
		leafFitTold(n, text, fits)
	}
	return fits
}

func leafFitTold(n impl.Node, text string, fits square) {
	for from := range fits {
		switch {
		case n.Kind == impl.ReEmpty, n.Kind == impl.ReBegin && from == 0, n.Kind == impl.ReEnd && from == len(text):
			fits[from][from] = true
		case from == len(text):
		case n.Kind == impl.ReChar:
			fits[from][from+1] = text[from] == byte(n.Char)
		case n.Kind == impl.ReAny:
			fits[from][from+1] = text[from] != '\n'
		case n.Kind == impl.ReSet:
			fits[from][from+1] = strings.IndexByte(n.Set, text[from]) >= 0
		case n.Kind == impl.ReNot:
			fits[from][from+1] = strings.IndexByte(n.Set+"\n", text[from]) < 0
		}
	}
}

func endsTold(row []bool) []int64 {
	var ends []int64
	for to, fits := range row {
		if fits {
			ends = append(ends, int64(to))
		}
	}
	return ends
}

// wantOfEnds asks for the ends from one place, and for the longest one of them.
func wantOfEnds(t *testing.T, nodes []impl.Node, text string, at int64, ends []int64) {
	t.Helper()
	longest := impl.IntResult{Code: impl.ErrNone}
	if len(ends) > 0 {
		longest = impl.IntResult{Value: ends[len(ends)-1]}
	}
	if got := impl.EndsFrom(nodes, []byte(text), at); got.Code != impl.OK || !slices.Equal(got.List, ends) {
		t.Errorf("EndsFrom %q, %q, %d = %v, asked for %v", impl.PatternText(nodes).Text, text, at, got, ends)
	}
	if got := impl.LongestFrom(nodes, []byte(text), at); got != longest {
		t.Errorf("LongestFrom %q, %q, %d = %v, asked for %v", impl.PatternText(nodes).Text, text, at, got, longest)
	}
}

// wantOfMeaning asks all functions at all places of a text.
func wantOfMeaning(t *testing.T, nodes []impl.Node, text string) {
	t.Helper()
	fits := fitTold(nodes, int64(len(nodes))-1, text)
	first := impl.SpanResult{Code: impl.ErrNone}
	for at := len(text); at >= 0; at-- {
		ends := endsTold(fits[at])
		wantOfEnds(t, nodes, text, int64(at), ends)
		if len(ends) > 0 {
			first = impl.SpanResult{From: int64(at), To: ends[len(ends)-1]}
		}
		if got := impl.FirstIn(nodes, []byte(text), int64(at)); got != first {
			t.Errorf("FirstIn %q, %q, %d = %v, asked for %v", impl.PatternText(nodes).Text, text, at, got, first)
		}
	}
	if got, asked := impl.DoesFit(nodes, []byte(text)), fits[0][len(text)]; got != asked {
		t.Errorf("DoesFit %q, %q = %v", impl.PatternText(nodes).Text, text, got)
	}
}

// shownEnds are patterns and texts, and for each place of the text the ends from there.
func shownEnds() map[[2]string]string {
	return map[[2]string]string{
		// Each kind alone.
		{"", ""}: "[0]", {"", "a"}: "[0] [1]", {"a", ""}: "[]", {"a", "a"}: "[1] []", {"a", "ba"}: "[] [2] []", {".", "a"}: "[1] []", {".", ""}: "[]",
		{"[ac]", "abc"}: "[1] [] [3] []", {"[^ac]", "abc"}: "[] [2] [] []", {"^", "ab"}: "[0] [] []", {"$", "ab"}: "[] [] [2]", {"^", ""}: "[0]", {"$", ""}: "[0]",
		{"a*", "aab"}: "[0 1 2] [1 2] [2] [3]", {"a+", "aab"}: "[1 2] [2] [] []", {"a?", "aab"}: "[0 1] [1 2] [2] [3]", {"ab", "abab"}: "[2] [] [4] [] []", {"a|b", "abc"}: "[1] [2] [] []",
		// What stands for bytes: a line feed, and bytes above 126.
		{".", "\n"}: "[] []", {"[^a]", "\n"}: "[] []", {".", "\x7f\x80\xff\x00\t\r"}: "[1] [2] [3] [4] [5] [6] []", {"[^a]", "\x7f\x80\xff\x00\n\r"}: "[1] [2] [3] [4] [] [6] []",
		{"[ab]", "\xe1\x7f\xff\n"}: "[] [] [] [] []", {"a", "\xe1\x01"}: "[] [] []", {".*", "a\xe4\nb"}: "[0 1 2] [1 2] [2] [3 4] [4]", {"..", "\xc3\xa4"}: "[2] [] []",
		// The beginning and the end, ahead of and behind something, in a loop, around line feeds.
		{"^a", "aa"}: "[1] [] []", {"a^", "aa"}: "[] [] []", {"^^a", "aa"}: "[1] [] []", {"a$", "aa"}: "[] [2] []", {"$a", "aa"}: "[] [] []", {"a$$", "aa"}: "[] [2] []", {"^$", ""}: "[0]", {"$^", ""}: "[0]", {"^$", "a"}: "[] []",
		{"^|a", "aa"}: "[0 1] [2] []", {"$|a", "aa"}: "[1] [2] [2]", {"(^a)*", "aa"}: "[0 1] [1] [2]", {"(^a)+", "aa"}: "[1] [] []", {"(a$)*", "aa"}: "[0] [1 2] [2]", {"(^|a)*", "aa"}: "[0 1 2] [1 2] [2]", {"(^|a)+", "aa"}: "[0 1 2] [2] []",
		{"(a|$)*", "aa"}: "[0 1 2] [1 2] [2]", {"(a|$)+", "aa"}: "[1 2] [2] [2]", {"(a$|^a)*", "aa"}: "[0 1 2] [1 2] [2]", {"^a", "\na"}: "[] [] []", {"a$", "a\n"}: "[] [] []", {"^", "\n"}: "[0] []", {"$", "\n"}: "[] [1]", {"a*$", "aa"}: "[2] [2] [2]",
		{"(^|b)a", "aba"}: "[1] [3] [] []", {"a(b|$)", "aba"}: "[2] [] [3] []", {"(^)?a", "aa"}: "[1] [2] []", {"(^*a$*)*", "aa"}: "[0 1 2] [1 2] [2]",
		// Loops of what can be empty.
		{"()*", "a"}: "[0] [1]", {"()+", "a"}: "[0] [1]", {"()?", "a"}: "[0] [1]", {"^*", "a"}: "[0] [1]", {"^+", "a"}: "[0] []", {"^?", "a"}: "[0] [1]", {"$*", "a"}: "[0] [1]", {"$+", "a"}: "[] [1]", {"$?", "a"}: "[0] [1]",
		{"a**", "aa"}: "[0 1 2] [1 2] [2]", {"a*+", "aa"}: "[0 1 2] [1 2] [2]", {"a*?", "aa"}: "[0 1 2] [1 2] [2]", {"a?*", "aa"}: "[0 1 2] [1 2] [2]", {"a?+", "aa"}: "[0 1 2] [1 2] [2]", {"a+*", "aa"}: "[0 1 2] [1 2] [2]", {"a++", "aa"}: "[1 2] [2] []",
		{"(|a)*", "aab"}: "[0 1 2] [1 2] [2] [3]", {"(a|)*", "aab"}: "[0 1 2] [1 2] [2] [3]", {"(|a)+", "aab"}: "[0 1 2] [1 2] [2] [3]", {"(a|)+", "aab"}: "[0 1 2] [1 2] [2] [3]", {"(|a)?", "aab"}: "[0 1] [1 2] [2] [3]", {"(a|)?", "aab"}: "[0 1] [1 2] [2] [3]",
		{"(a*b*)*", "abab"}: "[0 1 2 3 4] [1 2 3 4] [2 3 4] [3 4] [4]", {"(a*b*)+", "ab"}: "[0 1 2] [1 2] [2]", {"(a?b)*", "abb"}: "[0 2 3] [1 2 3] [2 3] [3]", {"(()|$)+a", "a"}: "[1] []",
		// Loops whose one fits to several places.
		{"(a|ab)*", "aba"}: "[0 1 2 3] [1] [2 3] [3]", {"(a|aa)+", "aaa"}: "[1 2 3] [2 3] [3] []", {"(aa|aaa)*", "aaaaa"}: "[0 2 3 4 5] [1 3 4 5] [2 4 5] [3 5] [4] [5]", {"(a+b?)+", "aaba"}: "[1 2 3 4] [2 3 4] [] [4] []", {"(ab|b|a)*", "abb"}: "[0 1 2 3] [1 2 3] [2 3] [3]",
		{"(a(b|bc)(c|))*", "abcabc"}: "[0 2 3 5 6] [1] [2] [3 5 6] [4] [5] [6]", {"(aa)*", "aaa"}: "[0 2] [1 3] [2] [3]", {"(aa)+", "aaa"}: "[2] [3] [] []",
		// Left fits to several places of which only some let Right go on.
		{"a*ab", "aaab"}: "[4] [4] [4] [] []", {"a*a", "aaa"}: "[1 2 3] [2 3] [3] []", {"(a|ab)(b|c)", "abc"}: "[2 3] [] [] []", {"(a|ab)c", "abc"}: "[3] [] [] []", {"(a|ab)bc", "abbc"}: "[4] [] [] [] []", {"a*b*", "aab"}: "[0 1 2 3] [1 2 3] [2 3] [3]",
		{".*b", "abab"}: "[2 4] [2 4] [4] [4] []", {".+b", "abab"}: "[2 4] [4] [4] [] []", {".?b", "abab"}: "[2] [2] [4] [4] []", {"a?a?a?aaa", "aaa"}: "[3] [] [] []", {"(a*)(a*)", "aa"}: "[0 1 2] [1 2] [2]", {"a(b*|c)(bc|$)", "abbc"}: "[4] [] [] [] []",
		// Two that fit to the same places, to different ones, to none.
		{"a|a", "a"}: "[1] []", {"a|.", "ab"}: "[1] [2] []", {"a*|a+", "aa"}: "[0 1 2] [1 2] [2]", {"a|ab", "ab"}: "[1 2] [] []", {"ab|a", "ab"}: "[1 2] [] []", {"a|ab|abc", "abc"}: "[1 2 3] [] [] []", {"abc|ab|a", "abc"}: "[1 2 3] [] [] []", {"|ab", "ab"}: "[0 2] [1] [2]", {"b|c", "a"}: "[] []", {"aa|^a", "aa"}: "[1 2] [] []",
	}
}

func TestWhatPatternsMean(t *testing.T) {
	for shown, asked := range shownEnds() {
		nodes, text := impl.ParsePattern(shown[0]).Nodes, shown[1]
		var told []string
		for at := range len(text) + 1 {
			told = append(told, fmt.Sprint(impl.EndsFrom(nodes, []byte(text), int64(at)).List))
		}
		want(t, fmt.Sprintf("EndsFrom %q, %q", shown[0], text), strings.Join(told, " "), asked)
		wantOfMeaning(t, nodes, text)
	}
}

func TestTheLongestAndTheFirst(t *testing.T) {
	for _, c := range []struct {
		pattern, text string
		at, from, to  int64
	}{
		// A shorter one comes first in the tree, and a longer one further on in the text.
		{"a|ab|abc", "abcd", 0, 0, 3}, {"|a", "aa", 0, 0, 1}, {"a?", "aa", 0, 0, 1}, {"b|abb", "abb", 0, 0, 3}, {"(a|ab)(c|bcd)", "abcd", 0, 0, 4}, {"a|bbbb", "abbbb", 0, 0, 1}, {"b+|a", "abbb", 0, 0, 1},
		// From a place behind one that fits, and in the midst of one.
		{"ab", "abxab", 0, 0, 2}, {"ab", "abxab", 1, 3, 5}, {"ab", "abxab", 3, 3, 5}, {"a+", "aaa", 1, 1, 3}, {"a+", "aaa", 2, 2, 3}, {"a+b", "aab", 1, 1, 3},
		// At the last place, and where only nothing fits.
		{"a", "bba", 0, 2, 3}, {"a*", "bba", 0, 0, 0}, {"a*", "bba", 2, 2, 3}, {"a*", "bba", 3, 3, 3}, {"$", "bba", 0, 3, 3}, {"$", "bba", 3, 3, 3}, {"a*$", "baa", 0, 1, 3}, {"", "abc", 2, 2, 2}, {"", "", 0, 0, 0}, {"^", "abc", 0, 0, 0}, {"b|$", "ac", 1, 2, 2}, {"^|a", "ba", 1, 1, 2},
		{".", "\n\na", 0, 2, 3}, {".+", "\nab\ncd", 0, 1, 3}, {".+", "\nab\ncd", 3, 4, 6}, {"[^a]", "aa\n\xff", 0, 3, 4},
	} {
		nodes := impl.ParsePattern(c.pattern).Nodes
		want(t, fmt.Sprintf("FirstIn %q, %q, %d", c.pattern, c.text, c.at), impl.FirstIn(nodes, []byte(c.text), c.at), impl.SpanResult{From: c.from, To: c.to})
		want(t, fmt.Sprintf("LongestFrom %q, %q, %d", c.pattern, c.text, c.from), impl.LongestFrom(nodes, []byte(c.text), c.from), impl.IntResult{Value: c.to})
		for ahead := c.at; ahead < c.from; ahead++ {
			want(t, fmt.Sprintf("LongestFrom %q, %q, %d", c.pattern, c.text, ahead), impl.LongestFrom(nodes, []byte(c.text), ahead), impl.IntResult{Code: impl.ErrNone})
		}
	}
	for _, c := range []struct {
		pattern, text string
		at            int64
	}{
		{"a", "", 0}, {"a", "bbb", 0}, {"a", "abb", 1}, {"a", "aaa", 3}, {"^", "ab", 1}, {"^", "ab", 2}, {"^b", "ab", 0}, {"^b", "ab", 1}, {"a$", "ab", 0}, {".", "\n\n", 0}, {"[^a]", "a\na", 0}, {"$a", "aa", 0}, {"a^", "aa", 0}, {"ab", "aab", 2}, {"^+", "ab", 1}, {"^$", "a", 0}, {"a+b", "aaac", 0},
	} {
		want(t, fmt.Sprintf("FirstIn %q, %q, %d", c.pattern, c.text, c.at), impl.FirstIn(impl.ParsePattern(c.pattern).Nodes, []byte(c.text), c.at), impl.SpanResult{Code: impl.ErrNone})
		want(t, fmt.Sprintf("LongestFrom %q, %q, %d", c.pattern, c.text, c.at), impl.LongestFrom(impl.ParsePattern(c.pattern).Nodes, []byte(c.text), c.at), impl.IntResult{Code: impl.ErrNone})
		want(t, fmt.Sprintf("EndsFrom %q, %q, %d", c.pattern, c.text, c.at), impl.EndsFrom(impl.ParsePattern(c.pattern).Nodes, []byte(c.text), c.at), impl.IntsResult{})
	}
}

func TestWhatFitsAsAWhole(t *testing.T) {
	for pattern, texts := range map[string][2][]string{
		"":       {{""}, {"a", "\n"}},
		"a":      {{"a"}, {"", "b", "aa", "ab", "ba"}},
		"a*":     {{"", "a", "aa"}, {"b", "ab", "ba", "aba"}},
		"a|ab":   {{"a", "ab"}, {"", "b", "abb", "aab"}},
		"^":      {{""}, {"a"}},
		"$":      {{""}, {"a"}},
		"^$":     {{""}, {"a", "\n"}},
		"^a+$":   {{"a", "aa"}, {"", "ab", "ba", "a\n"}},
		"a+b":    {{"ab", "aab"}, {"", "a", "b", "abc", "cab", "aba"}},
		".*":     {{"", "a", "\x80\xff\x00"}, {"\n", "a\nb", "a\n"}},
		"[^b]*":  {{"", "a\xff"}, {"\n", "ab"}},
		"(a|b)*": {{"", "abba"}, {"abc", "cab", "a\n"}},
		".(a|$)": {{"a", "aa", "ba"}, {"", "ab"}},
	} {
		for _, text := range texts[0] {
			want(t, fmt.Sprintf("DoesFit %q, %q", pattern, text), impl.DoesFit(impl.ParsePattern(pattern).Nodes, []byte(text)), true)
		}
		for _, text := range texts[1] {
			want(t, fmt.Sprintf("DoesFit %q, %q", pattern, text), impl.DoesFit(impl.ParsePattern(pattern).Nodes, []byte(text)), false)
		}
	}
}

// meantLeaves are one of each kind that is of no other, so that they fit often.
func meantLeaves() [][]impl.Node {
	return [][]impl.Node{
		nodeOf(impl.ReEmpty), charOf('a'), nodeOf(impl.ReAny), setOf(impl.ReSet, "ab"), setOf(impl.ReNot, "a"), nodeOf(impl.ReBegin), nodeOf(impl.ReEnd),
	}
}

func TestWhatAllSmallPatternsMean(t *testing.T) {
	trees := treesOf(5, meantLeaves())
	for count := range 4 {
		for _, text := range textsOf([]string{"a", "b", "\n"}, count) {
			for _, tree := range slices.Concat(trees[:5]...) {
				wantOfMeaning(t, tree, text)
			}
		}
	}
	for _, tree := range trees[5] {
		wantOfMeaning(t, tree, "aba")
	}
	for _, tree := range treesOf(7, [][]impl.Node{charOf('a')})[7] {
		wantOfMeaning(t, tree, "aaaa")
	}
}

// narrowTree is a random tree whose leaves are told apart by a, b and c alone.
func narrowTree(random *rand.Rand, count int) []impl.Node {
	tree := randomTree(random, count)
	sets := []string{"a", "b", "ab", "bc", "abc", "ac"}
	for i, n := range tree {
		switch {
		case n.Kind == impl.ReChar, n.Kind < impl.ReStar && random.Intn(2) == 0:
			tree[i] = charOf('a' + int64(random.Intn(3)))[0]
		case n.Set != "":
			tree[i].Set = sets[random.Intn(len(sets))]
		}
	}
	return tree
}

// narrowText has as many bytes as are told: a, b, c, and now and then others.
func narrowText(random *rand.Rand, size int) string {
	bytes := "aaaaaaabbbbcc\n\xff~"
	text, only := make([]byte, size), 1+random.Intn(len(bytes))
	for i := range text {
		text[i] = bytes[random.Intn(only)]
	}
	return string(text)
}

func TestWhatGreaterPatternsMean(t *testing.T) {
	random := rand.New(rand.NewSource(71414))
	for i := range 6000 {
		wantOfMeaning(t, narrowTree(random, 1+i%impl.MaxNodes), narrowText(random, random.Intn(12)))
	}
	// Texts around as many bytes as go into one word.
	for i := range 24 {
		for _, size := range []int{62, 63, 64, 65, 66} {
			wantOfMeaning(t, narrowTree(random, 1+i), narrowText(random, size))
		}
	}
}

// joinedEnds are the ends from all places that are told.
func joinedEnds(nodes []impl.Node, text string, from []int64) []int64 {
	var ends []int64
	for _, at := range from {
		ends = append(ends, impl.EndsFrom(nodes, []byte(text), at).List...)
	}
	slices.Sort(ends)
	return slices.Compact(ends)
}

func TestTwoBehindOneAnotherAndTwoOfWhichOneFits(t *testing.T) {
	random := rand.New(rand.NewSource(171414))
	for i := range 2000 {
		left, right := narrowTree(random, 1+i%11), narrowTree(random, 1+random.Intn(12))
		size := random.Intn(10)
		if i%200 == 0 {
			size = 390 + random.Intn(11)
		}
		text := narrowText(random, size)
		for _, at := range []int64{0, int64(random.Intn(size + 1)), int64(size)} {
			ends := impl.EndsFrom(left, []byte(text), at).List
			wantOfEnds(t, treeOf(impl.ReCat, left, right), text, at, joinedEnds(right, text, ends))
			either := slices.Concat(ends, impl.EndsFrom(right, []byte(text), at).List)
			slices.Sort(either)
			wantOfEnds(t, treeOf(impl.ReAlt, left, right), text, at, slices.Compact(either))
			wantOfEnds(t, treeOf(impl.ReOpt, left), text, at, slices.Compact(append([]int64{at}, ends...)))
			// Once more around a loop leads nowhere else, and once at least is needed.
			loop := treeOf(impl.ReStar, left)
			around := impl.EndsFrom(loop, []byte(text), at).List
			want(t, "EndsFrom of a loop, once more", joinedEnds(left, text, around), impl.EndsFrom(treeOf(impl.RePlus, left), []byte(text), at).List)
			want(t, "EndsFrom of a loop, twice", joinedEnds(loop, text, around), around)
		}
	}
}

func TestWhatFitsToNothingCanBeEmpty(t *testing.T) {
	random := rand.New(rand.NewSource(271414))
	trees := slices.Concat(treesOf(4, meantLeaves())...)
	for i := range 3000 {
		trees = append(trees, narrowTree(random, 1+i%impl.MaxNodes))
	}
	empty := 0
	for _, tree := range trees {
		for _, text := range []string{"", "a", narrowText(random, 5)} {
			for at := range int64(len(text) + 1) {
				if slices.Contains(impl.EndsFrom(tree, []byte(text), at).List, at) {
					empty++
					if !impl.CanBeEmpty(tree) {
						t.Errorf("%q fits to nothing at %d of %q, and can not be empty", impl.PatternText(tree).Text, at, text)
					}
				}
			}
		}
	}
	if empty < 1000 {
		t.Errorf("only %d fit to nothing", empty)
	}
}

func TestEndsRiseAndTheFirstOneIsTheLongest(t *testing.T) {
	random := rand.New(rand.NewSource(371414))
	for i := range 96 {
		tree, text := narrowTree(random, 1+i%impl.MaxNodes), narrowText(random, 340+random.Intn(61))
		at := int64(random.Intn(len(text) + 1))
		first := impl.SpanResult{Code: impl.ErrNone}
		for from := int64(len(text)); from >= at; from-- {
			ends := impl.EndsFrom(tree, []byte(text), from).List
			for place := 1; place < len(ends); place++ {
				if ends[place] <= ends[place-1] {
					t.Errorf("EndsFrom %q, %q, %d = %v", impl.PatternText(tree).Text, text, from, ends)
				}
			}
			if len(ends) > 0 {
				first = impl.SpanResult{From: from, To: ends[len(ends)-1]}
			}
		}
		want(t, fmt.Sprintf("FirstIn %q, %q, %d", impl.PatternText(tree).Text, text, at), impl.FirstIn(tree, []byte(text), at), first)
	}
}

func TestLoopsOverAsManyBytesAsThereMayBe(t *testing.T) {
	for _, size := range []int{0, 1, 2, 63, 64, 65, 127, 128, 399, 400} {
		text := strings.Repeat("a", size)
		var all, even []int64
		for place := range int64(size + 1) {
			all = append(all, place)
			if place%2 == 0 {
				even = append(even, place)
			}
		}
		for pattern, ends := range map[string][]int64{
			"a*": all, "a+": all[1:], "(aa)*": even, "(aa)+": even[1:], "a*$": {int64(size)}, "^a*": all, "(a|b)*": all, "b*": {0}, "(a**)**": all, "a?": all[:min(2, size+1)],
		} {
			wantOfEnds(t, impl.ParsePattern(pattern).Nodes, text, 0, ends)
		}
		want(t, "FirstIn of what is at the end", impl.FirstIn(impl.ParsePattern("b").Nodes, []byte((text + "b")[max(0, size-399):]), 0), impl.SpanResult{From: int64(min(size, 399)), To: int64(min(size, 399)) + 1})
		want(t, "FirstIn of the end", impl.FirstIn(impl.ParsePattern("$").Nodes, []byte(text), 0), impl.SpanResult{From: int64(size), To: int64(size)})
		want(t, "DoesFit of a loop", impl.DoesFit(impl.ParsePattern("a*").Nodes, []byte(text)), true)
		want(t, "DoesFit of a loop of two", impl.DoesFit(impl.ParsePattern("(aa)*").Nodes, []byte(text)), size%2 == 0)
		want(t, "DoesFit of another loop", impl.DoesFit(impl.ParsePattern("a*b").Nodes, []byte(text)), false)
	}
}
