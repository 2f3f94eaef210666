package tests

import (
	"fmt"
	"math/rand"
	"regexp"
	"slices"
	"strings"
	"testing"

	"loop.example/g00414/impl"
)

// Promise 6: a pattern is read back from its text, and what is read has a text that is read as the same.

// shownTrees are patterns by their texts, as the document tells them.
func shownTrees() map[string][]impl.Node {
	a, b, c, nothing := charOf('a'), charOf('b'), charOf('c'), nodeOf(impl.ReEmpty)
	star := func(tree []impl.Node) []impl.Node { return treeOf(impl.ReStar, tree) }
	cat := func(left []impl.Node, right []impl.Node) []impl.Node { return treeOf(impl.ReCat, left, right) }
	alt := func(left []impl.Node, right []impl.Node) []impl.Node { return treeOf(impl.ReAlt, left, right) }
	return map[string][]impl.Node{
		"": nothing, "a": a, " ": charOf(32), "~": charOf(126), ".": nodeOf(impl.ReAny), "^": nodeOf(impl.ReBegin), "$": nodeOf(impl.ReEnd),
		"a*": star(a), "a+": treeOf(impl.RePlus, a), "a?": treeOf(impl.ReOpt, a), "a**": star(star(a)),
		"a*+?": treeOf(impl.ReOpt, treeOf(impl.RePlus, star(a))), "a?+*": star(treeOf(impl.RePlus, treeOf(impl.ReOpt, a))),
		"^*": star(nodeOf(impl.ReBegin)), "$+": treeOf(impl.RePlus, nodeOf(impl.ReEnd)), ".?": treeOf(impl.ReOpt, nodeOf(impl.ReAny)), "[ab]*": star(setOf(impl.ReSet, "ab")),
		"ab": cat(a, b), "a|b": alt(a, b), "abc": cat(cat(a, b), c), "a(bc)": cat(a, cat(b, c)), "a|b|c": alt(alt(a, b), c), "a|(b|c)": alt(a, alt(b, c)),
		"ab|c": alt(cat(a, b), c), "a|bc": alt(a, cat(b, c)), "(a|b)c": cat(alt(a, b), c), "a(b|c)": cat(a, alt(b, c)), "ab|bc": alt(cat(a, b), cat(b, c)),
		"(ab)*": star(cat(a, b)), "(a|b)*": star(alt(a, b)), "(ab)*c": cat(star(cat(a, b)), c), "a(bc)*": cat(a, star(cat(b, c))), "ab*": cat(a, star(b)), "a|b*": alt(a, star(b)),
		"(a(bc))*": star(cat(a, cat(b, c))), "(a|b)(b|c)": cat(alt(a, b), alt(b, c)), "a(b(ca))": cat(a, cat(b, cat(c, a))), "a|(b|(c|a))": alt(a, alt(b, alt(c, a))),
		"ab|(a|b)c|a": alt(alt(cat(a, b), cat(alt(a, b), c)), a), "a(b|ca)": cat(a, alt(b, cat(c, a))), "a(bc|a)": cat(a, alt(cat(b, c), a)),
		// Nothing is told by nothing, or by parentheses.
		"()*": star(nothing), "()+": treeOf(impl.RePlus, nothing), "()?": treeOf(impl.ReOpt, nothing), "a()": cat(a, nothing), "()a": cat(nothing, a), "()()": cat(nothing, nothing),
		"|": alt(nothing, nothing), "a|": alt(a, nothing), "|a": alt(nothing, a), "a||b": alt(alt(a, nothing), b), "||": alt(alt(nothing, nothing), nothing), "|(|)": alt(nothing, alt(nothing, nothing)),
		"(|)*": star(alt(nothing, nothing)), "(|a)b": cat(alt(nothing, a), b), "a(b|)": cat(a, alt(b, nothing)), "()*|a": alt(star(nothing), a), "()()()": cat(cat(nothing, nothing), nothing),
		"()(()())": cat(nothing, cat(nothing, nothing)), "(()a)?": treeOf(impl.ReOpt, cat(nothing, a)), "()a|a()": alt(cat(nothing, a), cat(a, nothing)),
		// The signs that want a \ ahead, outside of sets and in them.
		`\\`: charOf('\\'), `\(`: charOf('('), `\)`: charOf(')'), `\[`: charOf('['), `\]`: charOf(']'), `\|`: charOf('|'), `\*`: charOf('*'), `\+`: charOf('+'), `\?`: charOf('?'),
		`\.`: charOf('.'), `\^`: charOf('^'), `\$`: charOf('$'), `\\*`: star(charOf('\\')), `\**`: star(charOf('*')), `a\|b`: catOf(a, charOf('|'), b), `\(a\)`: catOf(charOf('('), a, charOf(')')),
		`[\\]`: setOf(impl.ReSet, `\`), `[\]]`: setOf(impl.ReSet, "]"), `[\^]`: setOf(impl.ReSet, "^"), `[\\\]\^]`: setOf(impl.ReSet, `\]^`), `[^\\]`: setOf(impl.ReNot, `\`),
		`[^\]]`: setOf(impl.ReNot, "]"), `[^\^]`: setOf(impl.ReNot, "^"), `[^\\\]\^]`: setOf(impl.ReNot, `\]^`), `[A\^a]`: setOf(impl.ReSet, "A^a"), "[$()*+.?[|]": setOf(impl.ReSet, "$()*+.?[|"),
		"[^$()*+.?[|]": setOf(impl.ReNot, "$()*+.?[|"), "[ ~]": setOf(impl.ReSet, " ~"), "[-]": setOf(impl.ReSet, "-"), "[-az]": setOf(impl.ReSet, "-az"), "[abcdefghijklmnopqrst]": setOf(impl.ReSet, "abcdefghijklmnopqrst"),
		"-": charOf('-'), "{": charOf('{'), "}": charOf('}'), "/": charOf('/'), "!\"#": catOf(charOf('!'), charOf('"'), charOf('#')),
	}
}

func TestTextsOfPatterns(t *testing.T) {
	for text, tree := range shownTrees() {
		want(t, fmt.Sprintf("NodesFault of %q", text), impl.NodesFault(tree), int64(impl.OK))
		want(t, fmt.Sprintf("PatternText of %q", text), impl.PatternText(tree), impl.TextResult{Text: text})
		want(t, fmt.Sprintf("ParsePattern %q", text), impl.ParsePattern(text), impl.NodesResult{Nodes: tree})
	}
}

// longerTexts are read as what the text behind them is read as.
func longerTexts() map[string]string {
	return map[string]string{
		"((b))": "b", "(a)": "a", "(a)*": "a*", "((a)*)*": "a**", "(ab)c": "abc", "((a)(b))(c)": "abc", "a((bc))": "a(bc)", "(ab)|c": "ab|c", "a|(bc)": "a|bc", "(a|b)|c": "a|b|c",
		"(a|b|c)": "a|b|c", "((a|b))c": "(a|b)c", "()": "", "(())": "", "((()))": "", "()|a": "|a", "a|()": "a|", "()|()": "|", "(())*": "()*", "a(())": "a()", "(|)": "|", "((|))*": "(|)*", "()||()": "||",
		"(\\()": "\\(", "([a])": "[a]", "(^)a($)": "^a$", "(.)(.)": "..", "(a*)": "a*", "((a*))+": "a*+",
		"[cab]": "[abc]", "[aa]": "[a]", "[^ba]": "[^ab]", "[^aaa]": "[^a]", "[abab]": "[ab]", `[\^\]\\]`: `[\\\]\^]`, `[a\]A]`: `[A\]a]`, `[^~ ~]`: "[^ ~]", "[tsrqponmlkjihgfedcbat]": "[abcdefghijklmnopqrst]",
		"[" + strings.Repeat("ba", 29) + "]": "[ab]", "[" + strings.Repeat("abcdefghijklmnopqrst", 2) + "]": "[abcdefghijklmnopqrst]", "[^" + strings.Repeat(`\]`, 28) + "]": `[^\]]`,
		strings.Repeat("(", 30) + strings.Repeat(")", 30):                           "",
		strings.Repeat("(", 29) + "a" + strings.Repeat(")", 29):                     "a",
		strings.Repeat("(", 29) + "ab" + strings.Repeat(")", 29):                    "ab",
		strings.Repeat("()", 5) + strings.Repeat("(", 25) + strings.Repeat(")", 25): "()()()()()()",
		"[" + strings.Repeat("a", 58) + "]":                                         "[a]",
	}
}

func TestLongerTextsOfPatterns(t *testing.T) {
	for text, asked := range longerTexts() {
		read := impl.ParsePattern(text)
		want(t, fmt.Sprintf("code of ParsePattern %q", text), read.Code, int64(impl.OK))
		want(t, fmt.Sprintf("PatternText of %q", text), impl.PatternText(read.Nodes), impl.TextResult{Text: asked})
		want(t, fmt.Sprintf("ParsePattern %q", text), read, impl.ParsePattern(asked))
	}
}

// textTold is the text of the tree that ends with a place: each kind binds so strongly, and each side asks for so much.
func textTold(nodes []impl.Node, place int64, least int) string {
	n := nodes[place]
	text, binds := "", 2
	switch n.Kind {
	case impl.ReEmpty:
		if least >= 0 {
			return "()"
		}
	case impl.ReChar:
		text = regexp.MustCompile(`[\\()\[\]|*+?.^$]`).ReplaceAllString(string(rune(n.Char)), `\$0`)
	case impl.ReSet, impl.ReNot:
		text = "[" + strings.Repeat("^", int(n.Kind-impl.ReSet)) + regexp.MustCompile(`[\\\]^]`).ReplaceAllString(n.Set, `\$0`) + "]"
	case impl.ReCat:
		text, binds = textTold(nodes, n.Left, 1)+textTold(nodes, n.Right, 2), 1
	case impl.ReAlt:
		left, right := textTold(nodes, n.Left, -1), textTold(nodes, n.Right, -1)
		if nodes[n.Right].Kind == impl.ReAlt {
			right = "(" + right + ")"
		}
		text, binds = left+"|"+right, 0
	case impl.ReStar, impl.RePlus, impl.ReOpt:
		text = textTold(nodes, n.Left, 2) + string("*+?"[n.Kind-impl.ReStar])
	default:
		text = map[int64]string{impl.ReAny: ".", impl.ReBegin: "^", impl.ReEnd: "$"}[n.Kind]
	}
	if binds < least {
		return "(" + text + ")"
	}
	return text
}

// wantOfTree holds the text of a tree against what is asked, and reads it back.
func wantOfTree(t *testing.T, tree []impl.Node) {
	t.Helper()
	text, asked := impl.PatternText(tree), impl.TextResult{Text: textTold(tree, int64(len(tree))-1, -1)}
	if len(asked.Text) > impl.MaxPattern {
		asked = impl.TextResult{Code: impl.ErrMany}
	}
	want(t, fmt.Sprintf("NodesFault %v", tree), impl.NodesFault(tree), int64(impl.OK))
	want(t, fmt.Sprintf("PatternText %v", tree), text, asked)
	if text.Code != impl.OK {
		return
	}
	read := impl.ParsePattern(text.Text)
	want(t, fmt.Sprintf("ParsePattern %q", text.Text), read, impl.NodesResult{Nodes: tree})
	want(t, fmt.Sprintf("SameNodes of %q", text.Text), impl.SameNodes(read.Nodes, tree), true)
}

func TestPatternsAreReadBack(t *testing.T) {
	for _, trees := range treesOf(5, leavesOfTrees()) {
		for _, tree := range trees {
			wantOfTree(t, tree)
		}
	}
	// Fewer leaves leave room for more that is of others.
	for _, tree := range treesOf(7, [][]impl.Node{nodeOf(impl.ReEmpty), charOf('|')})[7] {
		wantOfTree(t, tree)
	}
	for _, tree := range someTrees(6000) {
		wantOfTree(t, tree)
	}
	for b := int64(32); b <= 126; b++ {
		wantOfTree(t, charOf(b))
		wantOfTree(t, setOf(impl.ReSet, string(rune(b))))
		wantOfTree(t, setOf(impl.ReNot, string(rune(b))))
		wantOfTree(t, catOf(charOf(b), setOf(impl.ReSet, string(rune(b))), setOf(impl.ReNot, string(rune(b)))))
	}
}

func TestTextsOfAsManyBytesAsThereMayBe(t *testing.T) {
	letters := "abcdefghijklmnopqrst"
	long := setOf(impl.ReSet, letters)
	// Sets of 20 bytes, and with the brackets 22.
	want(t, "PatternText of 60 bytes", impl.PatternText(catOf(long, long, setOf(impl.ReSet, letters[:14]))), impl.TextResult{Text: "[" + letters + "][" + letters + "][" + letters[:14] + "]"})
	want(t, "PatternText of 61 bytes", impl.PatternText(catOf(long, long, setOf(impl.ReSet, letters[:15]))), impl.TextResult{Code: impl.ErrMany})
	want(t, "PatternText of 61 bytes, one ^", impl.PatternText(catOf(long, long, setOf(impl.ReNot, letters[:14]))), impl.TextResult{Code: impl.ErrMany})
	want(t, "PatternText of 61 bytes, one \\", impl.PatternText(catOf(long, long, setOf(impl.ReSet, "]"+letters[:13]))), impl.TextResult{Code: impl.ErrMany})
	want(t, "PatternText of 61 bytes, one *", impl.PatternText(treeOf(impl.ReCat, catOf(long, long), treeOf(impl.ReStar, setOf(impl.ReSet, letters[:14])))), impl.TextResult{Code: impl.ErrMany})
	want(t, "PatternText of 60 bytes, one *", impl.PatternText(treeOf(impl.ReCat, catOf(long, long), treeOf(impl.ReStar, setOf(impl.ReSet, letters[:13])))).Code, int64(impl.OK))
	want(t, "PatternText of 12 sets", impl.PatternText(catOf(long, long, long, long, long, long, long, long, long, long, long, long)), impl.TextResult{Code: impl.ErrMany})
	want(t, "PatternText of 12 signs", impl.PatternText(impl.ParsePattern(strings.Repeat(`\*`, 12)).Nodes), impl.TextResult{Text: strings.Repeat(`\*`, 12)})
}

// part is a piece of a pattern, or a sign that is not yet made into one.
type part struct {
	sign string
	tree []impl.Node
}

var (
	partOfText = regexp.MustCompile(`\\[\\()\[\]|*+?.^$]|\[\^?(?:\\[\\\]^]|[ -Z_-~[])+\]|[ -Z_-~^]`)
	wholeText  = regexp.MustCompile(`^(?:` + partOfText.String() + `)*$`)
)

// leafTold is what a piece of a text stands for that has no other in it.
func leafTold(text string) []impl.Node {
	switch {
	case text[0] == '[':
		kind, rest := int64(impl.ReSet), text[1:len(text)-1]
		if rest[0] == '^' {
			kind, rest = impl.ReNot, rest[1:]
		}
		set := []byte(regexp.MustCompile(`\\(.)`).ReplaceAllString(rest, "$1"))
		slices.Sort(set)
		return setOf(kind, string(slices.Compact(set)))
	case text == ".":
		return nodeOf(impl.ReAny)
	case text == "^":
		return nodeOf(impl.ReBegin)
	case text == "$":
		return nodeOf(impl.ReEnd)
	}
	return charOf(int64(text[len(text)-1]))
}

// flatTold makes one tree of parts that have no parentheses; nil, where there is none.
func flatTold(parts []part) []impl.Node {
	for i := len(parts) - 1; i >= 0; i-- {
		if parts[i].sign == "|" {
			left, right := flatTold(parts[:i]), flatTold(parts[i+1:])
			if left == nil || right == nil {
				return nil
			}
			return treeOf(impl.ReAlt, left, right)
		}
	}
	var tree []impl.Node
	for len(parts) > 0 {
		piece := parts[0].tree
		if piece == nil {
			return nil
		}
		for parts = parts[1:]; len(parts) > 0 && parts[0].sign != ""; parts = parts[1:] {
			piece = treeOf(int64(impl.ReStar+strings.Index("*+?", parts[0].sign)), piece)
		}
		if tree != nil {
			piece = treeOf(impl.ReCat, tree, piece)
		}
		tree = piece
	}
	if tree == nil {
		return nodeOf(impl.ReEmpty)
	}
	return tree
}

// readTold reads a text from its innermost parentheses outward.
func readTold(text string) impl.NodesResult {
	wrong := impl.NodesResult{Code: impl.ErrText}
	if len(text) > impl.MaxPattern {
		return impl.NodesResult{Code: impl.ErrMany}
	}
	if !wholeText.MatchString(text) {
		return wrong
	}
	parts := []part{{sign: "("}}
	for _, piece := range append(partOfText.FindAllString(text, -1), ")") {
		switch {
		case piece == ")":
			begin := len(parts) - 1
			for begin >= 0 && parts[begin].sign != "(" {
				begin--
			}
			if begin < 0 {
				return wrong
			}
			tree := flatTold(parts[begin+1:])
			if tree == nil {
				return wrong
			}
			parts = append(parts[:begin], part{tree: tree})
		case strings.Contains("(|*+?", piece):
			parts = append(parts, part{sign: piece})
		default:
			tree := leafTold(piece)
			if len(tree[0].Set) > 20 {
				return wrong
			}
			parts = append(parts, part{tree: tree})
		}
	}
	if len(parts) != 1 {
		return wrong
	}
	if len(parts[0].tree) > impl.MaxNodes {
		return impl.NodesResult{Code: impl.ErrMany}
	}
	return impl.NodesResult{Nodes: parts[0].tree}
}

// wantOfText holds what is read of a text against what is asked, and reads the text of that again.
func wantOfText(t *testing.T, text string) {
	t.Helper()
	read, asked := impl.ParsePattern(text), readTold(text)
	if read.Code != asked.Code || !slices.Equal(read.Nodes, asked.Nodes) {
		t.Errorf("ParsePattern %q = %v, asked for %v", text, read, asked)
	}
	if read.Code != impl.OK {
		return
	}
	again := impl.PatternText(read.Nodes)
	if code := impl.NodesFault(read.Nodes); code != impl.OK || again.Code != impl.OK || len(again.Text) > len(text) {
		t.Errorf("of %q: NodesFault %d, PatternText %v", text, code, again)
	}
	if !impl.SameNodes(impl.ParsePattern(again.Text).Nodes, read.Nodes) {
		t.Errorf("%q and its text %q are not read as the same", text, again.Text)
	}
}

// textsOf are all texts of just so many of the pieces.
func textsOf(pieces []string, count int) []string {
	texts := []string{""}
	for range count {
		var longer []string
		for _, text := range texts {
			for _, piece := range pieces {
				longer = append(longer, text+piece)
			}
		}
		texts = longer
	}
	return texts
}

func TestWhatIsReadOfShortTexts(t *testing.T) {
	for count := range 7 {
		for _, text := range textsOf([]string{"a", "(", ")", "|", "*"}, count) {
			wantOfText(t, text)
		}
	}
	for count := range 6 {
		for _, text := range textsOf([]string{"a", "\\", "[", "]", "^", "B"}, count) {
			wantOfText(t, text)
			wantOfText(t, "["+text)
			wantOfText(t, "[^"+text+"]")
		}
	}
	for a := range 256 {
		wantOfText(t, string([]byte{byte(a)}))
		wantOfText(t, string([]byte{'[', byte(a), ']'}))
		wantOfText(t, string([]byte{'[', '^', byte(a), ']'}))
		wantOfText(t, string([]byte{'[', '\\', byte(a), ']'}))
		wantOfText(t, string([]byte{'[', 'x', byte(a)}))
		for b := range 256 {
			wantOfText(t, string([]byte{byte(a), byte(b)}))
		}
	}
}

func TestWhatIsReadOfLongTexts(t *testing.T) {
	random := rand.New(rand.NewSource(61414))
	signs := "ab()[]|*+?.^$\\ ~"
	for _, tree := range someTrees(20000) {
		text := []byte(textTold(tree, int64(len(tree))-1, -1))
		text = text[:min(len(text), 61)]
		for range random.Intn(3) {
			at := random.Intn(len(text) + 1)
			switch sign := signs[random.Intn(len(signs))]; random.Intn(3) {
			case 0:
				text = slices.Insert(text, at, sign)
			case 1:
				text = append(text[:at], text[min(at+1, len(text)):]...)
			case 2:
				text = append(text[:at], append([]byte{sign}, text[min(at+1, len(text)):]...)...)
			}
		}
		wantOfText(t, string(text))
	}
}

// canTold tells whether the tree that ends with a place fits to nothing, from the whole inward.
func canTold(nodes []impl.Node, place int64) bool {
	n := nodes[place]
	switch n.Kind {
	case impl.RePlus:
		return canTold(nodes, n.Left)
	case impl.ReCat:
		return canTold(nodes, n.Left) && canTold(nodes, n.Right)
	case impl.ReAlt:
		return canTold(nodes, n.Left) || canTold(nodes, n.Right)
	}
	return slices.Contains([]int64{impl.ReEmpty, impl.ReBegin, impl.ReEnd, impl.ReStar, impl.ReOpt}, n.Kind)
}

func TestWhatCanBeEmpty(t *testing.T) {
	shown := map[string]bool{
		"": true, "a": false, ".": false, "[a]": false, "[^a]": false, "^": true, "$": true, "a*": true, "a?": true, "a+": false, "()+": true, "(a*)+": true, "a*+": true, "a+*": true,
		"ab": false, "a*b": false, "ab*": false, "a*b*": true, "^$": true, "^a": false, "a$": false, "()()": true, "a|b": false, "a*|b": true, "a|b*": true, "a|": true, "|a": true, "|": true,
		"(a|)b": false, "(a|)(b|)": true, "(a|b*)+": true, "(ab?)+": false, "((a|b)c*)|d+": false, "((a|b)c*)?|d+": true,
	}
	for text, asked := range shown {
		want(t, fmt.Sprintf("CanBeEmpty of %q", text), impl.CanBeEmpty(impl.ParsePattern(text).Nodes), asked)
	}
	for _, trees := range append(treesOf(4, leavesOfTrees()), treesOf(7, [][]impl.Node{nodeOf(impl.ReEmpty), charOf('a')})[7], someTrees(2000)) {
		for _, tree := range trees {
			want(t, fmt.Sprintf("CanBeEmpty %v", tree), impl.CanBeEmpty(tree), canTold(tree, int64(len(tree))-1))
		}
	}
}

// wantOfBytes asks HasByte at every byte; bytes are those for which the node stands.
func wantOfBytes(t *testing.T, n impl.Node, has func(b int) bool) {
	t.Helper()
	for b := range 256 {
		want(t, fmt.Sprintf("HasByte %+v, %d", n, b), impl.HasByte(n, byte(b)), has(b))
	}
}

func TestBytesForWhichNodesStand(t *testing.T) {
	none := func(b int) bool { return false }
	for _, kind := range []int64{impl.ReEmpty, impl.ReBegin, impl.ReEnd, impl.ReStar, impl.RePlus, impl.ReOpt, impl.ReCat, impl.ReAlt} {
		wantOfBytes(t, impl.Node{Kind: kind}, none)
		wantOfBytes(t, impl.Node{Kind: kind, Left: 1, Right: 2}, none)
	}
	for char := 32; char <= 126; char++ {
		wantOfBytes(t, impl.Node{Kind: impl.ReChar, Char: int64(char)}, func(b int) bool { return b == char })
	}
	wantOfBytes(t, impl.Node{Kind: impl.ReAny}, func(b int) bool { return b != 10 })
	for _, set := range []string{" ", "~", "a", "ab", " ~", `\]^`, "abcdefghijklmnopqrst", "!#%')+-/13579;=?ACEG"} {
		in := func(b int) bool { return slices.Contains([]byte(set), byte(b)) }
		wantOfBytes(t, impl.Node{Kind: impl.ReSet, Set: set}, in)
		wantOfBytes(t, impl.Node{Kind: impl.ReNot, Set: set}, func(b int) bool { return !in(b) && b != 10 })
	}
}

func TestNodesThatAreTheSame(t *testing.T) {
	trees := append(slices.Concat(treesOf(3, leavesOfTrees())...), someTrees(100)...)
	told := make([]string, len(trees))
	for i, tree := range trees {
		told[i] = fmt.Sprintf("%#v", tree)
	}
	for i, a := range trees {
		for j, b := range trees {
			if got, asked := impl.SameNodes(a, b), told[i] == told[j]; got != asked {
				t.Errorf("SameNodes %v, %v = %v", a, b, got)
			}
		}
	}
	// One thing alone tells them apart, be they patterns or not.
	first := impl.Node{Kind: 1, Char: 2, Set: "c", Left: 4, Right: 5}
	for _, second := range []impl.Node{
		{Kind: 2, Char: 2, Set: "c", Left: 4, Right: 5}, {Kind: 1, Char: 3, Set: "c", Left: 4, Right: 5}, {Kind: 1, Char: 2, Set: "d", Left: 4, Right: 5},
		{Kind: 1, Char: 2, Set: "c", Left: 5, Right: 5}, {Kind: 1, Char: 2, Set: "c", Left: 4, Right: 4}, {Kind: 1, Char: 2, Left: 4, Right: 5}, {Kind: 1, Char: 2, Set: "cc", Left: 4, Right: 5}, {},
	} {
		for _, both := range [][2][]impl.Node{{{first}, {second}}, {{first, first}, {first, second}}, {{first, first}, {second, first}}} {
			want(t, fmt.Sprintf("SameNodes %v", both), impl.SameNodes(both[0], both[1]), false)
			want(t, fmt.Sprintf("SameNodes %v, turned", both), impl.SameNodes(both[1], both[0]), false)
			want(t, fmt.Sprintf("SameNodes %v", both[0]), impl.SameNodes(both[0], slices.Clone(both[0])), true)
		}
	}
}
