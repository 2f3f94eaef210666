package tests

import (
	"bytes"
	"fmt"
	"math"
	"math/rand"
	"slices"
	"strings"
	"sync"
	"testing"
	"unsafe"

	"loop.example/g00414/impl"
)

// Promise 1, of chapter 5: every function answers at every argument, ends, and changes none;
// what it answers is new memory; it hangs on the arguments alone.

// behind is a list of nodes with one more, as it stands.
func behind(nodes []impl.Node, more ...impl.Node) []impl.Node {
	return append(slices.Clone(nodes), more...)
}

// wantOfFault asks every function of the chapter that asks for a fault.
func wantOfFault(t *testing.T, nodes []impl.Node, code int64) {
	t.Helper()
	call := fmt.Sprintf("of %+v", nodes)
	want(t, "NodesFault "+call, impl.NodesFault(nodes), code)
	if code != impl.OK {
		want(t, "PatternText "+call, impl.PatternText(nodes), impl.TextResult{Code: code})
		want(t, "CanBeEmpty "+call, impl.CanBeEmpty(nodes), false)
	}
}

func TestHowManyNodesThereAre(t *testing.T) {
	for _, none := range [][]impl.Node{nil, {}, make([]impl.Node, 0, 30)} {
		wantOfFault(t, none, impl.ErrMany)
		want(t, "SameNodes of none", impl.SameNodes(none, nil), true)
		want(t, "SameNodes of none, turned", impl.SameNodes(nil, none), true)
		want(t, "SameNodes of none and one", impl.SameNodes(none, nodeOf(impl.ReEmpty)), false)
		want(t, "SameNodes of one and none", impl.SameNodes(nodeOf(impl.ReEmpty), none), false)
	}
	for count := 1; count <= 40; count++ {
		code := int64(impl.OK)
		if count > impl.MaxNodes {
			code = impl.ErrMany
		}
		stars := charOf('a')
		for len(stars) < count {
			stars = treeOf(impl.ReStar, stars)
		}
		wantOfFault(t, stars, code)
		want(t, "ParsePattern of stars", impl.ParsePattern("a"+strings.Repeat("*", count-1)).Code, code)
	}
	for count := 1; count <= 30; count++ {
		code := int64(impl.OK)
		if 2*count-1 > impl.MaxNodes {
			code = impl.ErrMany
		}
		left, right := charOf('a'), charOf('a')
		for range count - 1 {
			left, right = treeOf(impl.ReCat, left, charOf('a')), treeOf(impl.ReAlt, charOf('a'), right)
		}
		wantOfFault(t, left, code)
		wantOfFault(t, right, code)
		want(t, "ParsePattern of letters", impl.ParsePattern(strings.Repeat("a", count)).Code, code)
		want(t, "ParsePattern of nothings", impl.ParsePattern(strings.Repeat("|", count-1)).Code, code)
	}
	// That there are too many is asked ahead of all that they are.
	for _, nodes := range [][]impl.Node{make([]impl.Node, 25), make([]impl.Node, 5000), slices.Repeat([]impl.Node{{Kind: math.MinInt64, Char: -1, Left: math.MaxInt64}}, 25)} {
		wantOfFault(t, nodes, impl.ErrMany)
	}
	wantOfFault(t, make([]impl.Node, 24), impl.ErrForm)
	wantOfFault(t, slices.Repeat(charOf('a'), 24), impl.ErrForm)
}

func TestKindsOfNodes(t *testing.T) {
	for _, kind := range append(farNumbers(), -2, -1, 0, 13, 14, 1<<8+1, 1<<32+1) {
		wantOfFault(t, nodeOf(kind), impl.ErrForm)
		wantOfFault(t, behind(charOf('a'), impl.Node{Kind: kind}), impl.ErrForm)
		wantOfFault(t, behind(nodeOf(kind), impl.Node{Kind: impl.ReStar}), impl.ErrForm)
		for b := range 256 {
			want(t, "HasByte of no kind", impl.HasByte(impl.Node{Kind: kind, Char: int64(b), Set: string([]byte{byte(b)})}, byte(b)), false)
		}
	}
	good := map[int64][]impl.Node{
		1: nodeOf(1), 2: charOf('a'), 3: nodeOf(3), 4: setOf(4, "a"), 5: setOf(5, "a"), 6: nodeOf(6), 7: nodeOf(7),
		8: treeOf(8, charOf('a')), 9: treeOf(9, charOf('a')), 10: treeOf(10, charOf('a')), 11: treeOf(11, charOf('a'), charOf('b')), 12: treeOf(12, charOf('a'), charOf('b')),
	}
	for kind := int64(1); kind <= 12; kind++ {
		wantOfFault(t, good[kind], impl.OK)
		last := len(good[kind]) - 1
		for _, number := range append(farNumbers(), -1, 1, 2, 65) {
			for field := range 3 {
				if field == 0 && kind == impl.ReChar || field == 1 && kind >= impl.ReStar || field == 2 && kind >= impl.ReCat {
					continue
				}
				wrong := slices.Clone(good[kind])
				*[]*int64{&wrong[last].Char, &wrong[last].Left, &wrong[last].Right}[field] = number
				wantOfFault(t, wrong, impl.ErrForm)
			}
		}
		for _, set := range []string{"a", "ab", "ba", "\x00", "\xff", strings.Repeat("a", 21)} {
			if kind != impl.ReSet && kind != impl.ReNot {
				wrong := slices.Clone(good[kind])
				wrong[last].Set = set
				wantOfFault(t, wrong, impl.ErrForm)
			}
		}
	}
}

func TestBytesOfNodes(t *testing.T) {
	for _, char := range append(farNumbers(), math.MinInt64+97, -97, -1, 0, 9, 10, 27, 30, 31, 127, 128, 255, 256+97, 1<<32+97) {
		wantOfFault(t, charOf(char), impl.ErrRange)
		want(t, fmt.Sprint("HasByte of ", char), impl.HasByte(charOf(char)[0], 'a'), false)
	}
	for char := int64(32); char <= 126; char++ {
		wantOfFault(t, charOf(char), impl.OK)
	}
	good := []string{" ", "~", "a", "ab", " ~", "}~", ` !`, `\]^`, "abcdefghijklmnopqrst", "ghijklmnopqrstuvwxyz", "!#%')+-/13579;=?ACEG"}
	wrong := []string{
		"", "abcdefghijklmnopqrstu", strings.Repeat("a", 21), strings.Repeat("a", 300), "ba", "abdc", "bac", "aa", "abb", "aab", "~ ", "abcdefghijklmnopqrts",
		"\x1f", "\x7f", "\x00", "\x1fa", "a\x7f", "a\x80", "\xff", "\x80", "\n", "\t", "ab\xc3\xa4", "\x00\x01", "a\x00", "\x1f ", "~\x7f", "\u00e4", "a\u20ac",
	}
	for _, kind := range []int64{impl.ReSet, impl.ReNot} {
		for _, set := range good {
			wantOfFault(t, setOf(kind, set), impl.OK)
		}
		for _, set := range wrong {
			wantOfFault(t, setOf(kind, set), impl.ErrRange)
		}
		for a := range 256 {
			code := int64(impl.ErrRange)
			if a >= 32 && a <= 126 {
				code = impl.OK
			}
			wantOfFault(t, setOf(kind, string([]byte{byte(a)})), code)
			for b := range 256 {
				rises := a >= 32 && b <= 126 && a < b
				if got := impl.NodesFault(setOf(kind, string([]byte{byte(a), byte(b)}))); (got == impl.OK) != rises || !rises && got != impl.ErrRange {
					t.Errorf("NodesFault of a set of %d and %d = %d", a, b, got)
				}
			}
		}
	}
}

func formUnless(good bool) int64 {
	if good {
		return impl.OK
	}
	return impl.ErrForm
}

func TestWhatNodesAreOf(t *testing.T) {
	a, b, c := impl.Node{Kind: impl.ReChar, Char: 'a'}, impl.Node{Kind: impl.ReChar, Char: 'b'}, impl.Node{Kind: impl.ReChar, Char: 'c'}
	for kind := int64(impl.ReStar); kind <= impl.ReOpt; kind++ {
		for _, left := range append(farNumbers(), -2, -1, 0, 1, 2, 3) {
			wantOfFault(t, []impl.Node{{Kind: kind, Left: left}}, impl.ErrForm)
			one, two := []impl.Node{a, {Kind: kind, Left: left}}, []impl.Node{a, {Kind: impl.RePlus}, {Kind: kind, Left: left}}
			wantOfFault(t, one, formUnless(left == 0))
			wantOfFault(t, two, formUnless(left == 1))
		}
	}
	for kind := int64(impl.ReCat); kind <= impl.ReAlt; kind++ {
		for _, place := range append(farNumbers(), -2, -1, 0, 1, 2, 3, 4, 5, 6) {
			left := func(asked int64) impl.Node { return impl.Node{Kind: kind, Left: place, Right: asked} }
			right := func(asked int64) impl.Node { return impl.Node{Kind: kind, Left: asked, Right: place} }
			code := func(asked int64) int64 { return formUnless(place == asked) }
			wantOfFault(t, []impl.Node{left(0)}, impl.ErrForm)
			wantOfFault(t, []impl.Node{right(0)}, impl.ErrForm)
			wantOfFault(t, []impl.Node{left(-1)}, impl.ErrForm)
			wantOfFault(t, []impl.Node{a, left(0)}, impl.ErrForm)
			wantOfFault(t, []impl.Node{a, right(-1)}, impl.ErrForm)
			wantOfFault(t, []impl.Node{a, right(0)}, impl.ErrForm)
			wantOfFault(t, []impl.Node{a, b, left(1)}, code(0))
			wantOfFault(t, []impl.Node{a, b, right(0)}, code(1))
			// Right has two in it, and three: Left stands ahead of all of them.
			wantOfFault(t, []impl.Node{a, b, {Kind: impl.ReStar, Left: 1}, left(2)}, code(0))
			wantOfFault(t, []impl.Node{a, b, {Kind: impl.ReStar, Left: 1}, right(0)}, code(2))
			wantOfFault(t, []impl.Node{a, b, c, {Kind: impl.ReCat, Left: 1, Right: 2}, left(3)}, code(0))
			wantOfFault(t, []impl.Node{a, {Kind: impl.ReOpt}, b, c, {Kind: impl.ReAlt, Left: 2, Right: 3}, left(4)}, code(1))
			wantOfFault(t, []impl.Node{a, {Kind: impl.ReOpt}, b, c, {Kind: impl.ReAlt, Left: 2, Right: 3}, right(1)}, code(4))
			wantOfFault(t, []impl.Node{a, {Kind: impl.ReStar}, {Kind: impl.RePlus, Left: 1}, left(2)}, impl.ErrForm)
		}
	}
	for _, open := range [][]impl.Node{
		{a, b}, {a, b, c}, {a, b, {Kind: impl.ReStar, Left: 1}}, {a, {Kind: impl.ReStar}, b}, {a, b, c, {Kind: impl.ReCat, Left: 1, Right: 2}}, {a, b, {Kind: impl.ReCat, Right: 1}, c}, {{Kind: impl.ReEmpty}, {Kind: impl.ReEmpty}},
	} {
		wantOfFault(t, open, impl.ErrForm)
	}
}

// insideTold are all places that a node has in it, itself too.
func insideTold(nodes []impl.Node, place int64) []int64 {
	n := nodes[place]
	inside := []int64{place}
	if n.Kind >= impl.ReStar {
		inside = append(inside, insideTold(nodes, n.Left)...)
	}
	if n.Kind >= impl.ReCat {
		inside = append(inside, insideTold(nodes, n.Right)...)
	}
	return inside
}

// faultTold goes node by node, as the document tells it.
func faultTold(nodes []impl.Node) int64 {
	for i, n := range nodes {
		place, has := int64(i), map[int64]string{2: "c", 4: "s", 5: "s", 8: "l", 9: "l", 10: "l", 11: "lr", 12: "lr"}[n.Kind]
		wrong := func(field string, is bool) bool { return is && !strings.Contains(has, field) }
		if n.Kind < 1 || n.Kind > 12 || wrong("c", n.Char != 0) || wrong("s", n.Set != "") || wrong("l", n.Left != 0) || wrong("r", n.Right != 0) {
			return impl.ErrForm
		}
		if has == "c" && (n.Char < 32 || n.Char > 126) || has == "s" && (n.Set == "" || len(n.Set) > 20 || strings.Trim(n.Set, "abcdefghijklmnopqrstuvwxyz") != "" || len(n.Set) > 1 && n.Set[0] >= n.Set[1]) {
			return impl.ErrRange
		}
		if has == "l" && (n.Left != place-1 || place == 0) {
			return impl.ErrForm
		}
		if has == "lr" {
			if place == 0 || n.Right != place-1 || n.Left != slices.Min(insideTold(nodes, n.Right))-1 || n.Left < 0 {
				return impl.ErrForm
			}
		}
	}
	if len(insideTold(nodes, int64(len(nodes))-1)) != len(nodes) {
		return impl.ErrForm
	}
	return impl.OK
}

func TestWhichFaultComesFirst(t *testing.T) {
	random := rand.New(rand.NewSource(151414))
	kinds, chars, sets, places := []int64{0, 1, 2, 2, 2, 4, 5, 8, 8, 11, 11, 12, 13}, []int64{0, 0, 0, 31, 97}, []string{"", "", "", "a", "ba", "ab"}, []int64{-1, 0, 0, 0, 1, 2, 3}
	codes := map[int64]int{}
	for range 60000 {
		nodes := make([]impl.Node, 1+random.Intn(4))
		for i := range nodes {
			n := impl.Node{Kind: kinds[random.Intn(len(kinds))]}
			// Now and then a node has what it should have not, or not what it should have.
			if n.Kind == impl.ReChar || random.Intn(12) == 0 {
				n.Char = chars[random.Intn(len(chars))]
			}
			if n.Kind == impl.ReSet || n.Kind == impl.ReNot || random.Intn(12) == 0 {
				n.Set = sets[random.Intn(len(sets))]
			}
			if n.Kind >= impl.ReStar || random.Intn(12) == 0 {
				n.Left = places[random.Intn(len(places))]
			}
			if n.Kind >= impl.ReCat {
				n.Right = int64(i) - 1 + int64(random.Intn(9)/8)
			}
			nodes[i] = n
		}
		code := faultTold(nodes)
		codes[code]++
		if got := impl.NodesFault(nodes); got != code {
			t.Errorf("NodesFault %+v = %d, asked for %d", nodes, got, code)
		}
	}
	if codes[impl.OK] < 500 || codes[impl.ErrForm] < 500 || codes[impl.ErrRange] < 500 {
		t.Errorf("hardly one of a code: %v", codes)
	}
	tooMuch, outOfBounds, outOfPlace := impl.Node{Kind: impl.ReAny, Char: 'a'}, impl.Node{Kind: impl.ReChar}, impl.Node{Kind: impl.ReStar, Left: 9}
	for _, c := range []struct {
		code  int64
		nodes []impl.Node
	}{
		// Within one node: what it has not ahead of its bounds.
		{impl.ErrForm, []impl.Node{{Kind: impl.ReChar, Char: 0, Set: "a"}}}, {impl.ErrForm, []impl.Node{{Kind: impl.ReSet, Char: 1}}}, {impl.ErrForm, []impl.Node{{Kind: impl.ReChar, Char: 200, Right: 1}}},
		// Each node is asked all ahead of the next one.
		{impl.ErrRange, []impl.Node{outOfBounds, tooMuch}}, {impl.ErrForm, []impl.Node{tooMuch, outOfBounds}}, {impl.ErrForm, []impl.Node{outOfPlace, outOfBounds}}, {impl.ErrRange, []impl.Node{outOfBounds, outOfPlace}},
		{impl.ErrRange, []impl.Node{{Kind: impl.ReEmpty}, outOfBounds, outOfPlace}}, {impl.ErrForm, []impl.Node{{Kind: impl.ReEmpty}, outOfPlace, outOfBounds}},
		// That the last one has not all in it is asked behind all of them.
		{impl.ErrRange, []impl.Node{{Kind: impl.ReEmpty}, {Kind: impl.ReEmpty}, outOfBounds}}, {impl.ErrRange, []impl.Node{{Kind: impl.ReEmpty}, {Kind: impl.ReEmpty}, {Kind: impl.ReSet, Set: "ba"}}},
	} {
		wantOfFault(t, c.nodes, c.code)
	}
}

// wrongTexts are texts of up to MaxPattern bytes for which there is no tree.
func wrongTexts() []string {
	texts := []string{
		"(", ")", "()(", "())", "((", "(()", "a)", "(a", ")a", ")(", "a|(b", "a|b)", "(a|b", "(a))", "((a)", "(]", "(]))",
		"*", "+", "?", "**", "*a", "|*", "a|*", "a|+b", "(*)", "(*a)", "a(?b)", "a|?", "(|+)", "()|*", "^|*",
		"]", "a]", "]a", "[a]]", "[", "[a", "[^", "[^a", "[]", "[^]", "[]]", "[]a]", "[^]]", "[^]a]", "[a^]", "[a^b]", "[^^]", "[^^a]", "[^a^]", "a[", "([)]", "[a", "[(", "[\\]", "[^\\]", "[a\\", "[\\",
		`\`, `a\`, `\a`, `\ `, `\-`, `\n`, `\~`, `\/`, `\{`, `\}`, `\"`, `\0`, `\\\`, `a|\`, `(\)`, `\a*`, `[\a]`, `[\-]`, `[\[]`, `[\(]`, `[^\a]`, `[^\[]`, `[\$]`, `[\.]`, `[\*]`, `[\a`, `[\\`, `[^\^`,
		"[abcdefghijklmnopqrstu]", "[^abcdefghijklmnopqrstu]", "[" + strings.Repeat("a", 30) + "bcdefghijklmnopqrstu]", "[" + strings.Repeat("a", 59), "(" + strings.Repeat("a", 59),
		strings.Repeat("(", 60), strings.Repeat("(", 31) + strings.Repeat(")", 29), strings.Repeat("(", 29) + strings.Repeat(")", 31), strings.Repeat("(", 31) + strings.Repeat("a", 29), strings.Repeat(")", 60),
		// What comes ahead has too many nodes: that there is no tree is asked first.
		strings.Repeat("a", 59) + "(", strings.Repeat("a", 58) + "[]", strings.Repeat("|", 59) + "*", strings.Repeat("a", 59) + "\x00", strings.Repeat("a", 59) + `\`, strings.Repeat("a", 20) + ")" + strings.Repeat("a", 20), "(" + strings.Repeat("|", 59),
	}
	for _, b := range []string{"\x00", "\x01", "\t", "\n", "\r", "\x1b", "\x1f", "\x7f", "\x80", "\xa0", "\xff", "\xc3\xa4", "\u20ac", "\ufffd", "\xe2\x82", "\xc3"} {
		texts = append(texts, b, "a"+b, b+"a", "["+b+"]", "[a"+b+"]", "[^"+b+"]", `\`+b, `[\`+b+`]`, "("+b+")", "a|"+b, b+"*", "("+b, "["+b, "[a]"+b)
	}
	return texts
}

func TestTextsForWhichThereIsNoTree(t *testing.T) {
	for _, text := range wrongTexts() {
		want(t, fmt.Sprintf("ParsePattern %q", text), impl.ParsePattern(text), impl.NodesResult{Code: impl.ErrText})
	}
	for _, text := range []string{"a", "(", "(a", "[", "|", ")", "\\", "[a]", "\x00", "\xff", "*", "(())", "[]", "é"} {
		for _, size := range []int{61, 62, 100, 5000} {
			long := strings.Repeat(text, size)
			want(t, fmt.Sprintf("ParsePattern of %d bytes %q", size, text), impl.ParsePattern(long[:size]), impl.NodesResult{Code: impl.ErrMany})
		}
	}
	for _, deep := range []int{31, 32, 100} {
		want(t, "ParsePattern, too deep and too long", impl.ParsePattern(strings.Repeat("(", deep)+strings.Repeat(")", deep)), impl.NodesResult{Code: impl.ErrMany})
	}
	want(t, "ParsePattern of 61 bytes in a set", impl.ParsePattern("["+strings.Repeat("a", 59)+"]"), impl.NodesResult{Code: impl.ErrMany})
	for _, text := range []string{strings.Repeat("a", 60), strings.Repeat("a", 13), "a" + strings.Repeat("*", 24), strings.Repeat("|", 60), strings.Repeat("()", 30), "(" + strings.Repeat("a", 58) + ")", strings.Repeat("[a]", 20), strings.Repeat("(a)", 13)} {
		want(t, fmt.Sprintf("ParsePattern %q", text), impl.ParsePattern(text), impl.NodesResult{Code: impl.ErrMany})
	}
	for _, text := range []string{strings.Repeat("a", 12), strings.Repeat("a", 12) + "*", "a" + strings.Repeat("*", 23), strings.Repeat("|", 11), strings.Repeat("|", 11) + "a?", strings.Repeat("(a)", 12) + "+", "(" + strings.Repeat("()", 12) + ")?"} {
		read := impl.ParsePattern(text)
		want(t, fmt.Sprintf("ParsePattern %q", text), read.Code, int64(impl.OK))
		want(t, fmt.Sprintf("PatternText of %q", text), impl.ParsePattern(impl.PatternText(read.Nodes).Text), read)
	}
}

func TestBytesForWhichNodesWithAFaultStand(t *testing.T) {
	far := append(farNumbers(), -1, 0, 10, 31, 127, 255, 256)
	for _, char := range far {
		wantOfBytes(t, impl.Node{Kind: impl.ReChar, Char: char, Set: "xy", Left: char, Right: 3}, func(b int) bool { return int64(b) == char })
		wantOfBytes(t, impl.Node{Kind: impl.ReAny, Char: char, Set: "xy", Left: 1}, func(b int) bool { return b != 10 })
		for _, kind := range []int64{impl.ReEmpty, impl.ReBegin, impl.ReEnd, impl.ReStar, impl.RePlus, impl.ReOpt, impl.ReCat, impl.ReAlt, char - 1000} {
			wantOfBytes(t, impl.Node{Kind: kind, Char: 'x', Set: "xy\n", Left: char, Right: char}, func(b int) bool { return false })
		}
	}
	for _, set := range []string{"", "ba", "aa", "\n", "a\nb", "\x00\xff", "\u00e4", strings.Repeat("ab", 300), "\x1f\x7f"} {
		in := func(b int) bool { return slices.Contains([]byte(set), byte(b)) }
		wantOfBytes(t, impl.Node{Kind: impl.ReSet, Char: 'x', Set: set, Left: -1}, in)
		wantOfBytes(t, impl.Node{Kind: impl.ReNot, Char: 'x', Set: set, Right: 7}, func(b int) bool { return !in(b) && b != 10 })
	}
}

// somePatterns are nodes: trees, and lists that have a fault.
func somePatterns() [][]impl.Node {
	patterns := append(someTrees(200), nil, make([]impl.Node, 25), []impl.Node{{Kind: 13}}, charOf(31), setOf(impl.ReSet, "ba"), []impl.Node{{Kind: impl.ReCat, Left: -1, Right: math.MaxInt64}}, slices.Repeat(charOf('a'), 3))
	for _, tree := range shownTrees() {
		patterns = append(patterns, tree)
	}
	return patterns
}

func TestPatternsThatAreHandedInStayAsTheyAre(t *testing.T) {
	for _, nodes := range somePatterns() {
		mark := impl.Node{Kind: 170, Char: 170, Set: "mark", Left: 170, Right: 170}
		whole := append(slices.Clone(nodes), slices.Repeat([]impl.Node{mark}, 8)...)
		part, kept := whole[:len(nodes):len(whole)], slices.Clone(whole)
		impl.NodesFault(part)
		impl.PatternText(part)
		impl.CanBeEmpty(part)
		impl.SameNodes(part, part)
		for _, n := range part {
			impl.HasByte(n, 'a')
		}
		if !slices.Equal(whole, kept) {
			t.Fatalf("%v was changed to %v", kept, whole)
		}
	}
}

// loose is a text whose bytes can be changed behind its back: who keeps a piece of it is found out.
func loose(text string) (string, []byte) {
	data := []byte(text + "!")
	return unsafe.String(&data[0], len(text)), data
}

func TestAnswersOfPatternsShareNoMemory(t *testing.T) {
	for text, tree := range shownTrees() {
		held, data := loose(text)
		first, second := impl.ParsePattern(held), impl.ParsePattern(held)
		overwrite(data, 'Z')
		want(t, fmt.Sprintf("ParsePattern %q, its text changed", text), first, impl.NodesResult{Nodes: tree})
		overwrite(first.Nodes, impl.Node{Kind: 13, Set: "gone"})
		want(t, fmt.Sprintf("ParsePattern %q, the other answer changed", text), second, impl.NodesResult{Nodes: tree})
		nodes, sets := slices.Clone(tree), [][]byte{}
		for i := range nodes {
			if nodes[i].Set != "" {
				var bytes []byte
				nodes[i].Set, bytes = loose(nodes[i].Set)
				sets = append(sets, bytes)
			}
		}
		told := impl.PatternText(nodes)
		for _, set := range sets {
			overwrite(set, 'Z')
		}
		overwrite(nodes, impl.Node{Kind: 13})
		want(t, fmt.Sprintf("PatternText of %q, its sets changed", text), told, impl.TextResult{Text: text})
	}
}

func TestTextsThatAreHandedInStayAsTheyAre(t *testing.T) {
	texts := wrongTexts()
	for text := range longerTexts() {
		texts = append(texts, text)
	}
	for _, text := range texts {
		held, data := loose(text)
		kept := bytes.Clone(data)
		impl.ParsePattern(held)
		if !bytes.Equal(data, kept) {
			t.Fatalf("%q was changed to %q", kept, data)
		}
	}
}

func TestAnswersOfPatternsHangOnTheArgumentsAlone(t *testing.T) {
	patterns, texts := somePatterns(), append(wrongTexts(), strings.Repeat("a", 61), strings.Repeat("a", 60))
	for text := range shownTrees() {
		texts = append(texts, text)
	}
	all := func(i int) string {
		nodes := patterns[i%len(patterns)]
		next := patterns[(i+1)%len(patterns)]
		told := fmt.Sprint(impl.NodesFault(nodes), impl.PatternText(nodes), impl.CanBeEmpty(nodes), impl.SameNodes(nodes, next), impl.ParsePattern(texts[i%len(texts)]))
		for _, n := range nodes {
			told += fmt.Sprint(impl.HasByte(n, byte(i)))
		}
		return told
	}
	count := max(len(patterns), len(texts))
	first := make([]string, count)
	for i := range count {
		first[i] = all(i)
	}
	var group sync.WaitGroup
	for range 4 {
		group.Go(func() {
			for i := count - 1; i >= 0; i-- {
				if again := all(i); again != first[i] {
					t.Errorf("%v and %q were answered in two ways:\n%s\n%s", patterns[i%len(patterns)], texts[i%len(texts)], first[i], again)
				}
			}
		})
	}
	group.Wait()
}
