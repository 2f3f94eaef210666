package tests

import (
	"math"
	"math/rand"
	"reflect"
	"slices"
	"strconv"
	"strings"
	"testing"

	"loop.example/g00414/impl"
)

// farNumbers leave every bound of the document, some of them only for one who cuts a number to fewer bits.
func farNumbers() []int64 {
	return []int64{
		math.MinInt64, math.MinInt64 + 1, math.MinInt64 + 65, -1 << 33, -1<<32 + 65, -1<<31 - 1, -65536 + 65, -256 + 65, -65,
		1<<16 + 65, 1 << 31, 1<<32 + 1, 1<<32 + 65, 1 << 33, 1<<62 + 65, math.MaxInt64 - 1, math.MaxInt64,
	}
}

// guarded hands out a slice with room behind it, so that a call that appends to its argument is found out.
func guarded(data []byte) (part []byte, whole []byte) {
	whole = make([]byte, 0, len(data)+16)
	whole = append(whole, data...)
	for range 16 {
		whole = append(whole, 170)
	}
	return whole[:len(data):len(whole)], whole
}

// overwrite writes into all that a list can reach, the room behind its end too.
func overwrite[T any](list []T, with T) {
	list = list[:cap(list)]
	for i := range list {
		list[i] = with
	}
}

// same holds two answers against each other; an empty list and nil are the same value, however deep they stand.
func same(a any, b any) bool {
	return reflect.DeepEqual(emptied(reflect.ValueOf(a)).Interface(), emptied(reflect.ValueOf(b)).Interface())
}

// emptied is a value with nil for its empty lists; the value itself stays as it is.
func emptied(v reflect.Value) reflect.Value {
	fresh := reflect.New(v.Type()).Elem()
	switch {
	case v.Kind() == reflect.Struct:
		for i := range v.NumField() {
			fresh.Field(i).Set(emptied(v.Field(i)))
		}
	case v.Kind() == reflect.Slice && v.Len() == 0:
	case v.Kind() == reflect.Slice && v.Type().Elem().Kind() != reflect.Uint8:
		for i := range v.Len() {
			fresh = reflect.Append(fresh, emptied(v.Index(i)))
		}
	default:
		fresh.Set(v)
	}
	return fresh
}

// want tells of an answer that is not the one that is asked for.
func want(t *testing.T, call string, got any, asked any) {
	t.Helper()
	if !same(got, asked) {
		t.Errorf("%s = %+v, asked for %+v", call, got, asked)
	}
}

// piecesOfLines are what lines are made of: all kinds of bytes, whole, cut and wrong.
func piecesOfLines() []string {
	return []string{
		"a", "~", " ", "abc", "\t", "\t", "\t\t", "\n", "\r", "\x00", "\x01", "\x1f", "\x7f", "\x1b[0m",
		"\xc2\x80", "\xc3\xa4", "\xdf\xbf", "\xe0\xa0\x80", "\xe2\x82\xac", "\xed\x9f\xbf", "\xee\x80\x80", "\xef\xbf\xbf",
		"\xc3", "\xe2\x82", "\xe2", "\x80", "\xbf", "\xc0\x80", "\xc1\xbf", "\xe0\x9f\xbf", "\xed\xa0\x80", "\xed\xbf\xbf",
		"\xf0\x90\x80\x80", "\xf8", "\xff", "\xfe", "\xc3\t", "\xe2\x82\t", "\xe2\x7f", "\xc3\xc3\xa4",
	}
}

// someLines are lines made of pieces, always the same ones, no longer than a line may be.
func someLines(count int) [][]byte {
	random := rand.New(rand.NewSource(414))
	pieces := piecesOfLines()
	lines := [][]byte{nil, {}}
	for len(lines) < count {
		var line []byte
		for range random.Intn(40) {
			line = append(line, pieces[random.Intn(len(pieces))]...)
		}
		lines = append(lines, line)
	}
	return lines
}

// edgeFiles are those at which lines and parts are easily told wrong.
func edgeFiles() []string {
	return []string{
		"", "\n", "\n\n", "\n\n\n", "a", "a\n", "a\n\n", "\na", "\n\na", "\na\n", "a\nb", "a\nb\n", "a\n\nb", "ab\n\nc", "ab\n\nc\n",
		"\r\n", "a\r\nb\r", "\x00\n\x00", "\xff\n\xe2\x82\n\xac", "\x0b\n\x85\u2028\n", "\x8a\n\x0a\x1a",
		strings.Repeat("x", 399), strings.Repeat("x", 400), strings.Repeat("\n", 399), strings.Repeat("\n", 400),
		strings.Repeat("x", 399) + "\n", "\n" + strings.Repeat("x", 399), strings.Repeat("x\n", 200), strings.Repeat("\nx", 200),
		strings.Repeat("x", 198) + "\n\n" + strings.Repeat("y", 200),
	}
}

// someFiles are files with many lines or few, always the same ones, of all sizes that a file may have.
func someFiles(count int) []string {
	random := rand.New(rand.NewSource(1414))
	files := edgeFiles()
	for len(files) < count {
		feeds := 1 + random.Intn(40)
		file := make([]byte, random.Intn(401))
		for i := range file {
			file[i] = byte(random.Intn(256))
			if random.Intn(feeds) == 0 {
				file[i] = '\n'
			}
		}
		files = append(files, string(file))
	}
	return files
}

// shortFiles are all of up to so many bytes that are made of a letter and line feeds.
func shortFiles(most int) []string {
	files := []string{""}
	for from := 0; len(files[from]) < most; from++ {
		files = append(files, files[from]+"a", files[from]+"\n")
	}
	return files
}

func fileOf(text string) impl.File {
	return impl.File{Bytes: []byte(text)}
}

// cacheOf makes a cache of blocks that are told as a number and a text, one behind the other.
func cacheOf(unit int64, size int64, blocks ...any) impl.Cache {
	c := impl.Cache{Unit: unit, Size: size}
	for i := 0; i < len(blocks); i += 2 {
		c.Blocks = append(c.Blocks, impl.Block{Number: int64(blocks[i].(int)), Bytes: []byte(blocks[i+1].(string))})
	}
	return c
}

func indexOf(every int64, lines int64, size int64, marks ...int64) impl.Index {
	return impl.Index{Every: every, Marks: marks, Lines: lines, Size: size}
}

// indexTold is what an index has to be of a text: marks are searched for one line feed after the other.
func indexTold(every int64, text string) impl.Index {
	x := indexOf(every, 0, int64(len(text)))
	for place := range len(text) {
		if text[place] == '\n' {
			x.Lines++
		}
		if text[place] == '\n' && x.Lines%every == 0 {
			x.Marks = append(x.Marks, int64(place)+1)
		}
	}
	return x
}

// startsOf are the places at which the lines of a text begin.
func startsOf(text string) []int64 {
	var starts []int64
	for place := range len(text) {
		if place == 0 || text[place-1] == '\n' {
			starts = append(starts, int64(place))
		}
	}
	return starts
}

// nodeOf is a tree of one node that is of no other.
func nodeOf(kind int64) []impl.Node {
	return []impl.Node{{Kind: kind}}
}

func charOf(char int64) []impl.Node {
	return []impl.Node{{Kind: impl.ReChar, Char: char}}
}

func setOf(kind int64, set string) []impl.Node {
	return []impl.Node{{Kind: kind, Set: set}}
}

// treeOf is a tree of one or of two others; their places are moved to where they come to stand.
func treeOf(kind int64, inner ...[]impl.Node) []impl.Node {
	var nodes []impl.Node
	whole := impl.Node{Kind: kind}
	for _, tree := range inner {
		by := int64(len(nodes))
		for _, n := range tree {
			if n.Kind >= impl.ReStar {
				n.Left += by
			}
			if n.Kind >= impl.ReCat {
				n.Right += by
			}
			nodes = append(nodes, n)
		}
		whole.Left, whole.Right = whole.Right, int64(len(nodes))-1
	}
	if len(inner) == 1 {
		whole.Left, whole.Right = whole.Right, 0
	}
	return append(nodes, whole)
}

// catOf is a tree of several ones behind one another, taken from the left on.
func catOf(first []impl.Node, more ...[]impl.Node) []impl.Node {
	for _, tree := range more {
		first = treeOf(impl.ReCat, first, tree)
	}
	return first
}

// leavesOfTrees are one of each kind that is of no other.
func leavesOfTrees() [][]impl.Node {
	return [][]impl.Node{
		nodeOf(impl.ReEmpty), charOf('a'), nodeOf(impl.ReAny), setOf(impl.ReSet, "ab"), setOf(impl.ReNot, "\\]^a"), nodeOf(impl.ReBegin), nodeOf(impl.ReEnd),
	}
}

// treesOf are all trees of so many nodes, by how many they have, of the leaves that are told.
func treesOf(most int, leaves [][]impl.Node) [][][]impl.Node {
	trees := make([][][]impl.Node, most+1)
	trees[1] = leaves
	for count := 2; count <= most; count++ {
		for kind := int64(impl.ReStar); kind <= impl.ReOpt; kind++ {
			for _, inner := range trees[count-1] {
				trees[count] = append(trees[count], treeOf(kind, inner))
			}
		}
		for left := 1; left < count-1; left++ {
			for _, first := range trees[left] {
				for _, second := range trees[count-1-left] {
					trees[count] = append(trees[count], treeOf(impl.ReCat, first, second), treeOf(impl.ReAlt, first, second))
				}
			}
		}
	}
	return trees
}

// randomLeaf is of any kind that is of no other, with any bytes that it may have.
func randomLeaf(random *rand.Rand) []impl.Node {
	switch kind := int64(1 + random.Intn(impl.ReEnd)); kind {
	case impl.ReChar:
		return charOf(int64(32 + random.Intn(95)))
	case impl.ReSet, impl.ReNot:
		set, size := make([]byte, 0, 20), 1+random.Intn(1+random.Intn(20))
		for b := byte(32); b <= 126 && len(set) < size; b++ {
			if random.Intn(int(127-b)) < size-len(set) {
				set = append(set, b)
			}
		}
		return setOf(kind, string(set))
	default:
		return nodeOf(kind)
	}
}

// randomTree is a tree of just so many nodes.
func randomTree(random *rand.Rand, count int) []impl.Node {
	switch {
	case count == 1:
		return randomLeaf(random)
	case count == 2 || random.Intn(3) == 0:
		return treeOf(int64(impl.ReStar+random.Intn(3)), randomTree(random, count-1))
	default:
		left := 1 + random.Intn(count-2)
		return treeOf(int64(impl.ReCat+random.Intn(2)), randomTree(random, left), randomTree(random, count-1-left))
	}
}

// someTrees are trees of all sizes that a pattern may have, always the same ones.
func someTrees(count int) [][]impl.Node {
	random := rand.New(rand.NewSource(51414))
	trees := make([][]impl.Node, count)
	for i := range trees {
		trees[i] = randomTree(random, 1+i%impl.MaxNodes)
	}
	return trees
}

// roomy hands out a list with room behind it, so that a call that appends to its argument is found out.
func roomy[T any](list []T, mark T) (part []T, whole []T) {
	whole = append(slices.Clone(list), slices.Repeat([]T{mark}, 8)...)
	return whole[:len(list):len(whole)], whole
}

// rising is a list of all numbers from the one to ahead of the other.
func rising(from int64, behind int64) []int64 {
	var list []int64
	for ; from < behind; from++ {
		list = append(list, from)
	}
	return list
}

func byteInst(node impl.Node, x int64) impl.Inst {
	return impl.Inst{Op: impl.OpByte, Node: node, X: x}
}

// placesOf reads numbers with a comma between.
func placesOf(text string) []int64 {
	var list []int64
	for _, digits := range strings.FieldsFunc(text, func(r rune) bool { return r == ',' }) {
		place, err := strconv.ParseInt(digits, 10, 64)
		if err != nil {
			panic(err)
		}
		list = append(list, place)
	}
	return list
}

// instOf reads an instruction: s1,3 and j1, b1, e1 (a beginning, an end), done, and a>1 with the text of a node.
func instOf(text string) impl.Inst {
	if text == "done" {
		return impl.Inst{Op: impl.OpDone}
	}
	if at := strings.LastIndex(text, ">"); at > 0 {
		return byteInst(impl.ParsePattern(text[:at]).Nodes[0], placesOf(text[at+1:])[0])
	}
	in := impl.Inst{Op: map[byte]int64{'s': impl.OpSplit, 'j': impl.OpJump, 'b': impl.OpBegin, 'e': impl.OpEnd}[text[0]]}
	to := placesOf(text[1:])
	if in.X = to[0]; len(to) > 1 {
		in.Y = to[1]
	}
	return in
}

// progOf reads instructions with blanks between.
func progOf(text string) []impl.Inst {
	var prog []impl.Inst
	for _, word := range strings.Fields(text) {
		prog = append(prog, instOf(word))
	}
	return prog
}

// compiled is the program of a pattern that is told as a text.
func compiled(pattern string) []impl.Inst {
	return impl.CompilePattern(impl.ParsePattern(pattern).Nodes).Prog
}

// randomProg is a program of just so many instructions, of any that there may be; few of them are at the end.
func randomProg(random *rand.Rand, count int) []impl.Inst {
	prog := make([]impl.Inst, count)
	place := func() int64 { return int64(random.Intn(count)) }
	for i := range prog {
		switch op := int64(1 + random.Intn(impl.OpDone)); {
		case op == impl.OpDone && random.Intn(count) < 3:
			prog[i] = impl.Inst{Op: op}
		case op == impl.OpSplit:
			prog[i] = impl.Inst{Op: op, X: place(), Y: place()}
		case op == impl.OpByte || op == impl.OpDone:
			leaf := randomLeaf(random)[0]
			for leaf.Kind < impl.ReChar || leaf.Kind > impl.ReNot {
				leaf = randomLeaf(random)[0]
			}
			if random.Intn(2) == 0 {
				leaf = charOf('a' + int64(random.Intn(3)))[0]
			}
			prog[i] = byteInst(leaf, place())
		default:
			prog[i] = impl.Inst{Op: op, X: place()}
		}
	}
	return prog
}

// somePrograms are programs of all sizes that there may be, always the same ones.
func somePrograms(count int) [][]impl.Inst {
	random := rand.New(rand.NewSource(81414))
	progs := make([][]impl.Inst, count)
	for i := range progs {
		progs[i] = randomProg(random, 1+i%impl.MaxProg)
	}
	return progs
}

// randomSet has some places of so many, few of them or most of them.
func randomSet(random *rand.Rand, count int) []int64 {
	var set []int64
	part := 1 + random.Intn(20)
	for place := range int64(count) {
		if random.Intn(20) < part {
			set = append(set, place)
		}
	}
	return set
}

// stateOf reads a state: the places of its set, or - for none, and behind a blank each an arc, its byte and where it leads.
func stateOf(text string) impl.SetState {
	words := strings.Split(text, " ")
	var state impl.SetState
	if words[0] != "-" {
		state.Set = placesOf(words[0])
	}
	for _, word := range words[1:] {
		state.Arcs = append(state.Arcs, impl.Arc{Byte: int64(word[0]), To: placesOf(word[1:])[0]})
	}
	return state
}

// tableOf reads states with | between.
func tableOf(size int64, text string) impl.Table {
	t := impl.Table{Size: size}
	for _, state := range strings.Split(text, " | ") {
		if text != "" {
			t.States = append(t.States, stateOf(state))
		}
	}
	return t
}

// withState is a table with a state more, behind all others.
func withState(t impl.Table, state impl.SetState) impl.Table {
	t.States = append(slices.Clone(t.States), state)
	return t
}

// arcsOf are arcs for so many bytes, from 0 on, that lead to one place.
func arcsOf(count int, to int64) []impl.Arc {
	arcs := make([]impl.Arc, count)
	for b := range arcs {
		arcs[b] = impl.Arc{Byte: int64(b), To: to}
	}
	return arcs
}

// randomTable has any sets, no two alike, and arcs that lead anywhere; it has no fault.
func randomTable(random *rand.Rand, prog []impl.Inst) impl.Table {
	t := impl.Table{Size: int64(1 + random.Intn(impl.MaxStates))}
	for range random.Intn(int(t.Size) + 1) {
		set := randomSet(random, len(prog))
		if random.Intn(3) == 0 {
			set = impl.CloseSet(prog, []int64{0}, random.Intn(2) == 0, false).List
		}
		if !slices.ContainsFunc(t.States, func(state impl.SetState) bool { return slices.Equal(state.Set, set) }) {
			t.States = append(t.States, impl.SetState{Set: set})
		}
	}
	for place := range t.States {
		for _, b := range random.Perm(256)[:random.Intn(4)*random.Intn(86)] {
			t.States[place].Arcs = append(t.States[place].Arcs, impl.Arc{Byte: int64(b), To: int64(random.Intn(len(t.States)))})
		}
	}
	return t
}

// trueTable is one to which sets were entered and from which steps were gone.
func trueTable(random *rand.Rand, prog []impl.Inst, size int64) impl.Table {
	t := impl.NewTable(size).Table
	for range random.Intn(20) {
		if len(t.States) == 0 || random.Intn(4) == 0 {
			t = impl.EnterSet(prog, t, randomSet(random, len(prog))).Table
			continue
		}
		b := "abc \n\xff"[random.Intn(6)]
		t = impl.StepTable(prog, t, int64(random.Intn(len(t.States))), b).Table
	}
	return t
}

// kindOf is the kind of a command by its name.
func kindOf(name string) int64 {
	return map[string]int64{
		"down": impl.CmdDown, "up": impl.CmdUp, "top": impl.CmdTop, "end": impl.CmdEnd, "chop": impl.CmdChop, "left": impl.CmdLeft, "right": impl.CmdRight,
		"find": impl.CmdFind, "next": impl.CmdNext, "prev": impl.CmdPrev, "size": impl.CmdSize, "mark": impl.CmdMark, "go": impl.CmdGo, "follow": impl.CmdFollow,
	}[name]
}

// cmdOf reads a command: its name, and behind a blank each its Count and its Wide, or all of its Text.
func cmdOf(text string) impl.Cmd {
	name, rest, _ := strings.Cut(text, " ")
	c := impl.Cmd{Kind: kindOf(name)}
	if name == "find" {
		c.Text = rest
		return c
	}
	numbers := append(placesOf(strings.ReplaceAll(rest, " ", ",")), 0, 0)
	c.Count, c.Wide = numbers[0], numbers[1]
	return c
}

// lookAt is a state at line 0, row 0, with all else empty.
func lookAt(height int64, width int64) impl.State {
	return impl.State{Height: height, Layout: impl.Layout{Width: width}, Marks: make([]impl.Spot, impl.MaxMarks)}
}
