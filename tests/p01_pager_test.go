package tests

import (
	"bytes"
	"fmt"
	"math"
	"math/rand"
	"slices"
	"strings"
	"sync"
	"testing"
	"time"

	"loop.example/g00414/impl"
)

// Promise 1, of chapter 11: every function answers at every argument, ends, and changes none;
// what it answers is new memory; it hangs on the arguments alone.

// bounds are those of a number; where none is told the number has to be 0.
type bounds struct {
	least int64
	most  int64
}

func countsTold() map[int64]bounds {
	return map[int64]bounds{
		impl.CmdDown: {1, 999}, impl.CmdUp: {1, 999}, impl.CmdTop: {0, 999}, impl.CmdLeft: {1, 400}, impl.CmdRight: {1, 400}, impl.CmdNext: {1, 999}, impl.CmdPrev: {1, 999}, impl.CmdSize: {1, 12}, impl.CmdMark: {0, 3}, impl.CmdGo: {0, 3},
	}
}

// cmdFaultTold asks for all that may be so, one behind the other.
func cmdFaultTold(c impl.Cmd) int64 {
	count, hasCount := countsTold()[c.Kind]
	isSize, isFind := c.Kind == impl.CmdSize, c.Kind == impl.CmdFind
	if c.Kind < 1 || c.Kind > 14 {
		return impl.ErrForm
	}
	if c.Count != 0 && !hasCount {
		return impl.ErrForm
	}
	if c.Wide != 0 && !isSize {
		return impl.ErrForm
	}
	if c.Text != "" && !isFind {
		return impl.ErrForm
	}
	if hasCount && (c.Count < count.least || c.Count > count.most) {
		return impl.ErrRange
	}
	if isSize && (c.Wide < 4 || c.Wide > 40) {
		return impl.ErrRange
	}
	if len(c.Text) > impl.MaxPattern {
		return impl.ErrMany
	}
	return impl.OK
}

// rightCmd is a command of a kind, with the least of all that it has.
func rightCmd(kind int64) impl.Cmd {
	c := impl.Cmd{Kind: kind, Count: countsTold()[kind].least}
	if kind == impl.CmdSize {
		c.Wide = 4
	}
	return c
}

// wantOfCmd asks for the code of a command, by CmdFault and by DoCmd.
func wantOfCmd(t *testing.T, c impl.Cmd, code int64) {
	t.Helper()
	want(t, fmt.Sprintf("CmdFault %+v", c), impl.CmdFault(c), code)
	got := impl.DoCmd(fileOf(shortFile), lookAt(2, 4), c)
	if code != impl.OK {
		want(t, fmt.Sprintf("DoCmd %+v", c), got, impl.StateResult{Code: code})
	} else {
		want(t, fmt.Sprintf("the code of DoCmd %+v", c), got.Code, code)
	}
}

func TestKindsOfCommands(t *testing.T) {
	for kind := int64(1); kind <= 14; kind++ {
		wantOfCmd(t, rightCmd(kind), impl.OK)
	}
	for _, kind := range outside(1, 14) {
		for _, c := range []impl.Cmd{{}, {Count: 1}, {Count: 1, Wide: 4}, {Text: "a"}, {Count: math.MinInt64, Wide: math.MaxInt64}, {Text: strings.Repeat("a", 61)}} {
			c.Kind = kind
			wantOfCmd(t, c, impl.ErrForm)
		}
	}
}

func TestCountsOfCommands(t *testing.T) {
	for kind := int64(1); kind <= 14; kind++ {
		count, hasCount := countsTold()[kind]
		code := int64(impl.ErrRange)
		if !hasCount {
			code = impl.ErrForm
		}
		c := rightCmd(kind)
		for _, number := range outside(count.least, count.most) {
			c.Count = number
			wantOfCmd(t, c, code)
		}
		for number := count.least; number <= count.most; number++ {
			c.Count = number
			want(t, fmt.Sprintf("CmdFault %+v", c), impl.CmdFault(c), int64(impl.OK))
		}
		for _, number := range []int64{count.least, (count.least + count.most) / 2, count.most} {
			c.Count = number
			wantOfCmd(t, c, impl.OK)
		}
	}
}

func TestWidesAndTextsOfCommands(t *testing.T) {
	for kind := int64(1); kind <= 14; kind++ {
		for _, wide := range append(farNumbers(), -1, 1, 3, 4, 5, 39, 40, 41) {
			c := rightCmd(kind)
			c.Wide = wide
			switch {
			case kind != impl.CmdSize:
				wantOfCmd(t, c, impl.ErrForm)
			case wide < 4 || wide > 40:
				wantOfCmd(t, c, impl.ErrRange)
			default:
				wantOfCmd(t, c, impl.OK)
			}
		}
		for _, text := range []string{"a", "(", "\x00", "\n", " ", strings.Repeat("a", 59), strings.Repeat("a", 60), strings.Repeat("a", 61), strings.Repeat("\xff", 60), strings.Repeat("(", 61), strings.Repeat("a", 5000)} {
			c := rightCmd(kind)
			c.Text = text
			switch {
			case kind != impl.CmdFind:
				wantOfCmd(t, c, impl.ErrForm)
			case len(text) > 60:
				wantOfCmd(t, c, impl.ErrMany)
			default:
				wantOfCmd(t, c, impl.OK)
			}
		}
	}
	wantOfCmd(t, impl.Cmd{Kind: impl.CmdSize, Count: 12}, impl.ErrRange)
	wantOfCmd(t, impl.Cmd{Kind: impl.CmdSize, Wide: 40}, impl.ErrRange)
}

func TestWhichFaultOfACommandComesFirst(t *testing.T) {
	long := strings.Repeat("a", 61)
	for _, c := range []impl.Cmd{
		// What a kind has not comes ahead of all bounds, those of what it has and of what it has not.
		{Kind: impl.CmdDown, Wide: 4}, {Kind: impl.CmdDown, Count: 1000, Text: "a"}, {Kind: impl.CmdUp, Count: -1, Wide: 41}, {Kind: impl.CmdTop, Count: 1000, Wide: 1}, {Kind: impl.CmdTop, Count: -1, Text: long}, {Kind: impl.CmdLeft, Text: "a"}, {Kind: impl.CmdRight, Count: 401, Wide: 3}, {Kind: impl.CmdSize, Text: "a"}, {Kind: impl.CmdSize, Count: 13, Wide: 3, Text: long}, {Kind: impl.CmdMark, Count: 4, Wide: 1}, {Kind: impl.CmdGo, Count: -1, Text: "a"}, {Kind: impl.CmdNext, Text: long}, {Kind: impl.CmdPrev, Wide: -1},
		{Kind: impl.CmdFind, Count: 1, Text: long}, {Kind: impl.CmdFind, Wide: 1, Text: long}, {Kind: impl.CmdFind, Count: 1}, {Kind: impl.CmdFind, Count: -1, Text: "a"}, {Kind: impl.CmdEnd, Count: 1}, {Kind: impl.CmdChop, Count: 1000}, {Kind: impl.CmdFollow, Text: long}, {Kind: impl.CmdEnd, Wide: 40}, {Kind: 15, Text: long}, {Kind: 0, Count: 1000},
	} {
		wantOfCmd(t, c, impl.ErrForm)
	}
	random := rand.New(rand.NewSource(123414))
	numbers := []int64{0, 0, 0, 1, 2, 3, 4, 12, 13, 40, 41, 400, 401, 999, 1000, -1, math.MinInt64, math.MaxInt64, 1<<32 + 4}
	for range 20000 {
		c := impl.Cmd{Kind: int64(random.Intn(17)), Count: numbers[random.Intn(len(numbers))]}
		if c.Kind == impl.CmdSize || random.Intn(4) == 0 {
			c.Wide = numbers[random.Intn(len(numbers))]
		}
		if c.Kind == impl.CmdFind || random.Intn(6) == 0 {
			c.Text = long[:random.Intn(62)]
		}
		wantOfCmd(t, c, cmdFaultTold(c))
	}
}

// stateFaultTold asks for all that may be so, one behind the other; what is asked of the spot is handed in.
func stateFaultTold(file string, s impl.State, spotFault int64) int64 {
	note := strings.Trim(s.Note, " !\"#$%&'()*+,-./0123456789:;<=>?@ABCDEFGHIJKLMNOPQRSTUVWXYZ[\\]^_`abcdefghijklmnopqrstuvwxyz{|}~")
	if len(file) > 400 {
		return impl.ErrMany
	}
	if s.Height < 1 || s.Height > 12 || s.Layout.Width < 4 {
		return impl.ErrRange
	}
	if spotFault != impl.OK {
		return spotFault
	}
	if code := impl.ParsePattern(s.Pattern).Code; code != impl.OK {
		return code
	}
	if len(s.Note) > 40 || note != "" {
		return impl.ErrText
	}
	if len(s.Marks) != 4 {
		return impl.ErrMany
	}
	for _, mark := range s.Marks {
		if mark.Line < 0 || mark.Line > 400 || mark.Row < 0 || mark.Row > 400 {
			return impl.ErrRange
		}
	}
	return impl.OK
}

// wantOfStateFault asks all that ask for a fault of a state.
func wantOfStateFault(t *testing.T, file string, s impl.State, code int64) {
	t.Helper()
	f, call := fileOf(file), fmt.Sprintf("%q, %+v", file, s)
	want(t, "StateFault "+call, impl.StateFault(f, s), code)
	if code == impl.OK {
		wantOfLook(t, file, s)
		wantOfFix(t, file, s, true)
		return
	}
	for _, c := range []impl.Cmd{{}, cmdOf("down 1"), cmdOf("end"), cmdOf("find a"), cmdOf("size 1 4"), cmdOf("size 13 4"), cmdOf("follow"), {Kind: impl.CmdFind, Text: strings.Repeat("a", 61)}, {Kind: 15, Count: 1}} {
		want(t, fmt.Sprintf("DoCmd %s, %+v", call, c), impl.DoCmd(f, s, c), impl.StateResult{Code: code})
	}
	want(t, "StatusOf "+call, impl.StatusOf(f, s), impl.TextResult{Code: code})
	want(t, "ViewOf "+call, impl.ViewOf(f, s), impl.GridResult{Code: code})
}

// wantNoFix asks FixState of what has a fault that is not of the spot.
func wantNoFix(t *testing.T, file string, s impl.State, code int64) {
	t.Helper()
	for _, grew := range []bool{false, true} {
		want(t, fmt.Sprintf("FixState %q, %+v, %v", file, s, grew), impl.FixState(fileOf(file), s, grew), impl.StateResult{Code: code})
	}
}

func TestStatesOnTheirBounds(t *testing.T) {
	for _, file := range []string{"", "\n", shortFile} {
		for _, number := range append(farNumbers(), -1, 0, 1, 2, 3, 4, 5, 11, 12, 13, 39, 40, 41) {
			height, width := lookAt(number, 4), lookAt(12, number)
			heightCode, widthCode := int64(impl.OK), int64(impl.OK)
			if number < 1 || number > 12 {
				heightCode = impl.ErrRange
				wantNoFix(t, file, height, heightCode)
			}
			if number < 4 || number > 40 {
				widthCode = impl.ErrRange
				wantNoFix(t, file, width, widthCode)
			}
			wantOfStateFault(t, file, height, heightCode)
			wantOfStateFault(t, file, width, widthCode)
		}
	}
}

func TestLayoutsAndSpotsOfStates(t *testing.T) {
	for _, shift := range []int64{1, 2, 399, 400} {
		s := lookAt(2, 4)
		s.Layout.Shift = shift
		wantOfStateFault(t, shortFile, s, impl.ErrForm)
		wantNoFix(t, shortFile, s, impl.ErrForm)
		s.Spot.Line = 9
		wantOfStateFault(t, shortFile, s, impl.ErrForm)
		wantNoFix(t, shortFile, s, impl.ErrForm)
		s.Spot.Line, s.Layout.Chop = 0, true
		wantOfStateFault(t, shortFile, s, impl.OK)
	}
	for _, shift := range outside(0, 400) {
		for _, isChopped := range []bool{false, true} {
			s := lookAt(2, 4)
			s.Layout.Shift, s.Layout.Chop = shift, isChopped
			wantOfStateFault(t, shortFile, s, impl.ErrRange)
			wantNoFix(t, shortFile, s, impl.ErrRange)
		}
	}
	for _, number := range append(outside(0, 2), -400, 400) {
		for _, spot := range []impl.Spot{{Line: number}, {Row: number}, {Line: 2, Row: number}, {Line: number, Row: number}} {
			s := lookAt(2, 4)
			s.Spot = spot
			wantOfStateFault(t, shortFile, s, impl.ErrRange)
			wantOfStateFault(t, "", s, impl.ErrNone)
			for _, file := range []string{"", "\n", shortFile} {
				wantOfFix(t, file, s, false)
				wantOfFix(t, file, s, true)
			}
		}
	}
	for spot, code := range map[string]int64{"0.0": impl.OK, "0.2": impl.OK, "0.3": impl.ErrRange, "1.0": impl.OK, "1.1": impl.ErrRange, "2.0": impl.OK, "2.1": impl.ErrRange, "3.0": impl.ErrRange} {
		s := lookAt(2, 4)
		s.Spot = spotAt(spot)
		wantOfStateFault(t, shortFile, s, code)
	}
}

func TestPatternsAndNotesOfStates(t *testing.T) {
	long := strings.Repeat("a", 61)
	for pattern, code := range map[string]int64{"": impl.OK, "a": impl.OK, "[a-c]": impl.OK, "a|": impl.OK, long[:12]: impl.OK, "[" + long[:58] + "]": impl.OK, "(": impl.ErrText, "a)": impl.ErrText, "*": impl.ErrText, "\n": impl.ErrText, "\x00": impl.ErrText, long[:13]: impl.ErrMany, long[:60]: impl.ErrMany, long: impl.ErrMany, strings.Repeat("(", 60): impl.ErrText, strings.Repeat("(", 61): impl.ErrMany, strings.Repeat("\n", 5000): impl.ErrMany} {
		s := lookAt(2, 4)
		s.Pattern = pattern
		wantOfStateFault(t, shortFile, s, code)
		want(t, fmt.Sprintf("the code of FixState, %q", pattern), impl.FixState(fileOf(shortFile), s, true).Code, code)
	}
	for b := range 256 {
		for _, frame := range [][2]string{{"", ""}, {"a", ""}, {"", "a"}, {strings.Repeat("~", 39), ""}, {"", strings.Repeat(" ", 39)}, {strings.Repeat("a", 20), strings.Repeat("b", 20)}} {
			s, code := lookAt(2, 4), int64(impl.OK)
			s.Note = frame[0] + string([]byte{byte(b)}) + frame[1]
			if b < 32 || b > 126 || len(s.Note) > 40 {
				code = impl.ErrText
			}
			wantOfStateFault(t, shortFile, s, code)
			want(t, fmt.Sprintf("the code of FixState, %q", s.Note), impl.FixState(fileOf(shortFile), s, false).Code, code)
		}
	}
	for _, size := range []int{39, 40, 41, 5000} {
		s := lookAt(2, 4)
		s.Note = strings.Repeat(" ", size)
		wantOfStateFault(t, shortFile, s, map[bool]int64{true: impl.ErrText}[size > 40])
	}
}

func TestMarksOfStates(t *testing.T) {
	for count := range 9 {
		for _, mark := range []impl.Spot{{}, {Line: 400, Row: 400}, {Line: -1}} {
			s, code := lookAt(2, 4), int64(impl.ErrMany)
			s.Marks = slices.Repeat([]impl.Spot{mark}, count)
			if count == 4 {
				code = map[bool]int64{true: impl.ErrRange}[mark.Line < 0]
			}
			wantOfStateFault(t, shortFile, s, code)
			want(t, fmt.Sprintf("the code of FixState with %d marks", count), impl.FixState(fileOf(shortFile), s, true).Code, code)
		}
	}
	for place := range 4 {
		for _, number := range append(outside(0, 400), 0, 1, 399, 400) {
			for _, mark := range []impl.Spot{{Line: number}, {Row: number}, {Line: number, Row: number}} {
				s, code := lookAt(2, 4), int64(impl.OK)
				s.Marks[place] = mark
				if number < 0 || number > 400 {
					code = impl.ErrRange
					wantNoFix(t, shortFile, s, code)
				}
				wantOfStateFault(t, shortFile, s, code)
			}
		}
	}
	s := lookAt(2, 4)
	s.Marks = nil
	wantOfStateFault(t, "", s, impl.ErrMany)
	wantOfStateFault(t, "", impl.State{}, impl.ErrRange)
}

// breaks are what makes a fault of a state.
func breaks() []func(s *impl.State) {
	return []func(s *impl.State){
		func(s *impl.State) { s.Height = 0 }, func(s *impl.State) { s.Height = 13 }, func(s *impl.State) { s.Height = math.MinInt64 }, func(s *impl.State) { s.Layout.Width = 3 }, func(s *impl.State) { s.Layout.Width = 41 }, func(s *impl.State) { s.Layout.Width = math.MaxInt64 },
		func(s *impl.State) { s.Layout.Shift++ }, func(s *impl.State) { s.Layout.Shift = 401 }, func(s *impl.State) { s.Layout.Shift = -1 }, func(s *impl.State) { s.Spot.Line = -1 }, func(s *impl.State) { s.Spot.Line = 400 }, func(s *impl.State) { s.Spot.Row = math.MaxInt64 },
		func(s *impl.State) { s.Pattern = "(" }, func(s *impl.State) { s.Pattern = strings.Repeat("a", 13) }, func(s *impl.State) { s.Pattern = strings.Repeat("(", 61) }, func(s *impl.State) { s.Note = "\x1f" }, func(s *impl.State) { s.Note = "a\x7f" }, func(s *impl.State) { s.Note = strings.Repeat("a", 41) },
		func(s *impl.State) { s.Marks = nil }, func(s *impl.State) { s.Marks = make([]impl.Spot, 3) }, func(s *impl.State) { s.Marks = append(slices.Clone(s.Marks), impl.Spot{Line: -1}) }, func(s *impl.State) { s.Marks = slices.Repeat([]impl.Spot{{Line: 401}}, len(s.Marks)) }, func(s *impl.State) { s.Marks = slices.Repeat([]impl.Spot{{Row: -1}}, len(s.Marks)) },
	}
}

func TestWhichFaultOfAStateComesFirst(t *testing.T) {
	random := rand.New(rand.NewSource(124414))
	files := append(seenFiles(random, 30), strings.Repeat("a\n", 201), strings.Repeat("a", 401))
	all := breaks()
	for range 2000 {
		file := files[random.Intn(len(files))]
		s := lookAt(int64(1+random.Intn(12)), int64(4+random.Intn(37)))
		s.Layout.Chop = random.Intn(3) == 0
		for _, i := range random.Perm(len(all))[:random.Intn(4)] {
			all[i](&s)
		}
		code := stateFaultTold(file, s, impl.SpotFault(fileOf(file), s.Layout, s.Spot))
		wantOfStateFault(t, file, s, code)
		if code = stateFaultTold(file, s, impl.LayoutFault(s.Layout)); code != impl.OK {
			wantNoFix(t, file, s, code)
		} else {
			wantOfFix(t, file, s, random.Intn(2) == 0)
		}
	}
}

func TestFilesThatAreTooLongToBeSeen(t *testing.T) {
	for _, size := range []int{401, 402, 5000} {
		for _, s := range []impl.State{lookAt(2, 4), lookAt(0, 4), lookAt(2, 3), {}, {Height: 2, Layout: chopped(4, 401), Note: "\n", Pattern: "("}} {
			file := strings.Repeat("a\n", size)[:size]
			wantOfStateFault(t, file, s, impl.ErrMany)
			wantNoFix(t, file, s, impl.ErrMany)
		}
	}
	f := impl.File{Bytes: make([]byte, 3, 5000)}
	want(t, "StateFault", impl.StateFault(f, lookAt(2, 4)), int64(impl.OK))
}

func TestNewStatesThatLeaveTheirBounds(t *testing.T) {
	wrong := impl.StateResult{Code: impl.ErrRange}
	for _, number := range outside(1, 12) {
		for _, width := range []int64{4, 40, 3, 41, 0, number} {
			want(t, fmt.Sprintf("NewState %d, %d", number, width), impl.NewState(number, width), wrong)
		}
	}
	for _, number := range outside(4, 40) {
		for _, height := range []int64{1, 12, 0, 13, number} {
			want(t, fmt.Sprintf("NewState %d, %d", height, number), impl.NewState(height, number), wrong)
		}
	}
}

// gridWith has so many places, all of one character, and as many that are high.
func gridWith(width int64, places int, char int64) impl.Grid {
	return impl.Grid{Width: width, Chars: slices.Repeat([]int64{char}, places), High: make([]bool, places)}
}

func TestGridsOnTheirBounds(t *testing.T) {
	for width := int64(4); width <= 40; width++ {
		for rows := range 16 {
			code := int64(impl.OK)
			if rows == 0 || rows > 13 {
				code = impl.ErrForm
			}
			want(t, fmt.Sprintf("GridFault of %d rows, Width %d", rows, width), impl.GridFault(gridWith(width, rows*int(width), 'a')), code)
			for _, more := range []int{-1, 1, 2, int(width) - 1} {
				places := max(rows*int(width)+more, 1)
				want(t, fmt.Sprintf("GridFault of %d places, Width %d", places, width), impl.GridFault(gridWith(width, places, 'a')), int64(impl.ErrForm))
			}
		}
	}
	for _, width := range outside(4, 40) {
		for _, g := range []impl.Grid{gridWith(width, 40, 'a'), gridWith(width, 0, 'a'), gridWith(width, 41, 31), gridWith(width, 5000, -1), {Width: width, High: make([]bool, 3)}} {
			want(t, fmt.Sprintf("GridFault of Width %d", width), impl.GridFault(g), int64(impl.ErrRange))
		}
	}
	for _, high := range []int{0, 1, 7, 9, 16, 5000} {
		for _, char := range []int64{'a', 31} {
			g := gridWith(4, 8, char)
			g.High = make([]bool, high)
			want(t, fmt.Sprintf("GridFault of 8 places, %d of High", high), impl.GridFault(g), int64(impl.ErrForm))
		}
	}
	want(t, "GridFault of nothing", impl.GridFault(impl.Grid{}), int64(impl.ErrRange))
	want(t, "GridFault without places", impl.GridFault(impl.Grid{Width: 4}), int64(impl.ErrForm))
	want(t, "GridFault without places, of High", impl.GridFault(impl.Grid{Width: 4, High: make([]bool, 4)}), int64(impl.ErrForm))
}

func TestCharactersOfGrids(t *testing.T) {
	numbers := append(farNumbers(), -1, 0, 9, 10, 27, 31, 32, 33, 126, 127, 128, 159, 160, 255, 256, 55295, 55296, 56000, 57343, 57344, 65534, 65535, 65536, 65537)
	for _, char := range numbers {
		for place := range 8 {
			g, code := gridWith(4, 8, ' '), int64(impl.OK)
			g.Chars[place], g.High[place] = char, true
			if char < 32 || char == 127 || char > 65535 || char >= 55296 && char <= 57343 {
				code = impl.ErrRange
			}
			want(t, fmt.Sprintf("GridFault with %d at %d", char, place), impl.GridFault(g), code)
			want(t, "as of a cell", impl.CellsFault([]impl.Cell{{Char: char, Size: 1}}), code)
			g.Chars = append(g.Chars, ' ')
			want(t, fmt.Sprintf("GridFault with %d at %d, not full", char, place), impl.GridFault(g), int64(impl.ErrForm))
		}
	}
}

func TestEachLookEndsSoon(t *testing.T) {
	for _, nodes := range append(greatTrees()[:30], impl.ParsePattern("((a*)*b?)*$").Nodes) {
		pattern := impl.PatternText(nodes)
		if pattern.Code != impl.OK {
			continue
		}
		for _, piece := range []string{"a", "aaaaaaaaa\n"} {
			f, s, begin := fileOf(strings.Repeat(piece, 400)[:400]), lookAt(12, 4), time.Now()
			s.Pattern, s.Follow = pattern.Text, true
			for _, command := range []string{"next 999", "prev 999", "find " + pattern.Text, "down 999", "end", "chop", "size 12 4"} {
				want(t, "the code of "+command, impl.DoCmd(f, s, cmdOf(command)).Code, int64(impl.OK))
			}
			want(t, "the code of FixState", impl.FixState(f, s, true).Code, int64(impl.OK))
			want(t, "the code of ViewOf", impl.ViewOf(f, s).Code, int64(impl.OK))
			if took := time.Since(begin); took > 4*time.Second {
				t.Errorf("%q in %q took %v", pattern.Text, piece, took)
			}
		}
	}
}

// lookCase is what the functions of the chapter are asked of.
type lookCase struct {
	file  impl.File
	state impl.State
	cmd   impl.Cmd
	grid  impl.Grid
	grew  bool
}

// lookCases have faults now and then.
func lookCases() []lookCase {
	random := rand.New(rand.NewSource(125414))
	files, all := seenFiles(random, 40), breaks()
	var cases []lookCase
	for i := range 400 {
		file := files[random.Intn(len(files))]
		c := lookCase{file: fileOf(file), cmd: randomCmd(random), grew: random.Intn(2) == 0}
		c.state = impl.NewState(int64(1+random.Intn(12)), int64(4+random.Intn(20))).State
		for range 6 {
			c.state = impl.DoCmd(c.file, c.state, randomCmd(random)).State
		}
		c.grid = impl.ViewOf(c.file, c.state).Grid
		switch i % 12 {
		case 0:
			c.file.Bytes = make([]byte, 401)
		case 1:
			all[random.Intn(len(all))](&c.state)
		case 2:
			c.cmd.Wide = 3
		case 3:
			c.grid.Chars = c.grid.Chars[1:]
		case 4:
			c.state.Spot.Row = 400
		case 5:
			c.file.Bytes = c.file.Bytes[:len(c.file.Bytes)/2]
		}
		cases = append(cases, c)
	}
	return cases
}

// asked asks all functions of the chapter.
func (c lookCase) asked() string {
	told := fmt.Sprint(impl.CmdFault(c.cmd), impl.StateFault(c.file, c.state), impl.NewState(c.state.Height, c.state.Layout.Width), impl.GridFault(c.grid))
	told += fmt.Sprint(impl.DoCmd(c.file, c.state, c.cmd), impl.FixState(c.file, c.state, c.grew), impl.FixState(c.file, c.state, !c.grew))
	told += fmt.Sprint(impl.StatusOf(c.file, c.state), impl.ViewOf(c.file, c.state))
	for kind := int64(1); kind <= 14; kind++ {
		told += fmt.Sprint(impl.DoCmd(c.file, c.state, rightCmd(kind)))
	}
	return told
}

func TestWhatOneLooksAtStaysAsItIs(t *testing.T) {
	for _, c := range lookCases() {
		told := c.asked()
		file, wholeFile := guarded(c.file.Bytes)
		marks, wholeMarks := roomy(c.state.Marks, impl.Spot{Line: 170})
		chars, wholeChars := roomy(c.grid.Chars, 170)
		high, wholeHigh := roomy(c.grid.High, true)
		keptFile, keptMarks, keptChars, keptHigh := bytes.Clone(wholeFile), slices.Clone(wholeMarks), slices.Clone(wholeChars), slices.Clone(wholeHigh)
		c.file.Bytes, c.state.Marks, c.grid.Chars, c.grid.High = file, marks, chars, high
		if again := c.asked(); again != told {
			t.Errorf("%+v, with room behind it, was answered in two ways:\n%s\n%s", c, told, again)
		}
		if !bytes.Equal(wholeFile, keptFile) || !slices.Equal(wholeMarks, keptMarks) || !slices.Equal(wholeChars, keptChars) || !slices.Equal(wholeHigh, keptHigh) {
			t.Fatalf("%+v was changed to %q, %v, %v, %v", c, wholeFile, wholeMarks, wholeChars, wholeHigh)
		}
	}
}

func TestStatesAndGridsShareNoMemory(t *testing.T) {
	mark := impl.Spot{Line: -7}
	want(t, "NewState, another one changed", impl.NewState(2, 4), impl.StateResult{State: lookAt(2, 4)})
	wantNoSharing(t, "NewState", mark, func() []impl.Spot { return impl.NewState(2, 4).State.Marks }, func() {})
	for _, c := range lookCases() {
		for kind := int64(1); kind <= 14; kind++ {
			s := c.state
			s.Marks = slices.Clone(c.state.Marks)
			change := func() { overwrite(s.Marks, mark) }
			wantNoSharing(t, fmt.Sprintf("DoCmd %+v, %d", s, kind), mark, func() []impl.Spot { return impl.DoCmd(c.file, s, rightCmd(kind)).State.Marks }, change)
		}
		s, f := c.state, impl.File{Bytes: bytes.Clone(c.file.Bytes)}
		s.Marks = slices.Clone(c.state.Marks)
		change := func() { overwrite(s.Marks, mark) }
		wantNoSharing(t, fmt.Sprintf("FixState %+v", s), mark, func() []impl.Spot { return impl.FixState(f, s, c.grew).State.Marks }, change)
		change = func() { overwrite(f.Bytes, 'Z') }
		wantNoSharing(t, fmt.Sprintf("Chars of ViewOf %+v", c.state), -7, func() []int64 { return impl.ViewOf(f, c.state).Grid.Chars }, change)
		f.Bytes = bytes.Clone(c.file.Bytes)
		wantNoSharing(t, fmt.Sprintf("High of ViewOf %+v", c.state), true, func() []bool { return impl.ViewOf(f, c.state).Grid.High }, change)
	}
}

func TestAnswersOfLooksHangOnTheArgumentsAlone(t *testing.T) {
	cases := lookCases()
	first := make([]string, len(cases))
	for i := range cases {
		first[i] = cases[i].asked()
	}
	var group sync.WaitGroup
	for range 4 {
		group.Go(func() {
			for i := range slices.Backward(cases) {
				if again := cases[i].asked(); again != first[i] {
					t.Errorf("%+v was answered in two ways:\n%s\n%s", cases[i], first[i], again)
				}
			}
		})
	}
	group.Wait()
}
