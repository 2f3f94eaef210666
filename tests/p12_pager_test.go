package tests

import (
	"fmt"
	"math/rand"
	"slices"
	"strings"
	"testing"

	"loop.example/g00414/impl"
)

// Promise 12: whatever one does the state has no fault; behind whatever a file becomes one is somewhere in it, and there where
// one was, if that is still there; what is seen shows the rows from the top on, and a cell is high just where one of its bytes
// is in a span of the pattern.

// linesTold are the lines of a file.
func linesTold(file string) []string {
	if file == "" {
		return nil
	}
	return strings.Split(strings.TrimSuffix(file, "\n"), "\n")
}

// heldTold draws the top back along the list of all spots.
func heldTold(file string, s impl.State) impl.State {
	spots := spotsTold(file, s.Layout)
	last := max(0, len(spots)-int(s.Height))
	s.Spot = spots[min(slices.Index(spots, s.Spot), last)]
	return s
}

// goneBy goes over the list of all spots.
func goneBy(file string, s impl.State, rows int64) impl.State {
	spots := spotsTold(file, s.Layout)
	to := slices.Index(spots, s.Spot) + int(rows)
	s.Spot = spots[min(max(to, 0), len(spots)-1)]
	return s
}

// againTold takes the last spot that is not above what is asked for: first by its line, then by its row.
func againTold(file string, s impl.State) impl.State {
	var found impl.Spot
	spots := spotsTold(file, s.Layout)
	for _, spot := range spots {
		if spot.Line <= s.Spot.Line {
			found.Line = spot.Line
		}
	}
	for _, spot := range spots {
		if spot.Line == found.Line && spot.Row <= s.Spot.Row {
			found.Row = spot.Row
		}
	}
	s.Spot = found
	return heldTold(file, s)
}

func endTold(file string, s impl.State) impl.State {
	spots := spotsTold(file, s.Layout)
	s.Spot = spots[max(0, len(spots)-int(s.Height))]
	return s
}

// lineTold is what Next and Prev do.
func lineTold(file string, s impl.State, count int64, back bool) impl.State {
	if s.Pattern == "" {
		s.Note = "no pattern"
		return s
	}
	var hits []bool
	for _, line := range linesTold(file) {
		hits = append(hits, hasTold(compiled(s.Pattern), line))
	}
	found := findTold(hits, s.Spot.Line, count, back)
	if found.Code != impl.OK {
		s.Note = "not found"
		return s
	}
	s.Spot = impl.Spot{Line: found.Value}
	return s
}

// doTold is what a command makes of a state; neither has a fault.
func doTold(file string, s impl.State, c impl.Cmd) impl.State {
	s.Marks, s.Note = slices.Clone(s.Marks), ""
	switch c.Kind {
	case impl.CmdDown:
		return heldTold(file, goneBy(file, s, c.Count))
	case impl.CmdUp:
		return heldTold(file, goneBy(file, s, -c.Count))
	case impl.CmdTop:
		s.Spot = impl.Spot{Line: c.Count}
		return againTold(file, s)
	case impl.CmdEnd:
		return endTold(file, s)
	case impl.CmdChop:
		s.Layout, s.Spot.Row = impl.Layout{Width: s.Layout.Width, Chop: !s.Layout.Chop}, 0
		return heldTold(file, s)
	case impl.CmdLeft, impl.CmdRight:
		by := c.Count
		if c.Kind == impl.CmdLeft {
			by = -by
		}
		if s.Layout.Chop {
			s.Layout.Shift = max(0, min(400, s.Layout.Shift+by))
		}
		return s
	case impl.CmdFind:
		return findingTold(file, s, c.Text)
	case impl.CmdNext, impl.CmdPrev:
		return lineTold(file, s, c.Count, c.Kind == impl.CmdPrev)
	case impl.CmdSize:
		s.Height, s.Layout.Width, s.Spot.Row = c.Count, c.Wide, 0
		return heldTold(file, s)
	case impl.CmdMark:
		s.Marks[c.Count] = s.Spot
		return s
	case impl.CmdGo:
		s.Spot = s.Marks[c.Count]
		return againTold(file, s)
	}
	if s.Follow = !s.Follow; s.Follow {
		return endTold(file, s)
	}
	return s
}

func findingTold(file string, s impl.State, text string) impl.State {
	if impl.ParsePattern(text).Code != impl.OK {
		s.Note = "bad pattern"
		return s
	}
	if s.Pattern = text; text == "" {
		return s
	}
	return lineTold(file, s, 1, false)
}

// fixTold is what a state becomes of which the spot alone may have a fault.
func fixTold(file string, s impl.State, grew bool) impl.State {
	s.Marks = slices.Clone(s.Marks)
	if !slices.Contains(spotsTold(file, s.Layout), s.Spot) {
		s = againTold(file, s)
	}
	if grew && s.Follow {
		s = endTold(file, s)
	}
	return s
}

func statusTold(file string, s impl.State) string {
	text := fmt.Sprintf("%d/%d", s.Spot.Line+1, len(linesTold(file)))
	switch {
	case s.Note != "":
		return s.Note
	case file == "":
		return "(no lines)"
	case s.Follow:
		return text + " follow"
	}
	return text
}

// viewTold is made place by place.
func viewTold(file string, s impl.State) impl.Grid {
	g := impl.Grid{Width: s.Layout.Width}
	put := func(char int64, isHigh bool) { g.Chars, g.High = append(g.Chars, char), append(g.High, isHigh) }
	spots, lines := spotsTold(file, s.Layout), linesTold(file)
	from := slices.Index(spots, s.Spot)
	for y := range int(s.Height) {
		var row []impl.Cell
		var marked []int64
		isThere := len(lines) > 0 && from+y < len(spots)
		if isThere {
			line := lines[spots[from+y].Line]
			row = rowsTold(line, s.Layout)[spots[from+y].Row]
			if s.Pattern != "" {
				marked = markTold(firstTold(impl.ParsePattern(s.Pattern).Nodes, line), int64(len(line)))
			}
		}
		for x := range int(g.Width) {
			switch {
			case !isThere && x == 0:
				put('~', false)
			case x < len(row):
				isMarked := func(place int64) bool { return place >= row[x].From && place < row[x].From+row[x].Size }
				put(row[x].Char, slices.ContainsFunc(marked, isMarked))
			default:
				put(' ', false)
			}
		}
	}
	for x, status := 0, statusTold(file, s); x < int(g.Width); x++ {
		if x < len(status) {
			put(int64(status[x]), false)
		} else {
			put(' ', false)
		}
	}
	return g
}

// wantOfLook asks all that is asked of a state without a fault.
func wantOfLook(t *testing.T, file string, s impl.State) {
	t.Helper()
	f, call := fileOf(file), fmt.Sprintf("%q, %+v", file, s)
	want(t, "StateFault "+call, impl.StateFault(f, s), int64(impl.OK))
	want(t, "SpotFault "+call, impl.SpotFault(f, s.Layout, s.Spot), int64(impl.OK))
	want(t, "StatusOf "+call, impl.StatusOf(f, s), impl.TextResult{Text: statusTold(file, s)})
	view := impl.ViewOf(f, s)
	want(t, "ViewOf "+call, view, impl.GridResult{Grid: viewTold(file, s)})
	want(t, "GridFault of ViewOf "+call, impl.GridFault(view.Grid), int64(impl.OK))
	want(t, "how many places there are, "+call, int64(len(view.Grid.Chars)), (s.Height+1)*s.Layout.Width)
}

// wantOfDo asks for what a command does, and tells what becomes of the state.
func wantOfDo(t *testing.T, file string, s impl.State, c impl.Cmd) impl.State {
	t.Helper()
	call := fmt.Sprintf("DoCmd %q, %+v, %+v", file, s, c)
	want(t, "CmdFault "+call, impl.CmdFault(c), int64(impl.OK))
	got := impl.DoCmd(fileOf(file), s, c)
	want(t, call, got, impl.StateResult{State: doTold(file, s, c)})
	want(t, "StateFault of "+call, impl.StateFault(fileOf(file), got.State), int64(impl.OK))
	return got.State
}

// wantOfFix asks for what becomes of a state, and that one is where one was, if that is there.
func wantOfFix(t *testing.T, file string, s impl.State, grew bool) impl.State {
	t.Helper()
	call := fmt.Sprintf("FixState %q, %+v, %v", file, s, grew)
	got := impl.FixState(fileOf(file), s, grew)
	want(t, call, got, impl.StateResult{State: fixTold(file, s, grew)})
	want(t, "StateFault of "+call, impl.StateFault(fileOf(file), got.State), int64(impl.OK))
	isThere := impl.SpotFault(fileOf(file), s.Layout, s.Spot) == impl.OK
	if isThere && !(grew && s.Follow) && got.State.Spot != s.Spot {
		t.Errorf("%s goes to %v", call, got.State.Spot)
	}
	return got.State
}

// shownState has of a state what is not as it was in the beginning.
func shownState(s impl.State) string {
	text := fmt.Sprintf("%d.%d", s.Spot.Line, s.Spot.Row)
	if s.Layout.Chop || s.Layout.Shift != 0 {
		text += fmt.Sprintf(" chop %d", s.Layout.Shift)
	}
	if s.Follow {
		text += " follow"
	}
	if s.Pattern != "" {
		text += " /" + s.Pattern
	}
	if s.Note != "" {
		text += " (" + s.Note + ")"
	}
	return text
}

// doneFrom does commands that stand in a text with ; between.
func doneFrom(t *testing.T, file string, s impl.State, commands string) impl.State {
	t.Helper()
	for _, command := range strings.Split(commands, "; ") {
		if command != "" {
			s = wantOfDo(t, file, s, cmdOf(command))
		}
	}
	return s
}

// Of shortFile the spots are 0.0 0.1 0.2 1.0 2.0, where a row has 4 cells; with two rows the last top is 1.0.
const shortFile = "abcdefghi\n\nxy\n"

// Of longEnd they are 0.0 1.0 1.1 1.2 1.3.
const longEnd = "ab\nabcdefghijklmnop"

// wantOfDone asks for what becomes of states of a width of 4 cells.
func wantOfDone(t *testing.T, rows []doneRow) {
	t.Helper()
	for _, row := range rows {
		s := doneFrom(t, row.file, lookAt(row.height, 4), row.commands)
		want(t, fmt.Sprintf("%q, %d rows: %s", row.file, row.height, row.commands), shownState(s), row.shown)
	}
}

// doneRow is what becomes of a new state by commands.
type doneRow struct {
	file     string
	height   int64
	commands string
	shown    string
}

func TestGoingOverRows(t *testing.T) {
	wantOfDone(t, []doneRow{
		{shortFile, 2, "", "0.0"}, {shortFile, 2, "down 1", "0.1"}, {shortFile, 2, "down 2", "0.2"}, {shortFile, 2, "down 3", "1.0"}, {shortFile, 2, "down 1; down 1; down 1", "1.0"},
		// Over the end, and where one is already there.
		{shortFile, 2, "down 4", "1.0"}, {shortFile, 2, "down 5", "1.0"}, {shortFile, 2, "down 999", "1.0"}, {shortFile, 2, "end; down 1", "1.0"}, {shortFile, 2, "end; down 999", "1.0"}, {shortFile, 1, "down 999", "2.0"}, {shortFile, 1, "down 4", "2.0"}, {shortFile, 3, "down 999", "0.2"}, {shortFile, 4, "down 4", "0.1"}, {shortFile, 5, "down 1", "0.0"}, {shortFile, 6, "down 1", "0.0"}, {shortFile, 12, "down 999", "0.0"},
		{shortFile, 2, "up 1", "0.0"}, {shortFile, 2, "up 999", "0.0"}, {shortFile, 2, "down 3; up 1", "0.2"}, {shortFile, 2, "down 3; up 2", "0.1"}, {shortFile, 2, "down 3; up 3", "0.0"}, {shortFile, 2, "down 3; up 4", "0.0"}, {shortFile, 2, "down 999; up 1", "0.2"},
		// From where it is not held: Down leads back, Up to what is held, or not so far.
		{shortFile, 2, "find y", "2.0 /y"}, {shortFile, 2, "find y; down 1", "1.0 /y"}, {shortFile, 2, "find y; down 999", "1.0 /y"}, {shortFile, 2, "find y; up 1", "1.0 /y"}, {shortFile, 2, "find y; up 2", "0.2 /y"}, {shortFile, 3, "find y; up 1", "0.2 /y"}, {shortFile, 4, "find y; up 1", "0.1 /y"}, {shortFile, 4, "find y; up 999", "0.0 /y"}, {shortFile, 12, "find y; down 1", "0.0 /y"}, {shortFile, 12, "find y; up 1", "0.0 /y"}, {"a\nb\nc\nd\ne\n", 4, "find c; down 1", "1.0 /c"}, {"a\nb\nc\nd\ne\n", 4, "find c; up 1", "1.0 /c"}, {"a\nb\nc\nd\ne\n", 4, "find c; end", "1.0 /c"},
		// To lines.
		{shortFile, 2, "top 0", "0.0"}, {shortFile, 2, "down 2; top 0", "0.0"}, {shortFile, 2, "top 1", "1.0"}, {shortFile, 2, "top 2", "1.0"}, {shortFile, 2, "top 3", "1.0"}, {shortFile, 2, "top 999", "1.0"}, {shortFile, 1, "top 1", "1.0"}, {shortFile, 1, "top 2", "2.0"}, {shortFile, 1, "top 3", "2.0"}, {shortFile, 1, "top 999", "2.0"}, {shortFile, 3, "top 1", "0.2"}, {shortFile, 4, "top 2", "0.1"}, {shortFile, 12, "top 2", "0.0"},
		{longEnd, 1, "top 1", "1.0"}, {longEnd, 1, "top 2", "1.0"}, {longEnd, 1, "end; top 1", "1.0"}, {longEnd, 1, "end; top 999", "1.0"}, {longEnd, 4, "top 1", "1.0"}, {longEnd, 5, "top 1", "0.0"}, {longEnd, 5, "top 2", "0.0"},
		// To the end.
		{shortFile, 1, "end", "2.0"}, {shortFile, 2, "end", "1.0"}, {shortFile, 3, "end", "0.2"}, {shortFile, 12, "end", "0.0"}, {longEnd, 1, "end", "1.3"}, {longEnd, 2, "end", "1.2"}, {longEnd, 4, "end", "1.0"}, {longEnd, 5, "end", "0.0"}, {longEnd, 2, "end; end", "1.2"}, {shortFile, 2, "find y; end", "1.0 /y"}, {shortFile, 3, "end; top 0; end", "0.2"},
		// Without lines, with lines that have nothing in them, with one that is not ended.
		{"", 1, "down 1", "0.0"}, {"", 12, "down 999", "0.0"}, {"", 2, "up 1", "0.0"}, {"", 2, "top 0", "0.0"}, {"", 2, "top 1", "0.0"}, {"", 1, "top 999", "0.0"}, {"", 2, "end", "0.0"}, {"\n", 1, "down 1", "0.0"}, {"\n", 1, "top 1", "0.0"}, {"\n\n", 1, "down 1", "1.0"}, {"\n\n", 2, "down 1", "0.0"}, {"\n\n\n", 2, "top 2", "1.0"}, {"a\nb", 1, "end", "1.0"}, {"a\nb\n", 1, "end", "1.0"}, {"a\nb\n", 1, "top 2", "1.0"},
	})
}

func TestChoppedStates(t *testing.T) {
	wantOfDone(t, []doneRow{
		// There and back; the row is the first one then, and what was held is held.
		{shortFile, 2, "chop", "0.0 chop 0"}, {shortFile, 2, "chop; chop", "0.0"}, {shortFile, 2, "down 2; chop", "0.0 chop 0"}, {shortFile, 2, "down 2; chop; chop", "0.0"}, {shortFile, 2, "end; chop", "1.0 chop 0"}, {shortFile, 1, "end; chop", "2.0 chop 0"}, {shortFile, 3, "end; chop", "0.0 chop 0"}, {longEnd, 1, "end; chop", "1.0 chop 0"}, {longEnd, 2, "end; chop", "0.0 chop 0"}, {longEnd, 2, "end; chop; chop", "0.0"}, {longEnd, 1, "end; chop; chop", "1.0"}, {longEnd, 4, "top 1; chop", "0.0 chop 0"}, {"a\nb\nabcdefgh", 2, "end", "2.0"}, {"a\nb\nabcdefgh", 2, "end; chop", "1.0 chop 0"}, {"a\nb\nabcdefgh", 2, "end; chop; chop", "1.0"}, {"", 2, "chop", "0.0 chop 0"}, {"", 2, "chop; chop", "0.0"},
		// With a Shift: chopped anew one sees all from the first cell on.
		{shortFile, 2, "chop; right 5; chop", "0.0"}, {shortFile, 2, "chop; right 5; chop; chop", "0.0 chop 0"}, {shortFile, 2, "chop; right 400; chop; right 1", "0.0"}, {shortFile, 2, "find y; chop", "1.0 chop 0 /y"}, {shortFile, 2, "chop; find y", "2.0 chop 0 /y"}, {shortFile, 2, "chop; find y; chop", "1.0 /y"}, {shortFile, 1, "chop; down 2; chop", "2.0"},
		// Without Chop nothing is shifted.
		{shortFile, 2, "right 1", "0.0"}, {shortFile, 2, "left 1", "0.0"}, {shortFile, 2, "right 400", "0.0"}, {shortFile, 2, "left 400", "0.0"}, {shortFile, 2, "down 1; right 3; left 1", "0.1"}, {"", 2, "right 1", "0.0"},
		// With it, to the bounds and over them.
		{shortFile, 2, "chop; right 1", "0.0 chop 1"}, {shortFile, 2, "chop; right 3; right 4", "0.0 chop 7"}, {shortFile, 2, "chop; right 399", "0.0 chop 399"}, {shortFile, 2, "chop; right 399; right 1", "0.0 chop 400"}, {shortFile, 2, "chop; right 399; right 2", "0.0 chop 400"}, {shortFile, 2, "chop; right 400", "0.0 chop 400"}, {shortFile, 2, "chop; right 400; right 400", "0.0 chop 400"}, {shortFile, 2, "chop; right 1; right 400", "0.0 chop 400"},
		{shortFile, 2, "chop; left 1", "0.0 chop 0"}, {shortFile, 2, "chop; left 400", "0.0 chop 0"}, {shortFile, 2, "chop; right 3; left 1", "0.0 chop 2"}, {shortFile, 2, "chop; right 3; left 2", "0.0 chop 1"}, {shortFile, 2, "chop; right 3; left 3", "0.0 chop 0"}, {shortFile, 2, "chop; right 3; left 4", "0.0 chop 0"}, {shortFile, 2, "chop; right 3; left 400", "0.0 chop 0"}, {shortFile, 2, "chop; right 400; left 399", "0.0 chop 1"}, {shortFile, 2, "chop; right 400; left 400", "0.0 chop 0"}, {"", 2, "chop; right 9; left 4", "0.0 chop 5"},
		// Where it is not held it stays so.
		{shortFile, 2, "chop; find y; right 3", "2.0 chop 3 /y"}, {shortFile, 2, "chop; find y; right 3; left 1", "2.0 chop 2 /y"}, {shortFile, 2, "find y; right 3", "2.0 /y"}, {shortFile, 2, "find y; left 3", "2.0 /y"},
		{shortFile, 1, "chop; right 2; down 1", "1.0 chop 2"}, {shortFile, 2, "chop; right 2; end", "1.0 chop 2"}, {shortFile, 2, "chop; right 2; end; down 1", "1.0 chop 2"}, {shortFile, 1, "chop; right 2; top 2; up 1", "1.0 chop 2"},
	})
}

func TestFindingAndGoingOn(t *testing.T) {
	const file = "a\nb\nc\nbb\n"
	many := strings.Repeat("b", impl.MaxPattern)
	wantOfDone(t, []doneRow{
		// From behind the top on; what is found is not held.
		{file, 3, "find b", "1.0 /b"}, {file, 3, "find b; next 1", "3.0 /b"}, {file, 3, "find b; next 2", "1.0 /b"}, {file, 3, "find b; next 3", "3.0 /b"}, {file, 3, "find b; next 1; next 1", "1.0 /b"}, {file, 3, "find b; find b", "3.0 /b"}, {file, 3, "find bb", "3.0 /bb"}, {file, 12, "find bb", "3.0 /bb"}, {file, 1, "find a", "0.0 /a"}, {file, 1, "find a; next 1", "0.0 /a"}, {file, 1, "end; find a", "0.0 /a"}, {file, 1, "find ^", "1.0 /^"}, {file, 1, "find ^$", "0.0 /^$ (not found)"},
		// Back.
		{file, 3, "find b; prev 1", "3.0 /b"}, {file, 3, "find b; prev 2", "1.0 /b"}, {file, 3, "find b; next 1; prev 1", "1.0 /b"}, {file, 3, "find c; find b; prev 1", "1.0 /b"}, {file, 2, "find a; prev 999", "0.0 /a"},
		// Counts that are greater than there are lines.
		{file, 3, "find b; next 998", "1.0 /b"}, {file, 3, "find b; next 999", "3.0 /b"}, {file, 3, "find b; prev 998", "1.0 /b"}, {file, 3, "find b; prev 999", "3.0 /b"}, {file, 3, "find b; next 5", "3.0 /b"},
		// Without a pattern, and an empty one.
		{file, 1, "next 1", "0.0 (no pattern)"}, {file, 1, "prev 999", "0.0 (no pattern)"}, {file, 1, "down 2; next 1", "2.0 (no pattern)"}, {file, 1, "find ", "0.0"}, {file, 1, "down 1; find ", "1.0"}, {file, 3, "find b; find ", "1.0"}, {file, 3, "find b; find ; next 1", "1.0 (no pattern)"}, {file, 3, "find bb; find ", "3.0"}, {"", 1, "find ", "0.0"}, {"", 1, "next 1", "0.0 (no pattern)"},
		// One that is not found takes the place of what was found; a bad one does not.
		{file, 1, "find x", "0.0 /x (not found)"}, {file, 1, "down 1; find x", "1.0 /x (not found)"}, {file, 1, "find x; next 1", "0.0 /x (not found)"}, {file, 1, "find x; prev 1", "0.0 /x (not found)"}, {file, 3, "find b; find x", "1.0 /x (not found)"}, {file, 3, "find b; find (", "1.0 /b (bad pattern)"}, {file, 3, "find b; find (; next 1", "3.0 /b"}, {file, 1, "find *", "0.0 (bad pattern)"}, {file, 1, "down 1; find )", "1.0 (bad pattern)"}, {file, 1, "find [", "0.0 (bad pattern)"}, {file, 1, "find \\", "0.0 (bad pattern)"}, {file, 1, "find b\n", "0.0 (bad pattern)"}, {file, 1, "find \x1f", "0.0 (bad pattern)"}, {file, 1, "find \x7f", "0.0 (bad pattern)"}, {file, 1, "find \xc3\xa4", "0.0 (bad pattern)"}, {file, 1, "find " + many, "0.0 (bad pattern)"}, {file, 1, "find " + many[:13], "0.0 (bad pattern)"}, {file, 1, "find " + many[:12], "0.0 /" + many[:12] + " (not found)"}, {file, 1, "find [" + many[:58] + "]", "1.0 /[" + many[:58] + "]"}, {"", 1, "find (", "0.0 (bad pattern)"}, {"", 1, "find b", "0.0 /b (not found)"}, {"", 1, "find b; next 1", "0.0 /b (not found)"}, {"", 1, "find b; prev 999", "0.0 /b (not found)"}, {"", 1, "find ^$", "0.0 /^$ (not found)"},
		// Row 0 of the line, from whichever row; a line in whose midst one is, is the last one that is tried.
		{longEnd, 2, "end; next 1", "1.2 (no pattern)"}, {longEnd, 2, "find p; end; next 1", "1.0 /p"}, {longEnd, 2, "find p; end; prev 1", "1.0 /p"}, {longEnd, 2, "find a; end; next 1", "0.0 /a"}, {longEnd, 2, "find a; end; prev 1", "0.0 /a"}, {longEnd, 1, "find b", "1.0 /b"}, {shortFile, 12, "find x", "2.0 /x"}, {"b", 1, "find b; next 1", "0.0 /b"}, {"b\n", 12, "find b; prev 1", "0.0 /b"}, {"a\nb", 12, "find b", "1.0 /b"}, {"\n\nb", 12, "find ^$", "1.0 /^$"}, {"\n\nb", 12, "find ^$; next 1", "0.0 /^$"},
		// A note is gone behind whatever says nothing.
		{file, 1, "next 1; down 1", "1.0"}, {file, 1, "next 1; up 1", "0.0"}, {file, 1, "next 1; top 0", "0.0"}, {file, 1, "next 1; end", "3.0"}, {file, 1, "next 1; chop", "0.0 chop 0"}, {file, 1, "next 1; left 1", "0.0"}, {file, 1, "next 1; right 1", "0.0"}, {file, 1, "next 1; find b", "1.0 /b"}, {file, 1, "find x; find b", "1.0 /b"}, {file, 1, "find b; find (; prev 1", "3.0 /b"}, {file, 1, "find (; find ", "0.0"}, {file, 1, "next 1; size 1 4", "0.0"}, {file, 1, "next 1; mark 0", "0.0"}, {file, 1, "next 1; go 0", "0.0"}, {file, 1, "next 1; follow", "3.0 follow"}, {file, 1, "follow; next 1; follow", "3.0"}, {file, 1, "find (; next 1", "0.0 (no pattern)"},
	})
}

func TestSizesAndMarks(t *testing.T) {
	for _, row := range []struct {
		file     string
		commands string
		shown    string
		height   int64
		width    int64
	}{
		// Of fewer rows and of more, narrower and wider; held, and at the first row of the line.
		{shortFile, "size 1 4", "0.0", 1, 4}, {shortFile, "size 12 40", "0.0", 12, 40}, {shortFile, "end; size 1 4", "1.0", 1, 4}, {shortFile, "end; size 3 4", "0.2", 3, 4}, {shortFile, "end; size 5 4", "0.0", 5, 4}, {shortFile, "end; size 12 4", "0.0", 12, 4}, {shortFile, "end; size 2 9", "1.0", 2, 9}, {shortFile, "end; size 3 9", "0.0", 3, 9}, {shortFile, "down 2; size 2 4", "0.0", 2, 4}, {shortFile, "down 2; size 1 5", "0.0", 1, 5}, {longEnd, "end; size 1 4", "1.0", 1, 4}, {longEnd, "end; size 4 4", "1.0", 4, 4}, {longEnd, "end; size 5 4", "0.0", 5, 4}, {longEnd, "end; size 2 40", "0.0", 2, 40}, {longEnd, "end; size 2 8", "1.0", 2, 8}, {longEnd, "end; size 1 40", "1.0", 1, 40},
		{shortFile, "find y; size 2 4", "1.0 /y", 2, 4}, {shortFile, "find y; size 1 4", "2.0 /y", 1, 4}, {shortFile, "chop; right 7; size 1 9", "0.0 chop 7", 1, 9}, {shortFile, "chop; right 7; end; size 3 9", "0.0 chop 7", 3, 9}, {"", "size 3 9", "0.0", 3, 9}, {shortFile, "follow; size 1 4", "1.0 follow", 1, 4}, {shortFile, "size 1 4; size 2 5; size 12 6", "0.0", 12, 6}, {shortFile, "next 1; size 3 4; next 1", "0.0 (no pattern)", 3, 4},
		// Marks of a narrower screen are found again on a wider one.
		{longEnd, "end; mark 0; size 2 8; go 0", "1.0", 2, 8}, {longEnd, "end; mark 3; size 1 8; go 3", "1.1", 1, 8}, {longEnd, "end; mark 3; size 1 40; go 3", "1.0", 1, 40}, {longEnd, "down 2; mark 1; chop; go 1", "0.0 chop 0", 2, 4}, {longEnd, "down 2; mark 1; size 1 4; chop; go 1", "1.0 chop 0", 1, 4},
		{longEnd, "size 1 4; down 4; mark 1; top 0; go 1", "1.3", 1, 4}, {longEnd, "size 1 4; down 4; mark 1; size 3 4; go 1", "1.1", 3, 4},
		// Each mark for itself; what was not marked is line 0, row 0.
		{shortFile, "go 0", "0.0", 2, 4}, {shortFile, "end; go 3", "0.0", 2, 4}, {shortFile, "down 1; mark 0; down 1; mark 1; down 1; mark 2; top 0; mark 3; go 0", "0.1", 2, 4}, {shortFile, "down 1; mark 0; down 1; mark 1; down 1; mark 2; top 0; mark 3; go 1", "0.2", 2, 4}, {shortFile, "down 1; mark 0; down 1; mark 1; down 1; mark 2; top 0; mark 3; go 2", "1.0", 2, 4}, {shortFile, "down 1; mark 0; down 1; mark 1; down 1; mark 2; top 0; mark 3; down 1; go 3", "0.0", 2, 4}, {shortFile, "down 1; mark 0; down 1; mark 0; top 0; go 0", "0.2", 2, 4},
		// What is not held is marked as it is, and is held when one goes there.
		{shortFile, "find y; mark 2; go 2", "1.0 /y", 2, 4}, {shortFile, "find y; mark 2", "2.0 /y", 2, 4}, {shortFile, "find y; mark 2; size 1 4; top 0; go 2", "2.0 /y", 1, 4}, {"", "mark 1; go 1", "0.0", 2, 4},
		// Follow, on and off.
		{shortFile, "follow", "1.0 follow", 2, 4}, {shortFile, "follow; follow", "1.0", 2, 4}, {shortFile, "follow; top 0", "0.0 follow", 2, 4}, {shortFile, "follow; top 0; follow", "0.0", 2, 4}, {shortFile, "follow; top 0; follow; follow", "1.0 follow", 2, 4}, {shortFile, "find y; follow", "1.0 follow /y", 2, 4}, {shortFile, "follow; find y; follow", "2.0 /y", 2, 4}, {"", "follow", "0.0 follow", 2, 4}, {"", "follow; follow", "0.0", 2, 4},
	} {
		s := doneFrom(t, row.file, lookAt(2, 4), row.commands)
		want(t, fmt.Sprintf("%q: %s", row.file, row.commands), shownState(s), row.shown)
		want(t, fmt.Sprintf("Height and Width of %q: %s", row.file, row.commands), [2]int64{s.Height, s.Layout.Width}, [2]int64{row.height, row.width})
	}
	marked := doneFrom(t, shortFile, lookAt(2, 4), "down 1; mark 0; down 1; mark 1; find y; mark 3")
	want(t, "Marks", marked.Marks, []impl.Spot{spotAt("0.1"), spotAt("0.2"), {}, spotAt("2.0")})
	// A mark behind what there is now, by its line and by its row, and one that no file ever had.
	for mark, spots := range map[string][2]string{"0.2": {"0.2", "0.2"}, "0.3": {"0.2", "0.2"}, "0.400": {"0.2", "0.2"}, "1.1": {"1.0", "1.0"}, "2.0": {"2.0", "1.0"}, "2.1": {"2.0", "1.0"}, "3.0": {"2.0", "1.0"}, "400.400": {"2.0", "1.0"}, "400.0": {"2.0", "1.0"}, "0.0": {"0.0", "0.0"}} {
		for place := range impl.MaxMarks {
			for height, spot := range map[int64]string{1: spots[0], 2: spots[1]} {
				s := lookAt(height, 4)
				s.Marks[place] = spotAt(mark)
				got := wantOfDo(t, shortFile, s, impl.Cmd{Kind: impl.CmdGo, Count: int64(place)})
				want(t, fmt.Sprintf("to mark %d at %s, %d rows", place, mark, height), got.Spot, spotAt(spot))
				want(t, "the marks then", got.Marks, s.Marks)
				want(t, "without lines", wantOfDo(t, "", s, impl.Cmd{Kind: impl.CmdGo, Count: int64(place)}).Spot, impl.Spot{})
			}
		}
	}
	far := lookAt(1, 4)
	far.Marks[1] = spotAt("9.2")
	want(t, "a row of the last line", wantOfDo(t, longEnd, far, cmdOf("go 1")).Spot, spotAt("1.2"))
	want(t, "a row behind those of the last line", wantOfDo(t, longEnd+"\nx", far, cmdOf("go 1")).Spot, spotAt("2.0"))
}

func TestNewStates(t *testing.T) {
	for height := int64(1); height <= 12; height++ {
		for width := int64(4); width <= 40; width++ {
			got := impl.NewState(height, width)
			want(t, fmt.Sprintf("NewState %d, %d", height, width), got, impl.StateResult{State: lookAt(height, width)})
			for _, file := range []string{"", "\n", shortFile} {
				want(t, fmt.Sprintf("StateFault of NewState %d, %d", height, width), impl.StateFault(fileOf(file), got.State), int64(impl.OK))
			}
		}
	}
}

func TestFilesThatBecomeOthers(t *testing.T) {
	for _, row := range []struct {
		file   string
		height int64
		spot   string
		follow bool
		grew   bool
		to     string
	}{
		// What is still there: held or not, the file greater or smaller.
		{shortFile, 2, "0.0", false, false, "0.0"}, {shortFile, 2, "0.2", false, true, "0.2"}, {shortFile, 2, "1.0", false, false, "1.0"}, {shortFile, 2, "2.0", false, false, "2.0"}, {shortFile, 12, "2.0", false, true, "2.0"}, {shortFile + "a\nb\nc\n", 2, "2.0", false, true, "2.0"}, {"abcde\n", 12, "0.1", false, false, "0.1"}, {"", 1, "0.0", false, true, "0.0"},
		// Lines that are gone, and rows: held then.
		{shortFile, 2, "3.0", false, false, "1.0"}, {shortFile, 1, "3.0", false, false, "2.0"}, {shortFile, 12, "3.0", false, true, "0.0"}, {shortFile, 1, "2.1", false, false, "2.0"}, {shortFile, 2, "2.1", false, false, "1.0"}, {shortFile, 2, "0.3", false, false, "0.2"}, {shortFile, 2, "0.400", false, false, "0.2"}, {shortFile, 4, "0.3", false, false, "0.1"}, {shortFile, 2, "1.1", false, false, "1.0"}, {shortFile, 3, "1.1", false, true, "0.2"}, {shortFile, 1, "400.400", false, false, "2.0"}, {shortFile, 1, "9223372036854775807.0", false, false, "2.0"}, {shortFile, 1, "0.9223372036854775807", false, false, "0.2"}, {longEnd, 1, "2.2", false, false, "1.2"}, {longEnd, 1, "2.9", false, false, "1.3"}, {longEnd, 4, "2.2", false, false, "1.0"},
		// Without lines.
		{"", 2, "1.0", false, false, "0.0"}, {"", 2, "0.1", false, true, "0.0"}, {"", 2, "2.1", false, false, "0.0"}, {"", 2, "-1.0", false, false, "0.0"}, {"", 2, "0.-1", true, true, "0.0"}, {"", 2, "0.0", true, true, "0.0"},
		// Below 0.
		{shortFile, 2, "-1.0", false, false, "0.0"}, {shortFile, 2, "-1.1", false, false, "0.1"}, {shortFile, 2, "-1.9", false, false, "0.2"}, {shortFile, 2, "1.-1", false, false, "1.0"}, {shortFile, 2, "2.-1", false, false, "1.0"}, {shortFile, 2, "0.-1", false, true, "0.0"}, {shortFile, 2, "-1.-1", false, false, "0.0"}, {shortFile, 2, "3.-1", false, false, "1.0"}, {shortFile, 1, "-9223372036854775808.-9223372036854775808", false, false, "0.0"}, {shortFile, 1, "9223372036854775807.-9223372036854775808", false, false, "2.0"}, {shortFile, 1, "-9223372036854775808.9223372036854775807", false, true, "0.2"},
		// With Follow, but not grew; with both, wherever one was.
		{shortFile, 2, "0.0", true, false, "0.0"}, {shortFile, 2, "2.0", true, false, "2.0"}, {shortFile, 2, "3.0", true, false, "1.0"}, {shortFile, 2, "0.0", true, true, "1.0"}, {shortFile, 2, "2.0", true, true, "1.0"}, {shortFile, 2, "9.9", true, true, "1.0"}, {shortFile, 1, "0.1", true, true, "2.0"}, {shortFile, 12, "2.0", true, true, "0.0"}, {shortFile, 2, "0.-1", true, true, "1.0"}, {longEnd, 2, "0.0", true, true, "1.2"}, {shortFile, 2, "-1.0", true, false, "0.0"},
	} {
		s := lookAt(row.height, 4)
		s.Spot, s.Follow, s.Pattern, s.Note, s.Marks[2] = spotAt(row.spot), row.follow, "y", "what was said", spotAt("400.3")
		got := wantOfFix(t, row.file, s, row.grew)
		asked := s
		asked.Spot = spotAt(row.to)
		want(t, fmt.Sprintf("FixState %q, %+v, %v", row.file, s, row.grew), got, asked)
		wantOfLook(t, row.file, got)
	}
	chopped := lookAt(1, 4)
	chopped.Layout.Chop, chopped.Layout.Shift, chopped.Spot = true, 7, spotAt("0.2")
	want(t, "a row of what is chopped", wantOfFix(t, shortFile, chopped, false).Spot, impl.Spot{})
}

func TestWhatIsSaidInTheLastRow(t *testing.T) {
	many := strings.Repeat("\n", impl.MaxBytes)
	for _, row := range []struct {
		file     string
		commands string
		status   string
	}{
		{shortFile, "", "1/3"}, {shortFile, "down 1", "1/3"}, {shortFile, "end", "2/3"}, {shortFile, "find y", "3/3"}, {shortFile, "follow", "2/3 follow"}, {shortFile, "follow; top 0", "1/3 follow"}, {shortFile, "follow; follow", "2/3"}, {shortFile, "size 1 4; follow", "3/3 follow"}, {shortFile, "chop; end", "2/3"},
		{"", "", "(no lines)"}, {"", "follow", "(no lines)"}, {"", "next 1", "no pattern"}, {"", "find b", "not found"}, {"\n", "", "1/1"}, {"a", "", "1/1"}, {"a\nb", "", "1/2"}, {"a\n\n", "", "1/2"},
		{shortFile, "next 1", "no pattern"}, {shortFile, "follow; prev 1", "no pattern"}, {shortFile, "find (", "bad pattern"}, {shortFile, "find z", "not found"}, {shortFile, "follow; find z", "not found"}, {shortFile, "find z; down 1", "1/3"},
		{many, "", "1/400"}, {many, "end", "399/400"}, {many, "size 1 4; end", "400/400"}, {many, "size 1 40; follow", "400/400 follow"}, {many, "top 8", "9/400"}, {many, "top 9", "10/400"}, {many, "top 99", "100/400"}, {strings.Repeat("a\n", 99), "size 1 4; end", "99/99"},
	} {
		s := doneFrom(t, row.file, lookAt(2, 4), row.commands)
		want(t, fmt.Sprintf("StatusOf %q: %s", row.file, row.commands), impl.StatusOf(fileOf(row.file), s), impl.TextResult{Text: row.status})
		wantOfLook(t, row.file, s)
	}
}

// gridOf reads a grid: its rows with | between, and below each place whether it is high; a # says so.
func gridOf(width int64, chars string, high string) impl.Grid {
	g := impl.Grid{Width: width}
	for _, char := range strings.ReplaceAll(chars, "|", "") {
		g.Chars = append(g.Chars, int64(char))
	}
	for _, sign := range strings.ReplaceAll(high, "|", "") {
		g.High = append(g.High, sign == '#')
	}
	return g
}

func TestWhatIsSeen(t *testing.T) {
	for _, row := range []struct {
		file     string
		commands string
		chars    string
		high     string
	}{
		{shortFile, "", "abcd|efgh|1/3 ", "    |    |    "}, {shortFile, "down 1", "efgh|i   |1/3 ", "    |    |    "}, {shortFile, "down 2", "i   |    |1/3 ", "    |    |    "}, {shortFile, "end", "    |xy  |2/3 ", "    |    |    "},
		// Rows behind the last one.
		{shortFile, "find y", "xy  |~   |3/3 ", " #  |    |    "}, {"a", "", "a   |~   |1/1 ", "    |    |    "}, {"\n", "", "    |~   |1/1 ", "    |    |    "}, {"a\n", "find a", "a   |~   |1/1 ", "#   |    |    "}, {"~", "find ~", "~   |~   |1/1 ", "#   |    |    "}, {"", "", "~   |~   |(no ", "    |    |    "}, {"", "find ^", "~   |~   |not ", "    |    |    "}, {"", "find ^; down 1", "~   |~   |(no ", "    |    |    "},
		// Chopped, with a Shift; what is found ahead of it, at its bounds, behind what is seen.
		{shortFile, "chop", "abcd|    |1/3 ", "    |    |    "}, {shortFile, "chop; right 6", "ghi |    |1/3 ", "    |    |    "}, {shortFile, "chop; right 400", "    |    |1/3 ", "    |    |    "}, {shortFile, "find [c-f]; find c|d|g; chop; right 3", "defg|    |1/3 ", "#  #|    |    "}, {shortFile, "find ab|hi; chop; right 1", "bcde|    |1/3 ", "#   |    |    "}, {"abc\n", "find b+; chop; right 2", "c   |~   |1/1 ", "    |    |    "}, {shortFile, "find y; chop; right 1; down 1", "    |y   |2/3 ", "    |#   |    "},
		// One pattern over two rows, one that ends with a row, and one that begins with one.
		{shortFile, "find def", "abcd|efgh|1/3 ", "   #|##  |    "}, {shortFile, "find cd", "abcd|efgh|1/3 ", "  ##|    |    "}, {shortFile, "find ef", "abcd|efgh|1/3 ", "    |##  |    "}, {shortFile, "find def; down 1", "efgh|i   |1/3 ", "##  |    |    "}, {shortFile, "find .*", "    |xy  |2/3 ", "    |##  |    "}, {shortFile, "find .*; top 0", "abcd|efgh|1/3 ", "####|####|    "},
		// Several cells for one byte: all are high; bytes that are one cell: one of them is enough.
		{"a\x01b", "find a", "a^Ab|~   |1/1 ", "#   |    |    "}, {"a\x01b", "find .", "a^Ab|~   |1/1 ", "####|    |    "}, {"a\x01b", "find [^ab]", "a^Ab|~   |1/1 ", " ## |    |    "}, {"a\xffb", "find [^ab]", "a<FF|>b  |1/1 ", " ###|#   |    "}, {"a\xffb", "find [^ab]; chop; right 3", "F>b |~   |1/1 ", "##  |    |    "}, {"a\xc3\xa4b", "find a.", "aäb |~   |1/1 ", "##  |    |    "}, {"a\xc3\xa4b", "find .b", "aäb |~   |1/1 ", " ## |    |    "}, {"a\xe2\x82\xacb", "find a..b", "a€b |~   |not ", "    |    |    "}, {"a\xe2\x82\xacb", "find a...b", "a€b |~   |1/1 ", "### |    |    "}, {"a\xe2\x82\xacb", "find a..", "a€b |~   |1/1 ", "##  |    |    "}, {"ä\xc3\xa4", "find ^..", "ää  |~   |1/1 ", "#   |    |    "},
		// Tabs: all their cells are of one byte.
		{"a\tb", "find [^a]", "a   |b   |1/1 ", " ###|#   |    "}, {"a\tb", "find b", "a   |b   |1/1 ", "    |#   |    "}, {"ab\tc", "find b.", "ab  |c   |1/1 ", " ###|    |    "}, {"\t", "find .", "    |~   |1/1 ", "####|    |    "}, {"a\tb", "find [^b]; chop; right 2", "  b |~   |1/1 ", "##  |    |    "},
		// Characters that are cut.
		{"\xe2\x82", "find .$", "<E2>|<82>|1/1 ", "    |####|    "}, {"a\xc3", "find a", "a<C3|>   |1/1 ", "#   |    |    "}, {"\xc3a", "find ^.", "<C3>|a   |1/1 ", "####|    |    "},
		// Of nothing: no cell is high; nor is what fills a row.
		{"ab", "find a*", "ab  |~   |1/1 ", "#   |    |    "}, {"ba", "find a*", "ba  |~   |1/1 ", " #  |    |    "}, {"bb", "find a*", "bb  |~   |1/1 ", "    |    |    "}, {"ab", "find ^", "ab  |~   |1/1 ", "    |    |    "}, {"ab", "find b|$", "ab  |~   |1/1 ", " #  |    |    "}, {"ab", "find ()", "ab  |~   |1/1 ", "    |    |    "}, {"a \n", "find  ", "a   |~   |1/1 ", " #  |    |    "}, {"ab", "find a; find ", "ab  |~   |1/1 ", "    |    |    "},
		// A line for itself: what is found ends with it.
		{"a\nb", "find a", "a   |b   |1/2 ", "#   |    |    "}, {"ab\nab\n", "find ^a", "ab  |~   |2/2 ", "#   |    |    "}, {"ab\nab\n", "find b$; top 0", "ab  |ab  |1/2 ", " #  | #  |    "}, {"\r\nb\r", "find [^b]; top 0", "^M  |b^M |1/2 ", "##  | ## |    "},
		// What is said: just as wide as it is, wider, and with what fills it.
		{strings.Repeat("a\n", 10), "", "a   |a   |1/10", "    |    |    "}, {strings.Repeat("a\n", 100), "", "a   |a   |1/10", "    |    |    "}, {shortFile, "next 1", "abcd|efgh|no p", "    |    |    "}, {shortFile, "follow", "    |xy  |2/3 ", "    |    |    "}, {"1/1\n", "find 1", "1/1 |~   |1/1 ", "# # |    |    "},
	} {
		s := doneFrom(t, row.file, lookAt(2, 4), row.commands)
		want(t, fmt.Sprintf("ViewOf %q: %s", row.file, row.commands), impl.ViewOf(fileOf(row.file), s), impl.GridResult{Grid: gridOf(4, row.chars, row.high)})
		wantOfLook(t, row.file, s)
	}
	for width, said := range map[int64]string{4: "(no ", 9: "(no lines", 10: "(no lines)", 11: "(no lines) "} {
		blanks := strings.Repeat(" ", int(width)-1)
		asked := gridOf(width, "~"+blanks+said, strings.Repeat(" ", 2*int(width)))
		want(t, fmt.Sprintf("ViewOf nothing, Width %d", width), impl.ViewOf(impl.File{}, lookAt(1, width)), impl.GridResult{Grid: asked})
	}
	long := lookAt(1, 40)
	long.Note = strings.Repeat("~ ", 20)
	want(t, "a note of 40 bytes", impl.ViewOf(fileOf("~"), long), impl.GridResult{Grid: gridOf(40, "~"+strings.Repeat(" ", 39)+long.Note, strings.Repeat(" ", 80))})
}

// seenFiles are files of narrow texts with lines of all lengths, and those at which cells are easily told wrong.
func seenFiles(random *rand.Rand, count int) []string {
	files := []string{"", "\n", shortFile, longEnd, strings.Repeat("\n", 30), strings.Repeat("a", 90)}
	pieces := append(piecesOfLines(), "\n", "a\n", "b", "ab", "b\n", "\n")
	for len(files) < count {
		var file strings.Builder
		for range random.Intn(60) {
			file.WriteString(pieces[random.Intn(len(pieces))])
		}
		files = append(files, file.String(), strings.ReplaceAll(narrowText(random, random.Intn(80)), "c", "\n"))
	}
	return files
}

// foundTexts are patterns that are found, and such that are not, or are none.
func foundTexts() []string {
	return []string{"", "a", "b+", "a*", "^a", "a$", "^$", ".", ".*", "c|b", "[^a]", "a.", ".b", "[^ -~]", "^", "()", "zz", "(", "b)", "a**", "\n", "\x7f", strings.Repeat("a", impl.MaxPattern), "(a|b)+|$", "\xe2"}
}

// randomCmd has no fault; its numbers are small, or as great as they may be.
func randomCmd(random *rand.Rand) impl.Cmd {
	number := func(least int64, most int64) int64 {
		if random.Intn(4) == 0 {
			return least + random.Int63n(most-least+1)
		}
		return min(most, least+int64(random.Intn(9)))
	}
	c := impl.Cmd{Kind: int64(1 + random.Intn(impl.CmdFollow))}
	switch c.Kind {
	case impl.CmdDown, impl.CmdUp, impl.CmdNext, impl.CmdPrev:
		c.Count = number(1, 999)
	case impl.CmdTop:
		c.Count = number(0, 999)
	case impl.CmdLeft, impl.CmdRight:
		c.Count = number(1, 400)
	case impl.CmdSize:
		c.Count, c.Wide = number(1, 12), number(4, 40)
	case impl.CmdMark, impl.CmdGo:
		c.Count = number(0, 3)
	case impl.CmdFind:
		c.Text = foundTexts()[random.Intn(len(foundTexts()))]
	}
	return c
}

// becomeOther appends to a file, cuts it, or makes it a wholly other one; it tells whether it grew.
func becomeOther(random *rand.Rand, file string, others []string) (string, bool) {
	switch random.Intn(3) {
	case 0:
		other := others[random.Intn(len(others))]
		return file + other[:min(len(other), impl.MaxBytes-len(file))], true
	case 1:
		return file[:random.Intn(len(file)+1)], false
	}
	return others[random.Intn(len(others))], random.Intn(2) == 0
}

func TestWhateverOneDoesTheStateHasNoFault(t *testing.T) {
	random := rand.New(rand.NewSource(121414))
	files := seenFiles(random, 60)
	for range 600 {
		file := files[random.Intn(len(files))]
		s := impl.NewState(int64(1+random.Intn(12)), int64(4+random.Intn(1+random.Intn(37)))).State
		for range 12 {
			if random.Intn(5) == 0 {
				var grew bool
				file, grew = becomeOther(random, file, files)
				s = wantOfFix(t, file, s, grew)
			} else {
				s = wantOfDo(t, file, s, randomCmd(random))
			}
			if random.Intn(3) == 0 {
				wantOfLook(t, file, s)
			}
		}
		wantOfLook(t, file, s)
	}
}

func TestBehindEachCutAndEachGrowthOneIsSomewhere(t *testing.T) {
	random := rand.New(rand.NewSource(221414))
	for _, file := range append(shortFiles(4), shortFile, longEnd, "ab\xff\xff\n\t\t\n\n\xe2\x82\xac") {
		for _, follow := range []bool{false, true} {
			l := wide(4)
			if random.Intn(3) == 0 {
				l = chopped(4, 2)
			}
			for _, spot := range spotsTold(file, l) {
				for size := range len(file) + 1 {
					s := lookAt(int64(1+random.Intn(3)), 4)
					s.Layout, s.Spot, s.Follow = l, spot, follow
					cut := wantOfFix(t, file[:size], s, false)
					wantOfLook(t, file[:size], cut)
					// What is there again is where one stays.
					wantOfFix(t, file, cut, true)
				}
			}
		}
	}
}

func TestAsManyLinesAndRowsAsThereMayBe(t *testing.T) {
	for _, piece := range []string{"\n", "a\n", "\xff", "a", "\t", "\xff\n", "\xe2\x82\xac"} {
		file := strings.Repeat(piece, impl.MaxBytes)[:impl.MaxBytes]
		for _, size := range []string{"size 1 4", "size 12 4", "size 12 40"} {
			s := doneFrom(t, file, lookAt(1, 4), size+"; end; mark 0; top 999; mark 1; go 0; up 999; find a$; prev 999; next 999; follow")
			wantOfLook(t, file, s)
			wantOfLook(t, file, doneFrom(t, file, s, "chop; right 400; end; left 1"))
		}
	}
	last := doneFrom(t, strings.Repeat("\xff", impl.MaxBytes), lookAt(1, 4), "end; mark 2")
	want(t, "the last row of all", last.Marks[2], spotAt("0.399"))
	last = doneFrom(t, strings.Repeat("\n", impl.MaxBytes), lookAt(1, 4), "end; mark 2")
	want(t, "the last line of all", last.Marks[2], spotAt("399.0"))
}
