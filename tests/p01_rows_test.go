package tests

import (
	"bytes"
	"fmt"
	"math"
	"math/rand"
	"slices"
	"strings"
	"sync"
	"testing"
	"time"

	"loop.example/g00414/impl"
)

// Promise 1, of chapter 10: every function answers at every argument, ends, and changes none;
// what it answers is new memory; it hangs on the arguments alone.

// wantNoLayout asks all that ask for a fault of a layout, with all else in order or not.
func wantNoLayout(t *testing.T, l impl.Layout, code int64) {
	t.Helper()
	call := fmt.Sprintf("%+v", l)
	want(t, "LayoutFault "+call, impl.LayoutFault(l), code)
	for _, line := range [][]byte{nil, []byte("abc"), make([]byte, 400), make([]byte, 401), make([]byte, 5000)} {
		want(t, fmt.Sprintf("RowCount %s, %d bytes", call, len(line)), impl.RowCount(line, l), impl.IntResult{Code: code})
		for _, row := range []int64{math.MinInt64, -1, 0, 1, 2000, math.MaxInt64} {
			want(t, fmt.Sprintf("RowCells %s, %d bytes, %d", call, len(line), row), impl.RowCells(line, l, row), impl.CellsResult{Code: code})
		}
	}
	for _, file := range []string{"", "\n", "abc", strings.Repeat("a\n", 200)} {
		for _, spot := range []impl.Spot{{}, {Line: 1}, {Row: 1}, {Line: -1, Row: -1}, {Line: math.MaxInt64, Row: math.MinInt64}} {
			want(t, fmt.Sprintf("SpotFault %q, %s, %v", file, call, spot), impl.SpotFault(fileOf(file), l, spot), code)
			for _, rows := range []int64{math.MinInt64, -10000, 0, 1, 10000} {
				want(t, fmt.Sprintf("MoveSpot %q, %s, %v, %d", file, call, spot, rows), impl.MoveSpot(fileOf(file), l, spot, rows), impl.SpotResult{Code: code})
			}
		}
		for _, height := range []int64{math.MinInt64, -1, 0, 1, 20, 21, math.MaxInt64} {
			want(t, fmt.Sprintf("LastTop %q, %s, %d", file, call, height), impl.LastTop(fileOf(file), l, height), impl.SpotResult{Code: code})
		}
	}
}

func TestLayoutsOnTheirBounds(t *testing.T) {
	for width := int64(1); width <= 40; width++ {
		want(t, fmt.Sprintf("LayoutFault of Width %d", width), impl.LayoutFault(wide(width)), int64(impl.OK))
		for shift := int64(0); shift <= 400; shift++ {
			want(t, fmt.Sprintf("LayoutFault of Width %d, chopped, Shift %d", width, shift), impl.LayoutFault(chopped(width, shift)), int64(impl.OK))
		}
		for shift := int64(1); shift <= 400; shift++ {
			want(t, fmt.Sprintf("LayoutFault of Width %d, Shift %d", width, shift), impl.LayoutFault(impl.Layout{Width: width, Shift: shift}), int64(impl.ErrForm))
		}
	}
	for _, width := range []int64{1, 2, 39, 40} {
		for _, shift := range []int64{1, 2, 399, 400} {
			wantNoLayout(t, impl.Layout{Width: width, Shift: shift}, impl.ErrForm)
		}
	}
}

func TestLayoutsThatLeaveTheirBounds(t *testing.T) {
	for _, width := range outside(1, 40) {
		wantNoLayout(t, wide(width), impl.ErrRange)
		wantNoLayout(t, chopped(width, 0), impl.ErrRange)
		wantNoLayout(t, chopped(width, 400), impl.ErrRange)
		// A Shift without Chop is asked of behind all that leaves its bounds.
		wantNoLayout(t, impl.Layout{Width: width, Shift: 1}, impl.ErrRange)
	}
	for _, shift := range outside(0, 400) {
		for _, width := range []int64{1, 40, 0, -1, 41, math.MinInt64} {
			wantNoLayout(t, chopped(width, shift), impl.ErrRange)
			wantNoLayout(t, impl.Layout{Width: width, Shift: shift}, impl.ErrRange)
		}
	}
}

func TestLinesOfRowsThatAreTooLong(t *testing.T) {
	for _, l := range []impl.Layout{wide(1), wide(40), chopped(1, 0), chopped(40, 400)} {
		for _, size := range []int{401, 402, 448, 512, 5000} {
			for _, piece := range []string{"a", "\xff", "\t", "\n"} {
				line := []byte(strings.Repeat(piece, size))
				want(t, fmt.Sprintf("RowCount of %d of %q, %+v", size, piece, l), impl.RowCount(line, l), impl.IntResult{Code: impl.ErrMany})
				for _, row := range append(outside(0, 1600), 0, 1, 400) {
					want(t, fmt.Sprintf("RowCells of %d of %q, %+v, %d", size, piece, l, row), impl.RowCells(line, l, row), impl.CellsResult{Code: impl.ErrMany})
				}
			}
		}
	}
	// What stands in memory behind the end is not of the line.
	line := bytes.Repeat([]byte("a"), 5000)[:5]
	want(t, "RowCount", impl.RowCount(line, wide(2)), impl.IntResult{Value: 3})
}

func TestFilesThatAreTooLongToHaveSpots(t *testing.T) {
	wrong := impl.SpotResult{Code: impl.ErrMany}
	for _, size := range []int{401, 402, 5000} {
		f := impl.File{Bytes: bytes.Repeat([]byte("x\n"), size)[:size]}
		for _, l := range []impl.Layout{wide(1), chopped(40, 400), wide(0), wide(41), chopped(4, 401), {Width: 4, Shift: 1}, {}} {
			for _, number := range append(outside(0, 20), 0, 1, 20) {
				call := fmt.Sprintf("of %d bytes, %+v, %d", size, l, number)
				for _, spot := range []impl.Spot{{Line: number}, {Row: number}, {Line: number, Row: number}} {
					want(t, "SpotFault "+call, impl.SpotFault(f, l, spot), int64(impl.ErrMany))
					want(t, "MoveSpot "+call, impl.MoveSpot(f, l, spot, 1), wrong)
					want(t, "MoveSpot "+call, impl.MoveSpot(f, l, spot, number), wrong)
				}
				want(t, "MoveSpot by "+call, impl.MoveSpot(f, l, impl.Spot{}, number), wrong)
				want(t, "LastTop "+call, impl.LastTop(f, l, number), wrong)
			}
		}
	}
	want(t, "SpotFault", impl.SpotFault(impl.File{Bytes: make([]byte, 3, 5000)}, wide(4), impl.Spot{}), int64(impl.OK))
}

// wantNoSpot asks for the code of a spot that is none, however far one is to go from there.
func wantNoSpot(t *testing.T, file string, l impl.Layout, spot impl.Spot, code int64) {
	t.Helper()
	call := fmt.Sprintf("%q, %+v, %v", file, l, spot)
	want(t, "SpotFault "+call, impl.SpotFault(fileOf(file), l, spot), code)
	for _, rows := range []int64{math.MinInt64, -10000, -9999, -1, 0, 1, 9999, 10000, math.MaxInt64} {
		want(t, fmt.Sprintf("MoveSpot %s, %d", call, rows), impl.MoveSpot(fileOf(file), l, spot, rows), impl.SpotResult{Code: code})
	}
}

func TestSpotsThatAreNone(t *testing.T) {
	for _, l := range []impl.Layout{wide(1), wide(4), chopped(2, 0), chopped(40, 400)} {
		for _, number := range append(outside(0, 0), -400, 400) {
			for _, spot := range []impl.Spot{{Line: number}, {Row: number}, {Line: number, Row: number}, {Line: number, Row: -number}, {Line: 1, Row: number}, {Line: number, Row: 1}} {
				wantNoSpot(t, "", l, spot, impl.ErrNone)
			}
		}
		for file, last := range map[string]impl.Spot{"\n": {}, "a": {}, "\n\n": {Line: 1}, "ab\n": {Row: 1}, "a\n\nbcdef": {Line: 2, Row: 4}} {
			for _, number := range append(outside(0, last.Line), -400, 400) {
				wantNoSpot(t, file, l, impl.Spot{Line: number}, impl.ErrRange)
				wantNoSpot(t, file, l, impl.Spot{Line: number, Row: last.Row}, impl.ErrRange)
				wantNoSpot(t, file, l, impl.Spot{Line: number, Row: number}, impl.ErrRange)
			}
			for _, number := range append(outside(0, last.Row), -400, 400) {
				wantNoSpot(t, file, l, impl.Spot{Line: last.Line, Row: number}, impl.ErrRange)
				wantNoSpot(t, file, l, impl.Spot{Row: number}, impl.ErrRange)
			}
		}
	}
	// A line has the rows that it has, whatever the others have.
	for spot, code := range map[impl.Spot]int64{{Row: 1}: impl.OK, {Row: 2}: impl.ErrRange, {Line: 1}: impl.OK, {Line: 1, Row: 1}: impl.ErrRange, {Line: 2, Row: 2}: impl.OK, {Line: 2, Row: 3}: impl.ErrRange, {Line: 3}: impl.ErrRange} {
		want(t, fmt.Sprintf("SpotFault %v", spot), impl.SpotFault(fileOf("abcd\n\nabcdef\n"), wide(2), spot), code)
	}
}

func TestMovesAndHeightsThatLeaveTheirBounds(t *testing.T) {
	for _, file := range []string{"", "\n", "abcdef", "a\n\nb", strings.Repeat("\n", 400), strings.Repeat("\xff", 400)} {
		for _, l := range []impl.Layout{wide(1), wide(40), chopped(1, 0), chopped(40, 400)} {
			for _, rows := range outside(-9999, 9999) {
				want(t, fmt.Sprintf("MoveSpot %q, %+v, %d", file, l, rows), impl.MoveSpot(fileOf(file), l, impl.Spot{}, rows), impl.SpotResult{Code: impl.ErrRange})
			}
			for _, rows := range []int64{-9999, -9998, 0, 9998, 9999} {
				want(t, fmt.Sprintf("the code of MoveSpot %q, %+v, %d", file, l, rows), impl.MoveSpot(fileOf(file), l, impl.Spot{}, rows).Code, int64(impl.OK))
			}
			for _, height := range append(outside(1, 20), -20, 9999) {
				want(t, fmt.Sprintf("LastTop %q, %+v, %d", file, l, height), impl.LastTop(fileOf(file), l, height), impl.SpotResult{Code: impl.ErrRange})
			}
			for _, height := range []int64{1, 2, 19, 20} {
				want(t, fmt.Sprintf("the code of LastTop %q, %+v, %d", file, l, height), impl.LastTop(fileOf(file), l, height).Code, int64(impl.OK))
			}
		}
	}
}

func TestNoRowsAndNoLinesAreNil(t *testing.T) {
	for _, none := range [][]byte{nil, {}, make([]byte, 0, 500)} {
		f := impl.File{Bytes: none}
		for _, l := range []impl.Layout{wide(1), wide(40), chopped(1, 0), chopped(40, 400)} {
			want(t, "RowCount", impl.RowCount(none, l), impl.IntResult{Value: 1})
			want(t, "RowCells", impl.RowCells(none, l, 0), impl.CellsResult{})
			want(t, "RowCells", impl.RowCells(none, l, 1), impl.CellsResult{Code: impl.ErrRange})
			want(t, "SpotFault", impl.SpotFault(f, l, impl.Spot{}), int64(impl.OK))
			want(t, "SpotFault", impl.SpotFault(f, l, impl.Spot{Row: 1}), int64(impl.ErrNone))
			want(t, "SpotFault", impl.SpotFault(f, l, impl.Spot{Line: 1}), int64(impl.ErrNone))
			want(t, "SpotFault", impl.SpotFault(f, l, impl.Spot{Line: -1}), int64(impl.ErrNone))
			want(t, "MoveSpot", impl.MoveSpot(f, l, impl.Spot{}, 1), impl.SpotResult{})
			want(t, "MoveSpot", impl.MoveSpot(f, l, impl.Spot{}, -9999), impl.SpotResult{})
			want(t, "LastTop", impl.LastTop(f, l, 20), impl.SpotResult{})
		}
	}
	want(t, "LayoutFault", impl.LayoutFault(impl.Layout{}), int64(impl.ErrRange))
	want(t, "SpotText", impl.SpotText(impl.Spot{}), impl.TextResult{Text: "0.0"})
}

func TestEachMoveEndsSoon(t *testing.T) {
	for _, piece := range []string{"\n", "a", "\xff", "\xff\n", "\t", "\xe2\x82", "abc\n"} {
		f := fileOf(strings.Repeat(piece, 400)[:400])
		for _, l := range []impl.Layout{wide(1), wide(40), chopped(1, 400)} {
			begin := time.Now()
			for range 20 {
				last := impl.LastTop(f, l, 1)
				want(t, "back from the last row", impl.MoveSpot(f, l, last.Spot, -9999), impl.SpotResult{})
				want(t, "on to the last row", impl.MoveSpot(f, l, impl.Spot{}, 9999), last)
				impl.RowCells(f.Bytes, l, last.Spot.Row)
			}
			if took := time.Since(begin); took > 4*time.Second {
				t.Errorf("%q, %+v took %v", piece, l, took)
			}
		}
	}
}

// layoutCase is what the functions of the chapter are asked of.
type layoutCase struct {
	line   []byte
	file   impl.File
	layout impl.Layout
	spot   impl.Spot
}

// layoutCases have faults now and then.
func layoutCases() []layoutCase {
	random := rand.New(rand.NewSource(411414))
	files, layouts := laidFiles(100)
	lines := someLines(len(files))
	var cases []layoutCase
	for i, file := range files {
		c := layoutCase{line: lines[i], file: fileOf(file), layout: layouts[i]}
		spots := spotsTold(file, c.layout)
		c.spot = spots[random.Intn(len(spots))]
		switch i % 16 {
		case 0:
			c.line = make([]byte, 401)
		case 1:
			c.file.Bytes = make([]byte, 401)
		case 2:
			c.layout.Width = 41
		case 3:
			c.layout.Shift = 3
		case 4:
			c.spot.Row = -1
		case 5:
			c.spot.Line = 400
		}
		cases = append(cases, c)
	}
	return cases
}

// asked asks all functions of the chapter.
func (c layoutCase) asked() string {
	told := fmt.Sprint(impl.LayoutFault(c.layout), impl.RowCount(c.line, c.layout), impl.SpotFault(c.file, c.layout, c.spot), impl.SpotText(c.spot))
	for _, number := range []int64{-10000, -20, -1, 0, 1, 2, 20, 21, 9999} {
		told += fmt.Sprint(impl.RowCells(c.line, c.layout, number), impl.MoveSpot(c.file, c.layout, c.spot, number), impl.LastTop(c.file, c.layout, number))
	}
	return told
}

func TestLinesAndFilesOfRowsStayAsTheyAre(t *testing.T) {
	for _, c := range layoutCases() {
		line, wholeLine := guarded(c.line)
		file, wholeFile := guarded(c.file.Bytes)
		keptLine, keptFile := bytes.Clone(wholeLine), bytes.Clone(wholeFile)
		told := c.asked()
		c.line, c.file.Bytes = line, file
		if again := c.asked(); again != told {
			t.Errorf("%+v, with room behind it, was answered in two ways:\n%s\n%s", c, told, again)
		}
		if !bytes.Equal(wholeLine, keptLine) || !bytes.Equal(wholeFile, keptFile) {
			t.Fatalf("%q and %q were changed to %q and %q", keptLine, keptFile, wholeLine, wholeFile)
		}
	}
}

func TestRowsShareNoMemory(t *testing.T) {
	mark := impl.Cell{Char: -1}
	for _, c := range layoutCases() {
		whole := impl.CellsOf(c.line).Cells
		for row := range min(impl.RowCount(c.line, c.layout).Value, 9) {
			line := slices.Clone(c.line)
			call := fmt.Sprintf("RowCells %q, %+v, %d", line, c.layout, row)
			wantNoSharing(t, call, mark, func() []impl.Cell { return impl.RowCells(line, c.layout, row).Cells }, func() { overwrite(line, 'Z') })
		}
		want(t, fmt.Sprintf("CellsOf %q", c.line), impl.CellsOf(c.line).Cells, whole)
	}
}

func TestAnswersOfRowsHangOnTheArgumentsAlone(t *testing.T) {
	cases := layoutCases()
	first := make([]string, len(cases))
	for i := range cases {
		first[i] = cases[i].asked()
	}
	var group sync.WaitGroup
	for range 4 {
		group.Go(func() {
			for i := range slices.Backward(cases) {
				if again := cases[i].asked(); again != first[i] {
					t.Errorf("%+v was answered in two ways:\n%s\n%s", cases[i], first[i], again)
				}
			}
		})
	}
	group.Wait()
}
