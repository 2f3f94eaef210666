package tests

import (
	"fmt"
	"math"
	"math/rand"
	"slices"
	"strings"
	"testing"

	"loop.example/g00414/impl"
)

// Promise 11: the rows of a line that is not chopped make the whole; who goes on and then back by as many rows as there were
// is where one was; from the last top on there are just as many rows as there is room for, or it is the first one.

func wide(width int64) impl.Layout {
	return impl.Layout{Width: width}
}

func chopped(width int64, shift int64) impl.Layout {
	return impl.Layout{Width: width, Chop: true, Shift: shift}
}

// rowsTold are the rows of a line, made cell by cell.
func rowsTold(line string, l impl.Layout) [][]impl.Cell {
	var rows [][]impl.Cell
	var row []impl.Cell
	for place, cell := range cellsTold([]byte(line)) {
		full := int64(len(row)) == l.Width
		if l.Chop && (full || int64(place) < l.Shift) {
			continue
		}
		if full {
			rows, row = append(rows, row), nil
		}
		row = append(row, cell)
	}
	return append(rows, row)
}

// rowsShown are the texts of all rows of a line, with | between.
func rowsShown(line string, l impl.Layout) string {
	var texts []string
	for row := range impl.RowCount([]byte(line), l).Value {
		texts = append(texts, impl.CellsText(impl.RowCells([]byte(line), l, row).Cells).Text)
	}
	return strings.Join(texts, "|")
}

// wantOfRows asks for the rows of a line, and that there is none ahead of them and none behind.
func wantOfRows(t *testing.T, line string, l impl.Layout, rows [][]impl.Cell) {
	t.Helper()
	call, count := fmt.Sprintf("%q, %+v", line, l), int64(len(rows))
	want(t, "RowCount "+call, impl.RowCount([]byte(line), l), impl.IntResult{Value: count})
	for row, cells := range rows {
		want(t, fmt.Sprintf("RowCells %s, %d", call, row), impl.RowCells([]byte(line), l, int64(row)), impl.CellsResult{Cells: cells})
	}
	for _, row := range append(outside(0, count-1), -count, 2*count) {
		want(t, fmt.Sprintf("RowCells %s, %d", call, row), impl.RowCells([]byte(line), l, row), impl.CellsResult{Code: impl.ErrRange})
	}
}

func TestRowsOfLines(t *testing.T) {
	for _, row := range []struct {
		line  string
		width int64
		shown string
	}{
		{"abcdefghi", 4, "abcd|efgh|i"},
		// Without cells, with one, just Width, one more, one less, twice Width and beside it.
		{"", 1, ""}, {"", 4, ""}, {"", 40, ""}, {"a", 1, "a"}, {"a", 2, "a"}, {"a", 40, "a"},
		{"abc", 4, "abc"}, {"abcd", 4, "abcd"}, {"abcde", 4, "abcd|e"}, {"abcdefg", 4, "abcd|efg"}, {"abcdefgh", 4, "abcd|efgh"}, {"abcdefghi", 3, "abc|def|ghi"}, {"abc", 1, "a|b|c"}, {"abc", 2, "ab|c"}, {"abcdefghi", 9, "abcdefghi"}, {"abcdefghi", 8, "abcdefgh|i"},
		// Tabs: their cells are those of the line, not of the row.
		{"\t", 4, "    "}, {"\t", 3, "   | "}, {"\t", 1, " | | | "}, {"a\tb", 4, "a   |b"}, {"a\tb", 5, "a   b"}, {"ab\tc", 3, "ab | c"}, {"abc\td", 3, "abc| d"}, {"abcd\te", 4, "abcd|    |e"}, {"a\t\tb", 6, "a     |  b"}, {"abcde\tf", 5, "abcde|   f"}, {"\t\t", 4, "    |    "},
		// Characters that take several cells for their bytes, or one for several; rows go through the midst of the former.
		{"\x01", 1, "^|A"}, {"\x01", 2, "^A"}, {"a\x01", 2, "a^|A"}, {"\x7f\x00", 3, "^?^|@"}, {"a\nb", 2, "a^|Jb"}, {"\xff\xff", 3, "<FF|><F|F>"}, {"\xff", 4, "<FF>"}, {"\x80", 1, "<|8|0|>"},
		{"\xc3\xa4\xe2\x82\xac", 1, "\xc3\xa4|\xe2\x82\xac"}, {"\xc3\xa4\xe2\x82\xac", 2, "\xc3\xa4\xe2\x82\xac"}, {"a\xef\xbf\xbfb", 2, "a\xef\xbf\xbf|b"},
		// Characters that are cut.
		{"\xe2\x82", 4, "<E2>|<82>"}, {"a\xe2", 4, "a<E2|>"}, {"\xc3\xc3\xa4", 4, "<C3>|\xc3\xa4"}, {"\xe2\x82\t", 6, "<E2><8|2>    "}, {"\xe2\x82\xac\xe2\x82", 5, "\xe2\x82\xac<E2>|<82>"},
		// Blanks at the end are cells, too.
		{"ab  ", 2, "ab|  "}, {"    ", 3, "   | "},
	} {
		want(t, fmt.Sprintf("the rows of %q, Width %d", row.line, row.width), rowsShown(row.line, wide(row.width)), row.shown)
		wantOfRows(t, row.line, wide(row.width), rowsTold(row.line, wide(row.width)))
	}
}

func TestRowsOfLinesThatAreChopped(t *testing.T) {
	for _, row := range []struct {
		line  string
		width int64
		shift int64
		shown string
	}{
		{"abcdefghi", 4, 2, "cdef"},
		// A Shift of nothing, of one, of all but a few, of just as many cells as there are, of more.
		{"abcdefghi", 4, 0, "abcd"}, {"abcdefghi", 4, 1, "bcde"}, {"abcdefghi", 4, 4, "efgh"}, {"abcdefghi", 4, 5, "fghi"}, {"abcdefghi", 4, 6, "ghi"}, {"abcdefghi", 4, 8, "i"}, {"abcdefghi", 4, 9, ""}, {"abcdefghi", 4, 10, ""}, {"abcdefghi", 4, 400, ""},
		{"abc", 4, 0, "abc"}, {"abcd", 4, 0, "abcd"}, {"abc", 1, 0, "a"}, {"abc", 1, 2, "c"}, {"abc", 1, 3, ""}, {"abc", 40, 1, "bc"},
		{"", 1, 0, ""}, {"", 4, 1, ""}, {"", 40, 400, ""}, {"a", 1, 0, "a"}, {"a", 1, 1, ""}, {"a", 4, 1, ""},
		// What is not seen are cells, not bytes.
		{"a\tb", 4, 2, "  b"}, {"a\tb", 4, 4, "b"}, {"a\tb", 4, 5, ""}, {"\t\tb", 3, 6, "  b"}, {"\x01b", 4, 1, "Ab"}, {"\xff", 2, 1, "FF"}, {"\xff", 4, 3, ">"}, {"\xff", 4, 4, ""}, {"\xe2\x82\xacab", 1, 1, "a"}, {"\xe2\x82\xacab", 4, 2, "b"}, {"\xe2\x82", 4, 2, "2><8"},
	} {
		want(t, fmt.Sprintf("the row of %q, Width %d, Shift %d", row.line, row.width, row.shift), rowsShown(row.line, chopped(row.width, row.shift)), row.shown)
		wantOfRows(t, row.line, chopped(row.width, row.shift), rowsTold(row.line, chopped(row.width, row.shift)))
	}
	want(t, "the cells of a row", impl.RowCells([]byte("a\x01\xc3\xa4\xff"), chopped(4, 2), 0), impl.CellsResult{Cells: []impl.Cell{
		{Char: 'A', From: 1, Size: 1}, {Char: 228, From: 2, Size: 2}, {Char: '<', From: 4, Size: 1}, {Char: 'F', From: 4, Size: 1},
	}})
	want(t, "the cells of a row in the midst", impl.RowCells([]byte("a\x01\xc3\xa4\xff"), wide(3), 1), impl.CellsResult{Cells: []impl.Cell{
		{Char: 228, From: 2, Size: 2}, {Char: '<', From: 4, Size: 1}, {Char: 'F', From: 4, Size: 1},
	}})
}

// wantWhole asks that the rows of a line, one behind the other, are its cells, and that all but the last one are full.
func wantWhole(t *testing.T, line []byte, width int64) {
	t.Helper()
	var whole []impl.Cell
	count := impl.RowCount(line, wide(width)).Value
	for row := range count {
		cells := impl.RowCells(line, wide(width), row).Cells
		if row < count-1 && int64(len(cells)) != width || row > 0 && len(cells) == 0 {
			t.Errorf("row %d of %d of %q, Width %d, has %d cells", row, count, line, width, len(cells))
		}
		whole = append(whole, cells...)
	}
	want(t, fmt.Sprintf("the rows of %q, Width %d", line, width), whole, impl.CellsOf(line).Cells)
}

func TestRowsOfALineMakeTheWhole(t *testing.T) {
	widths := rising(1, 41)
	for size := range 84 {
		for _, width := range widths {
			wantWhole(t, []byte(strings.Repeat("a", size)), width)
		}
	}
	for place, line := range someLines(400) {
		for _, width := range []int64{widths[place%40], widths[place*7%40]} {
			wantWhole(t, line, width)
			wantOfRows(t, string(line), wide(width), rowsTold(string(line), wide(width)))
			for _, shift := range []int64{0, int64(place % 60), impl.WidthOf(line).Value} {
				wantOfRows(t, string(line), chopped(width, shift), rowsTold(string(line), chopped(width, shift)))
			}
		}
	}
}

func TestLinesOfRowsOfAsManyBytesAsThereMayBe(t *testing.T) {
	for _, row := range []struct {
		piece string
		width int64
		count int64
	}{
		{"a", 1, 400}, {"a", 39, 11}, {"a", 40, 10}, {"\xff", 1, 1600}, {"\xff", 40, 40}, {"\xff", 39, 42}, {"\t", 40, 40}, {"\x01", 40, 20}, {"\x01", 3, 267}, {"\xc3\xa4", 40, 5}, {"\xc3\xa4", 1, 200}, {"\xe2\x82\xac", 40, 4}, {"\n", 40, 20},
	} {
		line := strings.Repeat(row.piece, 400)[:400]
		want(t, fmt.Sprintf("RowCount of 400 bytes of %q, Width %d", row.piece, row.width), impl.RowCount([]byte(line), wide(row.width)), impl.IntResult{Value: row.count})
		wantOfRows(t, line, wide(row.width), rowsTold(line, wide(row.width)))
		for _, shift := range []int64{0, 1, 199, 200, 399, 400} {
			want(t, fmt.Sprintf("RowCount of 400 bytes of %q that are chopped", row.piece), impl.RowCount([]byte(line), chopped(row.width, shift)), impl.IntResult{Value: 1})
			wantOfRows(t, line, chopped(row.width, shift), rowsTold(line, chopped(row.width, shift)))
		}
	}
}

// spotAt reads a spot: its line and its row with a point between.
func spotAt(text string) impl.Spot {
	line, row, _ := strings.Cut(text, ".")
	return impl.Spot{Line: placesOf(line)[0], Row: placesOf(row)[0]}
}

// spotsTold are those of all rows of a file, one behind the other.
func spotsTold(file string, l impl.Layout) []impl.Spot {
	pieces := strings.SplitAfter(file, "\n")
	if len(pieces) > 1 && pieces[len(pieces)-1] == "" {
		pieces = pieces[:len(pieces)-1]
	}
	var spots []impl.Spot
	for line, piece := range pieces {
		for row := range rowsTold(strings.TrimSuffix(piece, "\n"), l) {
			spots = append(spots, impl.Spot{Line: int64(line), Row: int64(row)})
		}
	}
	return spots
}

// outside are numbers that leave bounds, by a little and by far.
func outside(least int64, most int64) []int64 {
	numbers := append(farNumbers(), least-2, least-1, most+1, most+2)
	return slices.DeleteFunc(numbers, func(number int64) bool { return number >= least && number <= most })
}

// wantOfMoves goes from a spot to all others, and as far behind the ends as there are rows in one go.
func wantOfMoves(t *testing.T, file string, l impl.Layout, spots []impl.Spot, from int) {
	t.Helper()
	last := len(spots) - 1
	by := map[int]impl.Spot{-9999: spots[0], -from - 2: spots[0], -from - 1: spots[0], last - from + 1: spots[last], last - from + 2: spots[last], 9999: spots[last]}
	for to, spot := range spots {
		by[to-from] = spot
	}
	for rows, to := range by {
		want(t, fmt.Sprintf("MoveSpot %q, %+v, %v, %d", file, l, spots[from], rows), impl.MoveSpot(fileOf(file), l, spots[from], int64(rows)), impl.SpotResult{Spot: to})
	}
	for _, rows := range outside(-9999, 9999) {
		want(t, fmt.Sprintf("MoveSpot %q, %+v, %v, %d", file, l, spots[from], rows), impl.MoveSpot(fileOf(file), l, spots[from], rows), impl.SpotResult{Code: impl.ErrRange})
	}
}

// wantOfSpots asks all about the spots of a file, which are told, and about those beside them.
func wantOfSpots(t *testing.T, file string, l impl.Layout, spots []impl.Spot) {
	t.Helper()
	call := fmt.Sprintf("%q, %+v", file, l)
	isThere := map[impl.Spot]bool{}
	for _, spot := range spots {
		isThere[spot] = true
	}
	code := int64(impl.ErrRange)
	if file == "" {
		code = impl.ErrNone
	}
	for _, spot := range spots {
		want(t, fmt.Sprintf("SpotFault %s, %v", call, spot), impl.SpotFault(fileOf(file), l, spot), int64(impl.OK))
		for _, beside := range []impl.Spot{{Line: spot.Line + 1, Row: spot.Row}, {Line: spot.Line, Row: spot.Row + 1}, {Line: spot.Line - 1, Row: spot.Row}, {Line: spot.Line, Row: spot.Row - 1}, {Line: -1, Row: spot.Row}, {Line: spot.Line, Row: -1}, {Line: -1 - spot.Line, Row: -1 - spot.Row}} {
			if !isThere[beside] {
				want(t, fmt.Sprintf("SpotFault %s, %v", call, beside), impl.SpotFault(fileOf(file), l, beside), code)
				want(t, fmt.Sprintf("MoveSpot %s, %v", call, beside), impl.MoveSpot(fileOf(file), l, beside, 0), impl.SpotResult{Code: code})
			}
		}
	}
	for height := int64(1); height <= 20; height++ {
		top := spots[max(0, int64(len(spots))-height)]
		want(t, fmt.Sprintf("LastTop %s, %d", call, height), impl.LastTop(fileOf(file), l, height), impl.SpotResult{Spot: top})
	}
}

func TestSpotsOfFiles(t *testing.T) {
	many := strings.Repeat("ab\n", 30)
	for _, row := range []struct {
		file   string
		layout impl.Layout
		spots  string
	}{
		{"abcdefghi\n\nxy\n", wide(4), "0.0 0.1 0.2 1.0 2.0"}, {"abcdefghi\n\nxy\n", chopped(4, 0), "0.0 1.0 2.0"}, {"abcdefghi\n\nxy\n", chopped(4, 400), "0.0 1.0 2.0"}, {"abcdefghi\n\nxy\n", wide(1), "0.0 0.1 0.2 0.3 0.4 0.5 0.6 0.7 0.8 1.0 2.0 2.1"},
		// Without lines.
		{"", wide(1), "0.0"}, {"", wide(40), "0.0"}, {"", chopped(4, 3), "0.0"},
		// Lines without cells, alone, ahead, behind, several of them.
		{"\n", wide(1), "0.0"}, {"\n\n", wide(4), "0.0 1.0"}, {"\n\n\nabc", wide(2), "0.0 1.0 2.0 3.0 3.1"}, {"abc\n\n\n", wide(2), "0.0 0.1 1.0 2.0"}, {"ab\n\n\ncde", wide(1), "0.0 0.1 1.0 2.0 3.0 3.1 3.2"}, {"\n\n", chopped(4, 1), "0.0 1.0"},
		// The last line ends without a line feed, or with one.
		{"abcde", wide(2), "0.0 0.1 0.2"}, {"abcde\n", wide(2), "0.0 0.1 0.2"}, {"a\nbcd", wide(2), "0.0 1.0 1.1"}, {"a\nbcd\n", wide(2), "0.0 1.0 1.1"}, {"abcd\nefgh", wide(4), "0.0 1.0"}, {"abcde\nfghij", wide(5), "0.0 1.0"},
		// Rows are of cells, not of bytes.
		{"\t\n\xff\n\xe2\x82\xac\xe2\x82\xac\n\x01", wide(2), "0.0 0.1 1.0 1.1 2.0 3.0"}, {"\r\n\r", wide(1), "0.0 0.1 1.0 1.1"},
		{many, wide(2), ""}, {many, wide(1), ""}, {many, chopped(1, 1), ""}, {strings.Repeat("\n", 400), wide(1), ""}, {strings.Repeat("a\n", 200), wide(40), ""}, {strings.Repeat("a", 21) + "\nb", wide(1), ""}, {"b\n" + strings.Repeat("a", 20), wide(1), ""}, {"b\n" + strings.Repeat("a", 19), wide(1), ""}, {strings.Repeat("a", 400), wide(1), ""}, {strings.Repeat("a", 400), wide(40), ""},
	} {
		spots := spotsTold(row.file, row.layout)
		if row.spots != "" {
			asked := make([]impl.Spot, 0, len(spots))
			for _, text := range strings.Fields(row.spots) {
				asked = append(asked, spotAt(text))
			}
			want(t, fmt.Sprintf("the spots of %q that are told", row.file), spots, asked)
		}
		wantOfSpots(t, row.file, row.layout, spots)
		for from := range spots {
			if len(spots) < 40 || from%61 == 0 || from == len(spots)-1 {
				wantOfMoves(t, row.file, row.layout, spots, from)
			}
		}
	}
}

func TestMovesThatAreTold(t *testing.T) {
	file := "abcdefghi\n\nxy\n"
	for _, row := range []struct {
		from string
		rows int64
		to   string
	}{
		{"0.1", 2, "1.0"}, {"1.0", -1, "0.2"}, {"1.0", 99, "2.0"}, {"1.0", -99, "0.0"}, {"0.0", 0, "0.0"}, {"2.0", 0, "2.0"}, {"0.1", 0, "0.1"}, {"0.0", 1, "0.1"}, {"0.2", 1, "1.0"}, {"0.0", -1, "0.0"}, {"2.0", 1, "2.0"}, {"2.0", -1, "1.0"}, {"2.0", -2, "0.2"}, {"0.0", 4, "2.0"}, {"0.0", 5, "2.0"}, {"2.0", -4, "0.0"}, {"2.0", -5, "0.0"}, {"0.1", 9999, "2.0"}, {"0.1", -9999, "0.0"}, {"0.1", -1, "0.0"}, {"0.1", -2, "0.0"}, {"0.1", 1, "0.2"}, {"0.1", 3, "2.0"}, {"0.1", 4, "2.0"},
	} {
		got := impl.MoveSpot(fileOf(file), wide(4), spotAt(row.from), row.rows)
		want(t, fmt.Sprintf("MoveSpot %s by %d", row.from, row.rows), got, impl.SpotResult{Spot: spotAt(row.to)})
	}
	for height, top := range map[int64]string{1: "2.0", 2: "1.0", 3: "0.2", 4: "0.1", 5: "0.0", 6: "0.0", 20: "0.0"} {
		want(t, fmt.Sprintf("LastTop %d", height), impl.LastTop(fileOf(file), wide(4), height), impl.SpotResult{Spot: spotAt(top)})
	}
	// A last line of more rows than there is room for: the top is in its midst.
	want(t, "LastTop in a long line", impl.LastTop(fileOf("a\nbcdefghi"), wide(2), 3), impl.SpotResult{Spot: spotAt("1.1")})
	want(t, "LastTop in a line that is chopped", impl.LastTop(fileOf("a\nbcdefghi"), chopped(2, 3), 1), impl.SpotResult{Spot: spotAt("1.0")})
	for rows := int64(-9999); rows <= 9999; rows += 11 {
		want(t, fmt.Sprintf("MoveSpot without lines by %d", rows), impl.MoveSpot(impl.File{}, wide(4), impl.Spot{}, rows), impl.SpotResult{})
	}
}

// laidFiles are files with layouts under which they have few rows or many, always the same ones.
func laidFiles(count int) ([]string, []impl.Layout) {
	random := rand.New(rand.NewSource(111414))
	files := append(someFiles(count), shortFiles(5)...)
	layouts := make([]impl.Layout, len(files))
	for i := range layouts {
		layouts[i] = wide(int64(1 + random.Intn(1+random.Intn(40))))
		if random.Intn(4) == 0 {
			layouts[i] = chopped(layouts[i].Width, int64(random.Intn(401)))
		}
	}
	return files, layouts
}

func TestSpotsOfDrawnFiles(t *testing.T) {
	random := rand.New(rand.NewSource(211414))
	files, layouts := laidFiles(100)
	for i, file := range files {
		spots := spotsTold(file, layouts[i])
		if len(spots) > 120 {
			continue
		}
		wantOfSpots(t, file, layouts[i], spots)
		for range 3 {
			wantOfMoves(t, file, layouts[i], spots, random.Intn(len(spots)))
		}
	}
}

func TestOnAndBackOneIsWhereOneWas(t *testing.T) {
	random := rand.New(rand.NewSource(311414))
	files, layouts := laidFiles(60)
	for i, text := range files {
		f, l := fileOf(text), layouts[i]
		spots := spotsTold(text, l)
		for range 10 {
			from := random.Intn(len(spots))
			for _, rows := range []int64{1, int64(random.Intn(30)), int64(len(spots)), 9999} {
				on := impl.MoveSpot(f, l, spots[from], rows)
				were := int64(slices.Index(spots, on.Spot) - from)
				back := impl.MoveSpot(f, l, on.Spot, -were)
				if were < 0 || were > rows || back != (impl.SpotResult{Spot: spots[from]}) {
					t.Errorf("%q, %+v: from %v on by %d to %+v, and back by %d to %+v", text, l, spots[from], rows, on, were, back)
				}
				// Row by row one comes to the same.
				step := impl.SpotResult{Spot: spots[from]}
				for range min(rows, 5) {
					step = impl.MoveSpot(f, l, step.Spot, 1)
				}
				want(t, fmt.Sprintf("%q, %+v: from %v row by row", text, l, spots[from]), step, impl.MoveSpot(f, l, spots[from], min(rows, 5)))
			}
		}
	}
}

func TestFromTheLastTopOnThereAreAsManyRowsAsThereIsRoomFor(t *testing.T) {
	files, layouts := laidFiles(60)
	for i, text := range files {
		f, l := fileOf(text), layouts[i]
		for height := int64(1); height <= 20; height++ {
			top := impl.LastTop(f, l, height)
			count, spot := int64(1), top.Spot
			for {
				next := impl.MoveSpot(f, l, spot, 1).Spot
				if next == spot {
					break
				}
				count, spot = count+1, next
			}
			if top.Code != impl.OK || count > height || count < height && top.Spot != (impl.Spot{}) {
				t.Errorf("%q, %+v: from %+v on there are %d rows, with room for %d", text, l, top, count, height)
			}
		}
	}
}

func TestTextsOfSpots(t *testing.T) {
	for spot, text := range map[impl.Spot]string{
		{}: "0.0", {Line: 1}: "1.0", {Row: 1}: "0.1", {Line: 9, Row: 10}: "9.10", {Line: 10, Row: 9}: "10.9", {Line: 99, Row: 100}: "99.100", {Line: 999, Row: 999}: "999.999", {Line: 999}: "999.0", {Row: 999}: "0.999", {Line: 400, Row: 12}: "400.12", {Line: 123, Row: 456}: "123.456",
	} {
		want(t, fmt.Sprintf("SpotText %v", spot), impl.SpotText(spot), impl.TextResult{Text: text})
	}
	for number := range int64(1000) {
		want(t, "SpotText", impl.SpotText(impl.Spot{Line: number, Row: 999 - number}), impl.TextResult{Text: fmt.Sprintf("%d.%d", number, 999-number)})
	}
	for _, number := range outside(0, 999) {
		for _, spot := range []impl.Spot{{Line: number}, {Row: number}, {Line: number, Row: number}, {Line: number, Row: 999}, {Line: 999, Row: number}, {Line: number, Row: math.MinInt64}} {
			want(t, fmt.Sprintf("SpotText %v", spot), impl.SpotText(spot), impl.TextResult{Code: impl.ErrRange})
		}
	}
}
