package tests

import (
	"bytes"
	"fmt"
	"strings"
	"testing"
	"unicode/utf8"

	"loop.example/g00414/impl"
)

// Promise 2: a character is read back from its bytes; the cells of a line stand for all its bytes, in order.

func TestEachCharacterIsReadBack(t *testing.T) {
	for char := int64(-300); char <= 70000; char++ {
		answer := impl.EncodeChar(char)
		if char < 0 || char > 65535 || char >= 55296 && char <= 57343 {
			want(t, fmt.Sprint("EncodeChar ", char), answer, impl.BytesResult{Code: impl.ErrRange})
			continue
		}
		want(t, fmt.Sprint("EncodeChar ", char), answer, impl.BytesResult{Bytes: []byte(string(rune(char)))})
		asked := impl.CharResult{Char: char, Used: int64(len(answer.Bytes))}
		want(t, fmt.Sprint("DecodeAt alone ", char), impl.DecodeAt(answer.Bytes, 0), asked)
		within := append(append([]byte("\xe2x"), answer.Bytes...), 0x82, 'y')
		want(t, fmt.Sprint("DecodeAt within ", char), impl.DecodeAt(within, 2), asked)
	}
}

func TestCharactersAtTheEndsOfTheirRanges(t *testing.T) {
	for _, row := range []struct {
		char  int64
		bytes string
	}{
		{0, "\x00"}, {9, "\t"}, {32, " "}, {127, "\x7f"},
		{128, "\xc2\x80"}, {2047, "\xdf\xbf"},
		{2048, "\xe0\xa0\x80"}, {55295, "\xed\x9f\xbf"}, {57344, "\xee\x80\x80"}, {65533, "\xef\xbf\xbd"}, {65535, "\xef\xbf\xbf"},
	} {
		want(t, fmt.Sprint("EncodeChar ", row.char), impl.EncodeChar(row.char), impl.BytesResult{Bytes: []byte(row.bytes)})
		want(t, fmt.Sprintf("DecodeAt %q", row.bytes), impl.DecodeAt([]byte(row.bytes), 0), impl.CharResult{Char: row.char, Used: int64(len(row.bytes))})
	}
	for _, char := range append(farNumbers(), -1, 55296, 56319, 56320, 57343, 65536, 1114111) {
		want(t, fmt.Sprint("EncodeChar ", char), impl.EncodeChar(char), impl.BytesResult{Code: impl.ErrRange})
	}
}

// decoded is what the library reads, but for what has four bytes.
func decoded(data []byte) impl.CharResult {
	char, used := utf8.DecodeRune(data)
	if char == utf8.RuneError && used <= 1 || char > 65535 {
		return impl.CharResult{Code: impl.ErrText}
	}
	return impl.CharResult{Char: int64(char), Used: int64(used)}
}

func TestAllBytesBehindOneAnotherAreReadOrNot(t *testing.T) {
	check := func(data ...byte) {
		if got := impl.DecodeAt(data, 0); got != decoded(data) {
			t.Errorf("DecodeAt % x = %+v, asked for %+v", data, got, decoded(data))
		}
	}
	for first := range 256 {
		check(byte(first))
		for second := range 256 {
			check(byte(first), byte(second))
			if first < 224 || first > 240 {
				continue
			}
			for third := range 256 {
				check(byte(first), byte(second), byte(third))
			}
		}
	}
	for first := 240; first < 256; first++ {
		check(byte(first), 0x90, 0x80, 0x80)
		check(byte(first), 0x8f, 0xbf, 0xbf, 0xbf)
	}
}

func TestWhatCannotBeRead(t *testing.T) {
	for _, data := range []string{
		"\xc3", "\xe2", "\xe2\x82", "\xc3a", "\xe2\x82a", "\xe2a\xac", "\xc3\xc3\xa4", // cut
		"\xc0\x80", "\xc1\xbf", "\xe0\x80\x80", "\xe0\x81\x81", "\xe0\x9f\xbf", "\xf0\x80\x80\x80", // longer than they have to be
		"\xed\xa0\x80", "\xed\xbf\xbf", "\xf0\x90\x80\x80", "\xf4\x8f\xbf\xbf", // 55296, 57343, 65536 and above
		"\x80", "\xbf", "\xf8\x88\x80\x80\x80", "\xfe", "\xff",
	} {
		want(t, fmt.Sprintf("DecodeAt %q", data), impl.DecodeAt([]byte(data), 0), impl.CharResult{Code: impl.ErrText})
		want(t, fmt.Sprintf("DecodeAt a%q", data), impl.DecodeAt([]byte("a"+data), 1), impl.CharResult{Code: impl.ErrText})
	}
}

// A character that data ends within is cut, whatever the memory has behind that end.
func TestCharacterIsCutAtTheEndOfData(t *testing.T) {
	whole := []byte("\xe2\x82\xac")
	want(t, "DecodeAt", impl.DecodeAt(whole[:2], 0), impl.CharResult{Code: impl.ErrText})
	want(t, "DecodeAt", impl.DecodeAt(whole[:1], 0), impl.CharResult{Code: impl.ErrText})
	want(t, "CellsText", shown(whole[:2]), "<E2><82>")
}

func TestDecodeAtOtherPlaces(t *testing.T) {
	data := []byte("a\xc3\xa4\xe2\x82\xacz")
	for at, asked := range []impl.CharResult{
		{Char: 'a', Used: 1}, {Char: 228, Used: 2}, {Code: impl.ErrText}, {Char: 8364, Used: 3},
		{Code: impl.ErrText}, {Code: impl.ErrText}, {Char: 'z', Used: 1}, {Code: impl.ErrRange}, {Code: impl.ErrRange},
	} {
		want(t, fmt.Sprint("DecodeAt ", at), impl.DecodeAt(data, int64(at)), asked)
	}
}

// shown is what one sees of a line.
func shown(line []byte) string {
	return impl.CellsText(impl.CellsOf(line).Cells).Text
}

func TestTabsGoToTheNextStop(t *testing.T) {
	for column := range 13 {
		ahead := strings.Repeat("x", column)
		blanks := 4 - column%4
		asked := ahead + strings.Repeat(" ", blanks) + "y"
		want(t, fmt.Sprint("a tab at column ", column), shown([]byte(ahead+"\ty")), asked)
		want(t, fmt.Sprint("width at column ", column), impl.WidthOf([]byte(ahead+"\t")), impl.IntResult{Value: int64(column + blanks)})
		cells := impl.CellsOf([]byte(ahead + "\ty")).Cells
		for i := column; i < column+blanks; i++ {
			want(t, fmt.Sprint("cell ", i), cells[i], impl.Cell{Char: ' ', From: int64(column), Size: 1})
		}
		want(t, "the cell behind", cells[column+blanks], impl.Cell{Char: 'y', From: int64(column + 1), Size: 1})
	}
}

// A tab goes by columns, not by bytes.
func TestTabsBehindWhatHasOtherWidths(t *testing.T) {
	for line, asked := range map[string]string{
		"\t\t":                       "        ",
		"abc\t\t":                    "abc     ",
		"abc\td":                     "abc d",
		"abcd\te":                    "abcd    e",
		"\x01\tb":                    "^A  b",
		"\xff\tb":                    "<FF>    b",
		"a\x7f\tb":                   "a^? b",
		"\xe2\x82\xac\tb":            "\u20ac   b",
		"\xc3\xa4\xc3\xa4\xc3\xa4\t": "\u00e4\u00e4\u00e4 ",
		"\xc3\t":                     "<C3>    ",
	} {
		want(t, fmt.Sprintf("shown %q", line), shown([]byte(line)), asked)
	}
}

func TestWhatOneSeesOfEachByte(t *testing.T) {
	for b := range 256 {
		asked := fmt.Sprintf("<%02X>", b)
		switch {
		case b == 9:
			asked = "    "
		case b < 32 || b == 127:
			asked = "^" + string(rune(b^64))
		case b < 128:
			asked = string(rune(b))
		}
		want(t, fmt.Sprint("shown ", b), shown([]byte{byte(b)}), asked)
		want(t, fmt.Sprint("WidthOf ", b), impl.WidthOf([]byte{byte(b)}), impl.IntResult{Value: int64(len(asked))})
	}
}

func TestCellsOfOneLine(t *testing.T) {
	want(t, "CellsOf", impl.CellsOf([]byte("a\xe2\x82\xac\x01\xc3\xa4\xff\t\x7f\xc2\x85")), impl.CellsResult{Cells: []impl.Cell{
		{Char: 'a', From: 0, Size: 1},
		{Char: 8364, From: 1, Size: 3},
		{Char: '^', From: 4, Size: 1}, {Char: 'A', From: 4, Size: 1},
		{Char: 228, From: 5, Size: 2},
		{Char: '<', From: 7, Size: 1}, {Char: 'F', From: 7, Size: 1}, {Char: 'F', From: 7, Size: 1}, {Char: '>', From: 7, Size: 1},
		{Char: ' ', From: 8, Size: 1}, {Char: ' ', From: 8, Size: 1}, {Char: ' ', From: 8, Size: 1},
		{Char: '^', From: 9, Size: 1}, {Char: '?', From: 9, Size: 1},
		{Char: 133, From: 10, Size: 2},
	}})
	want(t, "the document's example", shown([]byte("\ta\x01\xff")), "    a^A<FF>")
	want(t, "CellsOf nothing", impl.CellsOf(nil), impl.CellsResult{})
	want(t, "WidthOf nothing", impl.WidthOf(nil), impl.IntResult{})
}

// cellsTold is chapter 1 told once more, by the library's reading of characters.
func cellsTold(line []byte) []impl.Cell {
	var cells []impl.Cell
	for from := 0; from < len(line); {
		text, size := fmt.Sprintf("<%02X>", line[from]), 1
		if read := decoded(line[from:]); line[from] == '\t' {
			text = "    "[len(cells)%4:]
		} else if line[from] < 32 || line[from] == 127 {
			text = "^" + string(rune(line[from]^64))
		} else if read.Code == impl.OK {
			text, size = string(rune(read.Char)), int(read.Used)
		}
		for _, char := range text {
			cells = append(cells, impl.Cell{Char: int64(char), From: int64(from), Size: int64(size)})
		}
		from += size
	}
	return cells
}

// standForAll tells whether cells stand for all bytes of a line of n, in order, each piece of it once.
func standForAll(cells []impl.Cell, n int64) bool {
	behind := int64(0)
	for i, cell := range cells {
		if i > 0 && cell.From == cells[i-1].From && cell.Size == cells[i-1].Size {
			continue
		}
		if cell.From != behind {
			return false
		}
		behind += cell.Size
	}
	return behind == n
}

func checkLine(t *testing.T, line []byte) {
	t.Helper()
	got := impl.CellsOf(line)
	if !same(got, impl.CellsResult{Cells: cellsTold(line)}) {
		t.Errorf("CellsOf %q = %+v", line, got)
	}
	if !standForAll(got.Cells, int64(len(line))) {
		t.Errorf("the cells of %q do not stand for all its bytes, in order: %+v", line, got.Cells)
	}
	if width := impl.WidthOf(line); width != (impl.IntResult{Value: int64(len(got.Cells))}) {
		t.Errorf("WidthOf %q = %+v, and there are %d cells", line, width, len(got.Cells))
	}
	if code := impl.CellsFault(got.Cells); code != impl.OK {
		t.Errorf("the cells of %q have the fault %d", line, code)
	}
	var text []byte
	for _, cell := range got.Cells {
		text = append(text, impl.EncodeChar(cell.Char).Bytes...)
	}
	if told := impl.CellsText(got.Cells); told != (impl.TextResult{Text: string(text)}) {
		t.Errorf("CellsText of the cells of %q = %+v, asked for %q", line, told, text)
	}
}

func TestCellsStandForAllBytesInOrder(t *testing.T) {
	for first := range 256 {
		checkLine(t, []byte{byte(first)})
		for second := range 256 {
			checkLine(t, []byte{byte(first), byte(second)})
		}
	}
	for _, first := range piecesOfLines() {
		for _, second := range piecesOfLines() {
			for _, third := range piecesOfLines() {
				checkLine(t, []byte(first+second+third))
			}
		}
	}
	for _, line := range someLines(3000) {
		checkLine(t, line)
	}
}

func TestLinesOfAsManyBytesAsThereMayBe(t *testing.T) {
	for _, piece := range []string{"a", "\t", "\x01", "\xff", "\xc3\xa4", "\xe2\x82\xac", "a\xe2\x82\xac", "abc\t"} {
		long := []byte(strings.Repeat(piece, 401))
		checkLine(t, long[:399])
		checkLine(t, long[:400])
		for _, n := range []int{401, len(long)} {
			want(t, fmt.Sprintf("CellsOf %d of %q", n, piece), impl.CellsOf(long[:n]), impl.CellsResult{Code: impl.ErrMany})
			want(t, fmt.Sprintf("WidthOf %d of %q", n, piece), impl.WidthOf(long[:n]), impl.IntResult{Code: impl.ErrMany})
		}
	}
	want(t, "the widest line", impl.WidthOf(bytes.Repeat([]byte{255}, 400)), impl.IntResult{Value: 1600})
}
