package tests

import (
	"bytes"
	"fmt"
	"slices"
	"strings"
	"sync"
	"testing"

	"loop.example/g00414/impl"
)

// Promise 1, of chapter 1: every function answers at every argument, ends, and changes none;
// what it answers is new memory; it hangs on the arguments alone.

func TestPlacesThatLeaveTheirBounds(t *testing.T) {
	for _, data := range [][]byte{nil, {}, []byte("a"), []byte("\xff"), []byte("\xe2\x82\xac"), bytes.Repeat([]byte("ab"), 500)} {
		n := int64(len(data))
		for _, at := range append(farNumbers(), -2, -1, n, n+1, n+400) {
			if at >= 0 && at < n {
				continue
			}
			want(t, fmt.Sprintf("DecodeAt of %d bytes at %d", n, at), impl.DecodeAt(data, at), impl.CharResult{Code: impl.ErrRange})
		}
	}
}

// There is no bound for how many bytes a character is read from.
func TestDecodeAtInMuchData(t *testing.T) {
	data := bytes.Repeat([]byte("\xe2\x82\xac"), 5000)
	want(t, "DecodeAt", impl.DecodeAt(data, 14997), impl.CharResult{Char: 8364, Used: 3})
	want(t, "DecodeAt", impl.DecodeAt(data, 14998), impl.CharResult{Code: impl.ErrText})
}

func TestNilAndEmptyAreTheSame(t *testing.T) {
	want(t, "DecodeAt", impl.DecodeAt(nil, 0), impl.DecodeAt([]byte{}, 0))
	want(t, "CellsOf", impl.CellsOf(nil), impl.CellsOf([]byte{}))
	want(t, "WidthOf", impl.WidthOf(nil), impl.WidthOf([]byte{}))
	want(t, "CellsText", impl.CellsText(nil), impl.CellsText([]impl.Cell{}))
	want(t, "CellsText", impl.CellsText(nil), impl.TextResult{})
	want(t, "CellsFault", impl.CellsFault(nil), int64(impl.OK))
	want(t, "CellsFault", impl.CellsFault([]impl.Cell{}), int64(impl.OK))
}

func checkCells(t *testing.T, cells []impl.Cell, code int64, text string) {
	t.Helper()
	if got := impl.CellsFault(cells); got != code {
		t.Errorf("CellsFault of %d cells, the last %+v = %d, asked for %d", len(cells), cells[len(cells)-1], got, code)
	}
	if got := impl.CellsText(cells); got != (impl.TextResult{Code: code, Text: text}) {
		t.Errorf("CellsText of %d cells, the last %+v = %+v, asked for %d", len(cells), cells[len(cells)-1], got, code)
	}
}

func TestCellsOnTheirBounds(t *testing.T) {
	for _, char := range []int64{32, 33, 126, 128, 159, 160, 2047, 2048, 55295, 57344, 65535} {
		checkCells(t, []impl.Cell{{Char: char, From: 0, Size: 1}}, impl.OK, string(rune(char)))
	}
	for _, from := range []int64{0, 1, 399, 400} {
		checkCells(t, []impl.Cell{{Char: 'a', From: from, Size: 1}}, impl.OK, "a")
	}
	for _, size := range []int64{1, 2, 3} {
		checkCells(t, []impl.Cell{{Char: 'a', From: 400, Size: size}}, impl.OK, "a")
	}
	// How cells stand to each other is not asked.
	checkCells(t, []impl.Cell{{Char: 'b', From: 7, Size: 3}, {Char: 8364, From: 2, Size: 1}}, impl.OK, "b\u20ac")
}

func TestCellsThatLeaveTheirBounds(t *testing.T) {
	good := impl.Cell{Char: 'a', From: 1, Size: 1}
	wrong := func(cell impl.Cell) {
		t.Helper()
		checkCells(t, []impl.Cell{cell}, impl.ErrRange, "")
		checkCells(t, []impl.Cell{cell, good}, impl.ErrRange, "")
		checkCells(t, []impl.Cell{good, good, cell}, impl.ErrRange, "")
	}
	for _, char := range append(farNumbers(), -1, 0, 9, 10, 31, 127, 55296, 56000, 57343, 65536) {
		wrong(impl.Cell{Char: char, From: 1, Size: 1})
	}
	for _, from := range append(farNumbers(), -1, 401) {
		wrong(impl.Cell{Char: 'a', From: from, Size: 1})
	}
	for _, size := range append(farNumbers(), -1, 0, 4) {
		wrong(impl.Cell{Char: 'a', From: 1, Size: size})
	}
	wrong(impl.Cell{})
}

func TestAsManyCellsAsThereMayBe(t *testing.T) {
	cells := slices.Repeat([]impl.Cell{{Char: 65535, From: 400, Size: 3}}, 2001)
	checkCells(t, cells[:1999], impl.OK, strings.Repeat("\uffff", 1999))
	checkCells(t, cells[:2000], impl.OK, strings.Repeat("\uffff", 2000))
	checkCells(t, cells, impl.ErrMany, "")
	cells[1999].Size = 0
	checkCells(t, cells[:2000], impl.ErrRange, "")
	checkCells(t, cells, impl.ErrMany, "") // how many there are is asked ahead of what they are
	cells[0] = impl.Cell{}
	checkCells(t, cells, impl.ErrMany, "")
}

func TestBytesThatAreHandedInStayAsTheyAre(t *testing.T) {
	for _, line := range append(someLines(300), bytes.Repeat([]byte("\t\xff"), 200), bytes.Repeat([]byte("x"), 401)) {
		part, whole := guarded(line)
		kept := bytes.Clone(whole)
		impl.CellsOf(part)
		impl.WidthOf(part)
		for at := -1; at <= len(line); at++ {
			impl.DecodeAt(part, int64(at))
		}
		if !bytes.Equal(whole, kept) {
			t.Fatalf("%q was changed to %q", kept, whole)
		}
	}
}

func TestCellsThatAreHandedInStayAsTheyAre(t *testing.T) {
	for _, row := range [][]impl.Cell{
		impl.CellsOf([]byte("\ta\x01\xff\xe2\x82\xac")).Cells,
		{{Char: 'a', From: 401, Size: 1}, {Char: 'b', From: 0, Size: 1}},
		slices.Repeat([]impl.Cell{{Char: 'a', Size: 1}}, 2001),
	} {
		whole := append(slices.Clone(row), impl.Cell{Char: -5}, impl.Cell{Char: -6})
		kept := slices.Clone(whole)
		impl.CellsFault(whole[:len(row)])
		impl.CellsText(whole[:len(row)])
		if !slices.Equal(whole, kept) {
			t.Fatalf("%+v was changed to %+v", kept, whole)
		}
	}
}

func TestAnswersShareNoMemoryWithArguments(t *testing.T) {
	for _, line := range someLines(300) {
		part, whole := guarded(line)
		kept := bytes.Clone(whole)
		got := impl.CellsOf(part)
		asked := slices.Clone(got.Cells)
		overwrite(whole, 'Z')
		if !slices.Equal(got.Cells, asked) {
			t.Fatalf("the cells of %q turned with it", line)
		}
		copy(whole, kept)
		overwrite(got.Cells, impl.Cell{Char: -1, From: -1, Size: -1})
		if !bytes.Equal(whole, kept) {
			t.Fatalf("%q turned with its cells", line)
		}
	}
	cells := impl.CellsOf([]byte("a\tb")).Cells
	told := impl.CellsText(cells)
	overwrite(cells, impl.Cell{Char: 'Z', Size: 1})
	want(t, "CellsText", told, impl.TextResult{Text: "a   b"})
}

func TestAnswersShareNoMemoryWithEachOther(t *testing.T) {
	for _, char := range []int64{0, 65, 127, 128, 228, 2047, 2048, 8364, 65535} {
		first, second := impl.EncodeChar(char).Bytes, impl.EncodeChar(char).Bytes
		overwrite(first, 'Z')
		asked := []byte(string(rune(char)))
		if !bytes.Equal(second, asked) || !bytes.Equal(impl.EncodeChar(char).Bytes, asked) {
			t.Errorf("two answers of EncodeChar %d share memory", char)
		}
	}
	for _, text := range []string{"", "\t", "a", "\x01", "\xff", "\xc3\xa4", "\ta\x01\xff"} {
		line := []byte(text)
		asked := cellsTold(line)
		first, second := impl.CellsOf(line).Cells, impl.CellsOf(line).Cells
		overwrite(first, impl.Cell{Char: 'Z', From: 9, Size: 9})
		if !slices.Equal(second, asked) || !slices.Equal(impl.CellsOf(line).Cells, asked) {
			t.Errorf("two answers of CellsOf %q share memory", text)
		}
	}
}

// allAnswers asks every function of the chapter about a line.
func allAnswers(line []byte) string {
	cells := impl.CellsOf(line)
	answers := fmt.Sprint(cells, impl.WidthOf(line), impl.CellsFault(cells.Cells), impl.CellsText(cells.Cells))
	for at := -1; at <= len(line); at++ {
		read := impl.DecodeAt(line, int64(at))
		answers += fmt.Sprint(read, impl.EncodeChar(read.Char), impl.EncodeChar(int64(at)*300))
	}
	return answers
}

func TestAnswersHangOnTheArgumentsAlone(t *testing.T) {
	lines := someLines(200)
	first := make([]string, len(lines))
	for i, line := range lines {
		first[i] = allAnswers(line)
	}
	var group sync.WaitGroup
	for range 4 {
		group.Go(func() {
			for i, line := range slices.Backward(lines) {
				roomy, _ := guarded(line)
				if again := allAnswers(roomy); again != first[i] {
					t.Errorf("%q was answered in two ways:\n%s\n%s", line, first[i], again)
				}
			}
		})
	}
	group.Wait()
}
