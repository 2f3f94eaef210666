package tests

import (
	"fmt"
	"math/rand"
	"slices"
	"strings"
	"testing"

	"loop.example/g00414/impl"
)

// Promise 5: an index tells each line where it begins, and how many there are, however far its marks are from
// one another; a byte is in the line that begins last ahead of it; an index that is cut is that of what is left.

// checkIndex holds an index against the promise: no fault, and just what is told of the text.
func checkIndex(t *testing.T, call string, x impl.Index, every int64, text string) {
	t.Helper()
	want(t, call, x, indexTold(every, text))
	want(t, "IndexFault behind "+call, impl.IndexFault(x), int64(impl.OK))
	want(t, "IndexTrue behind "+call, impl.IndexTrue(x, fileOf(text)), true)
}

// checkStarts asks for each line of a file, and for those that are just not there.
func checkStarts(t *testing.T, x impl.Index, file string) {
	t.Helper()
	whole, starts := indexTold(x.Every, file), startsOf(file)
	count := int64(len(starts))
	for number, start := range starts {
		call := fmt.Sprintf("LineStart %v of %q, %d", x, file, number)
		want(t, call, impl.LineStart(x, fileOf(file), int64(number)), impl.IndexResult{Value: start, Index: whole})
	}
	for _, number := range []int64{-1, count, count + 1} {
		call := fmt.Sprintf("LineStart %v of %q, %d", x, file, number)
		want(t, call, impl.LineStart(x, fileOf(file), number), impl.IndexResult{Code: impl.ErrRange})
	}
	call := fmt.Sprintf("CountLines %v of %q", x, file)
	want(t, call, impl.CountLines(x, fileOf(file)), impl.IndexResult{Value: count, Index: whole})
}

// checkBytes asks for the line of each byte of a file, and of the places that are just no bytes.
func checkBytes(t *testing.T, x impl.Index, file string) {
	t.Helper()
	whole, starts := indexTold(x.Every, file), startsOf(file)
	for at := range int64(len(file)) {
		behind, _ := slices.BinarySearch(starts, at+1)
		call := fmt.Sprintf("LineAt %v of %q, %d", x, file, at)
		want(t, call, impl.LineAt(x, fileOf(file), at), impl.IndexResult{Value: int64(behind) - 1, Index: whole})
	}
	for _, at := range []int64{-1, int64(len(file)), int64(len(file)) + 1} {
		call := fmt.Sprintf("LineAt %v of %q, %d", x, file, at)
		want(t, call, impl.LineAt(x, fileOf(file), at), impl.IndexResult{Code: impl.ErrRange})
	}
}

func checkAllOfIndex(t *testing.T, x impl.Index, file string) {
	t.Helper()
	call := fmt.Sprintf("ExtendIndex %v of %q", x, file)
	extended := impl.ExtendIndex(x, fileOf(file))
	want(t, call, extended, impl.IndexResult{Index: indexTold(x.Every, file)})
	checkIndex(t, call, extended.Index, x.Every, file)
	checkStarts(t, x, file)
	checkBytes(t, x, file)
}

func TestEachIndexOfShortFiles(t *testing.T) {
	for _, file := range shortFiles(7) {
		for every := int64(1); every <= 9; every++ {
			for size := range len(file) + 1 {
				checkAllOfIndex(t, indexTold(every, file[:size]), file)
			}
		}
	}
}

func TestIndexesOfSomeFiles(t *testing.T) {
	random := rand.New(rand.NewSource(5))
	for i, file := range someFiles(160) {
		every := int64(1 + i%9)
		checkAllOfIndex(t, impl.NewIndex(every).Index, file)
		checkAllOfIndex(t, indexTold(every, file), file)
		checkAllOfIndex(t, indexTold(every, file[:random.Intn(len(file)+1)]), file)
	}
}

func TestNewIndexesKnowNothing(t *testing.T) {
	for every := int64(1); every <= 9; every++ {
		x := impl.NewIndex(every)
		want(t, fmt.Sprint("NewIndex ", every), x, impl.IndexResult{Index: indexOf(every, 0, 0)})
		checkIndex(t, "NewIndex", x.Index, every, "")
		for _, file := range edgeFiles() {
			want(t, fmt.Sprintf("IndexTrue of a new one, %q", file), impl.IndexTrue(x.Index, fileOf(file)), true)
		}
	}
}

func TestLinesAroundMarks(t *testing.T) {
	f := fileOf("a\nbb\nccc\n\nd\n")
	x := impl.NewIndex(2).Index
	whole := indexOf(2, 5, 12, 5, 10)
	want(t, "ExtendIndex", impl.ExtendIndex(x, f), impl.IndexResult{Index: whole})
	for number, start := range []int64{0, 2, 5, 9, 10} {
		want(t, fmt.Sprint("LineStart ", number), impl.LineStart(x, f, int64(number)), impl.IndexResult{Value: start, Index: whole})
		want(t, fmt.Sprint("LineStart of the whole ", number), impl.LineStart(whole, f, int64(number)), impl.IndexResult{Value: start, Index: whole})
	}
	for at, number := range []int64{0, 0, 1, 1, 1, 2, 2, 2, 2, 3, 4, 4} {
		want(t, fmt.Sprint("LineAt ", at), impl.LineAt(x, f, int64(at)), impl.IndexResult{Value: number, Index: whole})
	}
	want(t, "LineStart behind the last line", impl.LineStart(x, f, 5), impl.IndexResult{Code: impl.ErrRange})
	want(t, "LineAt behind the last byte", impl.LineAt(x, f, 12), impl.IndexResult{Code: impl.ErrRange})
	want(t, "CountLines", impl.CountLines(x, f), impl.IndexResult{Value: 5, Index: whole})
}

func TestMarksJustAtTheEnd(t *testing.T) {
	x := impl.NewIndex(2).Index
	for _, step := range []struct {
		file  string
		count int64
		asked impl.Index
	}{
		{"", 0, indexOf(2, 0, 0)},
		{"\n", 1, indexOf(2, 1, 1)},
		{"\n\n", 2, indexOf(2, 2, 2, 2)},
		{"\n\n\n", 3, indexOf(2, 3, 3, 2)},
		{"a\nb", 2, indexOf(2, 1, 3)},
		{"a\nb\n", 2, indexOf(2, 2, 4, 4)},
		{"a\nb\nc", 3, indexOf(2, 2, 5, 4)},
		{"a\nb\n\n\n", 4, indexOf(2, 4, 6, 4, 6)},
	} {
		f := fileOf(step.file)
		want(t, fmt.Sprintf("CountLines %q", step.file), impl.CountLines(x, f), impl.IndexResult{Value: step.count, Index: step.asked})
		want(t, fmt.Sprintf("LineStart %q, behind the last line", step.file), impl.LineStart(x, f, step.count), impl.IndexResult{Code: impl.ErrRange})
		want(t, fmt.Sprintf("IndexTrue %q", step.file), impl.IndexTrue(step.asked, f), true)
		// The mark just at the end is no line until a byte comes behind it.
		if end := int64(len(step.file)); strings.HasSuffix(step.file, "\n") {
			grown := indexTold(2, step.file+"z")
			want(t, fmt.Sprintf("LineStart %q, grown", step.file), impl.LineStart(step.asked, fileOf(step.file+"z"), step.count), impl.IndexResult{Value: end, Index: grown})
			want(t, fmt.Sprintf("LineAt %q, grown", step.file), impl.LineAt(step.asked, fileOf(step.file+"z"), end), impl.IndexResult{Value: step.count, Index: grown})
		}
	}
}

func TestMarksOfLineFeedsAlone(t *testing.T) {
	for every := int64(1); every <= 9; every++ {
		for _, size := range []int64{1, every - 1, every, every + 1, 2 * every, 399, 400} {
			file := strings.Repeat("\n", int(size))
			x := impl.ExtendIndex(impl.NewIndex(every).Index, fileOf(file)).Index
			want(t, "Lines", x.Lines, size)
			want(t, "how many marks", int64(len(x.Marks)), size/every)
			for place, mark := range x.Marks {
				want(t, fmt.Sprintf("mark %d by %d", place, every), mark, every*int64(place+1))
			}
			checkAllOfIndex(t, x, file)
		}
	}
}

func TestIndexesHearPartByPart(t *testing.T) {
	random := rand.New(rand.NewSource(55))
	for i, file := range someFiles(300) {
		every := int64(1 + i%9)
		x, heard := impl.NewIndex(every).Index, 0
		for heard < len(file) {
			heard += min(1+random.Intn(60), len(file)-heard)
			x = impl.ExtendIndex(x, fileOf(file[:heard])).Index
			checkIndex(t, fmt.Sprintf("ExtendIndex to %d of %q", heard, file), x, every, file[:heard])
		}
		again := impl.ExtendIndex(x, fileOf(file))
		want(t, "ExtendIndex of a whole one", again, impl.IndexResult{Index: x})
	}
}

// cutTold is what CutIndex has to answer of a true index: what is told up to the last mark that is left.
func cutTold(x impl.Index, text string, size int64) impl.Index {
	if size >= x.Size {
		return x
	}
	last := int64(0)
	for _, mark := range x.Marks {
		if mark <= size {
			last = mark
		}
	}
	return indexTold(x.Every, text[:last])
}

func checkCut(t *testing.T, x impl.Index, file string, size int64) {
	t.Helper()
	call := fmt.Sprintf("CutIndex %v of %q, at %d", x, file, size)
	cut := impl.CutIndex(x, size)
	want(t, call, cut, impl.IndexResult{Index: cutTold(x, file, size)})
	want(t, "IndexFault behind "+call, impl.IndexFault(cut.Index), int64(impl.OK))
	left := file[:min(size, int64(len(file)))]
	want(t, "IndexTrue of what is left, behind "+call, impl.IndexTrue(cut.Index, fileOf(left)), true)
	want(t, "IndexTrue of the whole, behind "+call, impl.IndexTrue(cut.Index, fileOf(file)), true)
	// It goes on with other bytes than those that were cut off, too.
	for _, now := range []string{left, file, left + strings.Repeat("\nz\n", (400-len(left))/3)} {
		again := impl.ExtendIndex(cut.Index, fileOf(now))
		want(t, fmt.Sprintf("ExtendIndex behind %s, to %q", call, now), again, impl.IndexResult{Index: indexTold(x.Every, now)})
	}
}

func TestIndexesAreCutAtEachPlace(t *testing.T) {
	for _, file := range shortFiles(6) {
		for every := int64(1); every <= 4; every++ {
			for size := range int64(len(file) + 2) {
				checkCut(t, indexTold(every, file), file, size)
			}
		}
	}
	for i, file := range someFiles(60) {
		x := indexTold(int64(1+i%9), file)
		for _, size := range []int64{0, 1, x.Size / 2, max(x.Size, 1) - 1, x.Size, x.Size + 1, 399, 400, 401, 1 << 40} {
			checkCut(t, x, file, size)
		}
		for _, mark := range x.Marks[max(0, len(x.Marks)-6):] {
			checkCut(t, x, file, mark-1)
			checkCut(t, x, file, mark)
			checkCut(t, x, file, mark+1)
		}
	}
}

func TestWhatIsLeftOfACutIndex(t *testing.T) {
	x := indexOf(2, 5, 12, 5, 10) // of "a\nbb\nccc\n\nd\n"
	for _, step := range []struct {
		size  int64
		asked impl.Index
	}{
		{0, indexOf(2, 0, 0)}, {1, indexOf(2, 0, 0)}, {4, indexOf(2, 0, 0)},
		{5, indexOf(2, 2, 5, 5)}, {6, indexOf(2, 2, 5, 5)}, {9, indexOf(2, 2, 5, 5)},
		{10, indexOf(2, 4, 10, 5, 10)}, {11, indexOf(2, 4, 10, 5, 10)},
		{12, x}, {13, x}, {400, x}, {401, x}, {1 << 62, x},
	} {
		want(t, fmt.Sprint("CutIndex ", step.size), impl.CutIndex(x, step.size), impl.IndexResult{Index: step.asked})
	}
	// A mark just at the end is left where nothing is cut, and gone where one byte is.
	end := indexOf(3, 3, 7, 7)
	want(t, "CutIndex at the end", impl.CutIndex(end, 7), impl.IndexResult{Index: end})
	want(t, "CutIndex one below the end", impl.CutIndex(end, 6), impl.IndexResult{Index: indexOf(3, 0, 0)})
	// Without marks all is forgotten, or nothing.
	none := indexOf(9, 8, 400)
	want(t, "CutIndex without marks", impl.CutIndex(none, 399), impl.IndexResult{Index: indexOf(9, 0, 0)})
	want(t, "CutIndex without marks, at the end", impl.CutIndex(none, 400), impl.IndexResult{Index: none})
}

func TestWhateverIsHeardAndCut(t *testing.T) {
	random := rand.New(rand.NewSource(50))
	for i, file := range someFiles(200) {
		every := int64(1 + i%9)
		x := impl.NewIndex(every).Index
		for range 20 {
			switch random.Intn(3) {
			case 0:
				size := random.Intn(len(file) + 1)
				x, file = impl.CutIndex(x, int64(size)).Index, file[:size]
			case 1:
				file += strings.Repeat("\nab"[random.Intn(3):], random.Intn(1+(400-len(file))/3))
			default:
				x = impl.ExtendIndex(x, fileOf(file)).Index
			}
			want(t, fmt.Sprintf("IndexTrue %v of %q", x, file), impl.IndexTrue(x, fileOf(file)), true)
			checkStarts(t, x, file)
		}
	}
}

func TestIndexesThatAreTrueOrNot(t *testing.T) {
	file := "a\nbb\nccc\n\nd\n"
	for size := range len(file) + 1 {
		want(t, fmt.Sprint("IndexTrue of ", size), impl.IndexTrue(indexTold(2, file[:size]), fileOf(file)), true)
	}
	for _, x := range []impl.Index{
		indexOf(2, 5, 12, 5, 9), indexOf(2, 5, 12, 4, 10), indexOf(2, 5, 12, 6, 10), indexOf(2, 4, 12, 5, 10), indexOf(2, 5, 11, 5, 10),
		indexOf(2, 5, 10, 5, 10), indexOf(3, 4, 12, 9), indexOf(3, 5, 12, 8), indexOf(9, 4, 12), indexOf(9, 6, 12), indexOf(9, 0, 12), indexOf(2, 3, 12, 5),
		// These have faults, or hear of bytes that are not there.
		indexOf(2, 5, 12, 5), indexOf(2, 5, 12), indexOf(2, 5, 12, 5, 10, 12), indexOf(0, 0, 0), indexOf(10, 0, 0), {},
		indexOf(2, 5, 13, 5, 10), indexOf(2, 5, 400, 5, 10), indexOf(2, 5, 401, 5, 10),
	} {
		want(t, fmt.Sprintf("IndexTrue %v", x), impl.IndexTrue(x, fileOf(file)), false)
	}
	x := indexTold(2, file)
	want(t, "IndexTrue of more", impl.IndexTrue(x, fileOf(file+"\n\n")), true)
	want(t, "IndexTrue of one fewer", impl.IndexTrue(x, fileOf(file[:11])), false)
	want(t, "IndexTrue of nothing", impl.IndexTrue(x, impl.File{}), false)
	want(t, "IndexTrue of another byte that is none of its line feeds", impl.IndexTrue(x, fileOf("A\nbb\nccc\n\nd\n")), true)
	want(t, "IndexTrue where a line feed ahead of a mark is elsewhere", impl.IndexTrue(x, fileOf("\nabb\nccc\n\nd\n")), true)
	want(t, "IndexTrue where a line feed at a mark is elsewhere", impl.IndexTrue(x, fileOf("a\nb\nbccc\n\nd\n")), false)
	want(t, "IndexTrue where one more is behind the last mark", impl.IndexTrue(x, fileOf("a\nbb\nccc\n\n\n\n")), false)
	want(t, "IndexTrue of too long a file", impl.IndexTrue(impl.NewIndex(1).Index, impl.File{Bytes: make([]byte, 401)}), false)
}

// What an index holds is not heard again: it stays as it is told, also where the file has other bytes there.
func TestIndexesThatTellOtherwiseThanTheFile(t *testing.T) {
	f := fileOf("a\nbb\nccc\n\nd\n") // lines at 0, 2, 5, 9, 10
	for _, step := range []struct {
		x      impl.Index
		whole  impl.Index
		starts []int64
	}{
		// A mark at a wrong place: what is told from it on is counted from there.
		{indexOf(2, 2, 5, 4), indexOf(2, 5, 12, 4, 10), []int64{0, 2, 4, 5, 10}},
		{indexOf(2, 5, 12, 3, 11), indexOf(2, 5, 12, 3, 11), []int64{0, 2, 3, 5, 11}},
		// More line feeds than there are: the way from a mark may end with the file.
		{indexOf(3, 6, 9, 8, 9), indexOf(3, 8, 12, 8, 9), []int64{0, 2, 5, 8, 9}},
		{indexOf(3, 5, 12, 12), indexOf(3, 5, 12, 12), []int64{0, 2, 5, 12, 12}},
		{indexOf(4, 12, 12, 10, 11, 12), indexOf(4, 12, 12, 10, 11, 12), []int64{0, 2, 5, 9, 10}},
		// Fewer than there are: those that are missing are counted from the last mark that there is.
		{indexOf(1, 0, 12), indexOf(1, 0, 12), []int64{0, 2, 5, 9, 10}},
		{indexOf(2, 2, 12, 6), indexOf(2, 2, 12, 6), []int64{0, 2, 6, 9, 10}},
		{indexOf(1, 1, 8, 8), indexOf(1, 4, 12, 8, 9, 10, 12), []int64{0, 8, 9, 10, 12}},
	} {
		want(t, fmt.Sprintf("ExtendIndex %v", step.x), impl.ExtendIndex(step.x, f), impl.IndexResult{Index: step.whole})
		want(t, fmt.Sprintf("IndexTrue %v", step.x), impl.IndexTrue(step.x, f), false)
		want(t, fmt.Sprintf("IndexTrue %v", step.whole), impl.IndexTrue(step.whole, f), false)
		for number, start := range step.starts {
			call := fmt.Sprintf("LineStart %v, %d", step.x, number)
			want(t, call, impl.LineStart(step.x, f, int64(number)), impl.IndexResult{Value: start, Index: step.whole})
		}
		// Which lines there are, and which bytes they have, the file alone tells.
		want(t, fmt.Sprintf("LineStart %v, 5", step.x), impl.LineStart(step.x, f, 5), impl.IndexResult{Code: impl.ErrRange})
		want(t, fmt.Sprintf("CountLines %v", step.x), impl.CountLines(step.x, f), impl.IndexResult{Value: 5, Index: step.whole})
		for at, number := range []int64{0, 0, 1, 1, 1, 2, 2, 2, 2, 3, 4, 4} {
			call := fmt.Sprintf("LineAt %v, %d", step.x, at)
			want(t, call, impl.LineAt(step.x, f, int64(at)), impl.IndexResult{Value: number, Index: step.whole})
		}
	}
}
