package tests

import (
	"bytes"
	"fmt"
	"math"
	"slices"
	"strings"
	"sync"
	"testing"

	"loop.example/g00414/impl"
)

// Promise 1, of chapter 4: every function answers at every argument, ends, and changes none;
// what it answers is new memory; it hangs on the arguments alone.

func TestBoundsOfEvery(t *testing.T) {
	every := map[int64]bool{-1: false, 0: false, 1: true, 2: true, 8: true, 9: true, 10: false}
	for _, number := range farNumbers() {
		every[number] = false
	}
	for number, good := range every {
		asked := impl.IndexResult{Code: impl.ErrRange}
		if good {
			asked = impl.IndexResult{Index: indexOf(number, 0, 0)}
		}
		x := indexOf(number, 0, 0)
		want(t, fmt.Sprint("NewIndex ", number), impl.NewIndex(number), asked)
		want(t, fmt.Sprint("IndexFault ", number), impl.IndexFault(x), asked.Code)
		want(t, fmt.Sprint("CutIndex ", number), impl.CutIndex(x, 0), asked)
		want(t, fmt.Sprint("ExtendIndex ", number), impl.ExtendIndex(x, impl.File{}), asked)
		want(t, fmt.Sprint("CountLines ", number), impl.CountLines(x, impl.File{}), asked)
		want(t, fmt.Sprint("IndexTrue ", number), impl.IndexTrue(x, impl.File{}), good)
		want(t, fmt.Sprint("LineStart ", number), impl.LineStart(x, fileOf("a"), 0).Code, asked.Code)
		want(t, fmt.Sprint("LineAt ", number), impl.LineAt(x, fileOf("a"), 0).Code, asked.Code)
	}
}

// faultyIndexes are indexes with a fault, by the code that comes first.
func faultyIndexes() map[int64][]impl.Index {
	faulty := map[int64][]impl.Index{
		impl.ErrRange: {
			{}, indexOf(0, 0, 0), indexOf(10, 0, 0), indexOf(-1, 0, 0), indexOf(2, 0, -1), indexOf(2, 0, 401), indexOf(2, -1, 0), indexOf(2, -1, 400),
			indexOf(2, 1, 0), indexOf(9, 6, 5), indexOf(9, 401, 400), indexOf(9, 401, 401), indexOf(1, -1, -1),
			// These bounds are asked ahead of how many marks there are, and of all that these are.
			indexOf(0, 4, 4), indexOf(10, 4, 4, 1, 2), indexOf(2, 5, 4), indexOf(2, 4, 401), indexOf(2, -2, 4, 1), indexOf(2, 0, -1, 1, 1),
			// One below the least place, and one above Size.
			indexOf(1, 1, 5, 0), indexOf(3, 3, 5, 2), indexOf(9, 9, 9, 8), indexOf(2, 4, 9, 2, 3), indexOf(2, 4, 9, 1, 4), indexOf(3, 9, 20, 5, 6, 8),
			indexOf(1, 1, 5, 6), indexOf(9, 9, 9, 10), indexOf(2, 4, 9, 2, 10), indexOf(2, 4, 9, 10, 11), indexOf(9, 9, 400, 401), indexOf(1, 1, 5, -1),
			// These do not rise.
			indexOf(1, 2, 5, 3, 3), indexOf(2, 4, 9, 9, 9), indexOf(1, 3, 5, 4, 5, 5), indexOf(1, 2, 5, 4, 3), indexOf(2, 6, 20, 9, 10, 9), indexOf(1, 3, 9, 5, 4, 6),
		},
		impl.ErrForm: {
			indexOf(2, 4, 9, 2), indexOf(2, 4, 9), indexOf(2, 4, 9, 2, 4, 6), indexOf(2, 5, 9, 2), indexOf(2, 5, 9, 2, 4, 6), indexOf(2, 1, 9, 2), indexOf(2, 0, 0, 0),
			indexOf(9, 8, 9, 9), indexOf(9, 9, 9), indexOf(9, 10, 10), indexOf(1, 400, 400), indexOf(1, 0, 400, 1),
			// How many there are is asked ahead of all that these are.
			indexOf(2, 4, 9, -1), indexOf(2, 4, 9, 4, 4, 4), indexOf(2, 4, 9, 500), indexOf(1, 0, 0, math.MinInt64, math.MaxInt64),
			{Every: 1, Lines: 400, Size: 400, Marks: make([]int64, 401)}, {Every: 9, Size: 400, Marks: make([]int64, 1000)},
		},
	}
	for _, far := range farNumbers() {
		faulty[impl.ErrRange] = append(faulty[impl.ErrRange],
			indexOf(far, 0, 0), indexOf(far, 4, 9, 5), indexOf(2, far, 9, 5), indexOf(2, 0, far), indexOf(2, far, far), indexOf(far, far, far, far),
			indexOf(1, 1, 9, far), indexOf(1, 2, 9, far, 5), indexOf(1, 2, 9, 5, far), indexOf(9, 9, 400, far))
	}
	return faulty
}

func TestFaultsOfIndexes(t *testing.T) {
	for code, indexes := range faultyIndexes() {
		for _, x := range indexes {
			want(t, fmt.Sprintf("IndexFault %+v", x), impl.IndexFault(x), code)
		}
	}
	least := impl.Index{Every: 1, Lines: 400, Size: 400}
	for mark := range int64(400) {
		least.Marks = append(least.Marks, mark+1)
	}
	for _, x := range []impl.Index{
		least, indexOf(1, 0, 0), indexOf(9, 0, 0), indexOf(1, 0, 400), indexOf(9, 0, 400), indexOf(9, 8, 8), indexOf(9, 8, 400), indexOf(2, 1, 1),
		// A mark just at its least place, and just at Size.
		indexOf(1, 1, 1, 1), indexOf(1, 1, 5, 1), indexOf(1, 1, 5, 5), indexOf(9, 9, 9, 9), indexOf(9, 9, 400, 9), indexOf(9, 9, 400, 400),
		indexOf(2, 4, 9, 2, 4), indexOf(2, 5, 9, 2, 4), indexOf(2, 4, 9, 8, 9), indexOf(2, 4, 9, 3, 4), indexOf(3, 9, 20, 3, 6, 9), indexOf(3, 11, 20, 18, 19, 20),
		{Every: 3, Marks: []int64{}}, {Every: 3, Marks: make([]int64, 0, 9)}, {Every: 3, Lines: 3, Size: 3, Marks: append(make([]int64, 0, 9), 3)},
	} {
		want(t, fmt.Sprintf("IndexFault %+v", x), impl.IndexFault(x), int64(impl.OK))
	}
}

func TestFaultOfAnIndexComesFirst(t *testing.T) {
	files := []impl.File{{}, fileOf("ab\ncd\nef"), {Bytes: make([]byte, 401)}}
	for code, indexes := range faultyIndexes() {
		asked := impl.IndexResult{Code: code}
		for _, x := range indexes {
			for _, f := range files {
				call := fmt.Sprintf("of %+v, %d bytes", x, len(f.Bytes))
				want(t, "ExtendIndex "+call, impl.ExtendIndex(x, f), asked)
				want(t, "CountLines "+call, impl.CountLines(x, f), asked)
				want(t, "IndexTrue "+call, impl.IndexTrue(x, f), false)
			}
			for i, number := range append(farNumbers(), -1, 0, 1, 400, 401) {
				call := fmt.Sprintf("of %+v, %d", x, number)
				want(t, "LineStart "+call, impl.LineStart(x, files[i%len(files)], number), asked)
				want(t, "LineAt "+call, impl.LineAt(x, files[i%len(files)], number), asked)
				want(t, "CutIndex "+call, impl.CutIndex(x, number), asked)
			}
		}
	}
}

// wantOfFile asks every function that takes a file, with good numbers and wrong ones, for one code.
func wantOfFile(t *testing.T, x impl.Index, f impl.File, code int64) {
	t.Helper()
	call, asked := fmt.Sprintf("of %+v, %d bytes", x, len(f.Bytes)), impl.IndexResult{Code: code}
	want(t, "ExtendIndex "+call, impl.ExtendIndex(x, f), asked)
	want(t, "CountLines "+call, impl.CountLines(x, f), asked)
	want(t, "IndexTrue "+call, impl.IndexTrue(x, f), false)
	for _, number := range append(farNumbers(), -1, 0, 1, 400, 401) {
		want(t, fmt.Sprintf("LineStart %s, %d", call, number), impl.LineStart(x, f, number), asked)
		want(t, fmt.Sprintf("LineAt %s, %d", call, number), impl.LineAt(x, f, number), asked)
	}
}

func TestFaultOfAFileComesBehindThatOfAnIndex(t *testing.T) {
	for _, size := range []int{401, 402, 5000} {
		for _, x := range []impl.Index{indexOf(1, 0, 0), indexOf(9, 0, 400), indexOf(2, 2, 400, 5), indexOf(1, 1, 1, 1)} {
			wantOfFile(t, x, impl.File{Bytes: make([]byte, size)}, impl.ErrMany)
			wantOfFile(t, x, fileOf(strings.Repeat("\n", size)), impl.ErrMany)
		}
	}
}

func TestFilesOfFewerBytesThanAnIndexHeard(t *testing.T) {
	for _, x := range []impl.Index{indexOf(1, 0, 1), indexOf(1, 1, 1, 1), indexOf(2, 2, 5, 5), indexOf(9, 0, 400), indexOf(9, 9, 400, 400)} {
		text := strings.Repeat("a", int(x.Size))
		wantOfFile(t, x, impl.File{}, impl.ErrState)
		wantOfFile(t, x, fileOf(text[:x.Size-1]), impl.ErrState)
		want(t, "ExtendIndex of just Size", impl.ExtendIndex(x, fileOf(text)), impl.IndexResult{Index: x})
		want(t, "CountLines of just Size", impl.CountLines(x, fileOf(text)), impl.IndexResult{Value: 1, Index: x})
		want(t, "LineAt of just Size", impl.LineAt(x, fileOf(text), x.Size-1), impl.IndexResult{Index: x})
		want(t, "LineStart of just Size", impl.LineStart(x, fileOf(text), 0), impl.IndexResult{Index: x})
	}
	want(t, "ExtendIndex of more", impl.ExtendIndex(indexOf(2, 2, 3, 3), fileOf("\n\nabc\n\n")), impl.IndexResult{Index: indexOf(2, 4, 7, 3, 7)})
}

func TestNumbersOfLinesThatLeaveTheirBounds(t *testing.T) {
	wrong := impl.IndexResult{Code: impl.ErrRange}
	for _, file := range []string{"", "a", "a\n", "ab\ncd\nef", strings.Repeat("\n", 400), strings.Repeat("x", 400)} {
		f, count := fileOf(file), int64(len(startsOf(file)))
		for _, x := range []impl.Index{indexOf(1, 0, 0), indexOf(9, 0, 0), indexTold(1, file), indexTold(2, file)} {
			for _, number := range append(farNumbers(), -2, -1, 401, 402) {
				call := fmt.Sprintf("of %+v, %d", x, number)
				want(t, "LineStart "+call, impl.LineStart(x, f, number), wrong)
				want(t, "LineAt "+call, impl.LineAt(x, f, number), wrong)
				if number < 0 {
					want(t, "CutIndex "+call, impl.CutIndex(x, number), wrong)
				} else {
					want(t, "CutIndex "+call, impl.CutIndex(x, number), impl.IndexResult{Index: x})
				}
			}
			want(t, "LineStart of one more", impl.LineStart(x, f, count), wrong)
			want(t, "LineAt behind the last byte", impl.LineAt(x, f, int64(len(file))), wrong)
		}
	}
}

func TestEmptyMarksAndNilAreTheSame(t *testing.T) {
	for _, f := range []impl.File{{}, {Bytes: []byte{}}, {Bytes: make([]byte, 0, 500)}} {
		for _, marks := range [][]int64{nil, {}, make([]int64, 0, 9)} {
			x, asked := impl.Index{Every: 3, Marks: marks}, impl.IndexResult{Index: indexOf(3, 0, 0)}
			want(t, "IndexFault", impl.IndexFault(x), int64(impl.OK))
			want(t, "IndexTrue", impl.IndexTrue(x, f), true)
			want(t, "CutIndex", impl.CutIndex(x, 0), asked)
			want(t, "ExtendIndex", impl.ExtendIndex(x, f), asked)
			want(t, "CountLines", impl.CountLines(x, f), asked)
			want(t, "LineStart", impl.LineStart(x, f, 0), impl.IndexResult{Code: impl.ErrRange})
			want(t, "LineAt", impl.LineAt(x, f, 0), impl.IndexResult{Code: impl.ErrRange})
			want(t, "ExtendIndex of a line feed", impl.ExtendIndex(x, fileOf("\n")), impl.IndexResult{Index: indexOf(3, 1, 1)})
		}
	}
}

// roomyIndex is an index with room behind its marks, and all that stands there.
func roomyIndex(x impl.Index) (impl.Index, []int64) {
	whole := append(make([]int64, 0, len(x.Marks)+8), x.Marks...)
	for range 8 {
		whole = append(whole, 170)
	}
	x.Marks = whole[:len(x.Marks):len(whole)]
	return x, whole
}

// answersOfIndex asks every function of the chapter that answers an index.
func answersOfIndex(x impl.Index, f impl.File) []impl.IndexResult {
	answers := []impl.IndexResult{impl.NewIndex(x.Every), impl.ExtendIndex(x, f), impl.CountLines(x, f)}
	for _, number := range []int64{-1, 0, 1, 2, 5, 9, x.Size - 1, x.Size, 399, 400, 1 << 40} {
		answers = append(answers, impl.LineStart(x, f, number), impl.LineAt(x, f, number), impl.CutIndex(x, number))
	}
	return answers
}

// someIndexes are indexes with files: some true, some not, some with faults.
func someIndexes() (indexes []impl.Index, files []string) {
	add := func(file string, more ...impl.Index) {
		for _, x := range more {
			indexes, files = append(indexes, x), append(files, file)
		}
	}
	for _, file := range append(edgeFiles(), "a\nbb\nccc\n\nd\n", strings.Repeat("ab\n", 133), strings.Repeat("x", 401)) {
		for _, every := range []int64{1, 2, 3, 9} {
			add(file, impl.NewIndex(every).Index, indexTold(every, file), indexTold(every, file[:len(file)/2]))
		}
		add(file, indexOf(1, 2, 5, 3, 5), indexOf(1, 2, 5, 5, 5), indexOf(2, 5, 12, 3, 11), indexOf(3, 6, 9, 8, 9), indexOf(3, 5, 12, 12), indexOf(2, 5, 12))
	}
	return indexes, files
}

func TestIndexesThatAreHandedInStayAsTheyAre(t *testing.T) {
	indexes, files := someIndexes()
	for i := range indexes {
		part, whole := guarded([]byte(files[i]))
		x, marks := roomyIndex(indexes[i])
		kept, keptMarks := bytes.Clone(whole), slices.Clone(marks)
		answersOfIndex(x, impl.File{Bytes: part})
		impl.IndexFault(x)
		impl.IndexTrue(x, impl.File{Bytes: part})
		if !bytes.Equal(whole, kept) || !slices.Equal(marks, keptMarks) {
			t.Fatalf("%v and %q were changed to %v and %q", indexes[i], kept, marks, whole)
		}
	}
}

func TestMarksShareNoMemory(t *testing.T) {
	indexes, files := someIndexes()
	for i := range indexes {
		x, marks := roomyIndex(indexes[i])
		lists := [][]int64{marks}
		for _, answer := range answersOfIndex(x, fileOf(files[i])) {
			lists = append(lists, answer.Index.Marks)
		}
		for j, list := range lists {
			// A number of its own for each list: one that another one has reached into is found out behind all.
			overwrite(list, int64(1000+j))
		}
		for j, list := range lists {
			for _, mark := range list[:cap(list)] {
				if mark != int64(1000+j) {
					t.Fatalf("lists %d and %d of marks of %v share memory", j, mark-1000, indexes[i])
				}
			}
		}
	}
}

func TestAnswersOfIndexesHangOnTheArgumentsAlone(t *testing.T) {
	indexes, files := someIndexes()
	all := func(i int) string {
		x, f := indexes[i], fileOf(files[i])
		return fmt.Sprint(impl.IndexFault(x), impl.IndexTrue(x, f), answersOfIndex(x, f))
	}
	first := make([]string, len(indexes))
	for i := range indexes {
		first[i] = all(i)
	}
	var group sync.WaitGroup
	for range 4 {
		group.Go(func() {
			for i := range slices.Backward(indexes) {
				if again := all(i); again != first[i] {
					t.Errorf("%v was answered in two ways:\n%s\n%s", indexes[i], first[i], again)
				}
			}
		})
	}
	group.Wait()
}
