package tests

import (
	"bytes"
	"fmt"
	"slices"
	"strings"
	"sync"
	"testing"

	"loop.example/g00414/impl"
)

// Promise 1, of chapter 2: every function answers at every argument, ends, and changes none;
// what it answers is new memory; it hangs on the arguments alone.

func TestFilesOfAsManyBytesAsThereMayBe(t *testing.T) {
	for size, asked := range map[int]int64{0: impl.OK, 1: impl.OK, 399: impl.OK, 400: impl.OK, 401: impl.ErrMany, 402: impl.ErrMany, 1 << 20: impl.ErrMany} {
		want(t, fmt.Sprintf("FileFault of %d bytes", size), impl.FileFault(impl.File{Bytes: make([]byte, size)}), asked)
	}
	// What stands in memory behind the end is not of the file.
	want(t, "FileFault", impl.FileFault(impl.File{Bytes: make([]byte, 400, 5000)}), int64(impl.OK))
}

func TestFaultOfAFileComesFirst(t *testing.T) {
	numbers := append(farNumbers(), -1, 0, 1, 400, 401, 402)
	for _, size := range []int{401, 402, 5000} {
		f := impl.File{Bytes: bytes.Repeat([]byte("x\n"), size)[:size]}
		for _, data := range [][]byte{nil, {}, []byte("a"), make([]byte, 500)} {
			want(t, "AppendFile", impl.AppendFile(f, data), impl.FileResult{Code: impl.ErrMany})
		}
		want(t, "LinesIn", impl.LinesIn(f), impl.LinesResult{Code: impl.ErrMany})
		for _, number := range numbers {
			want(t, fmt.Sprint("CutFile ", number), impl.CutFile(f, number), impl.FileResult{Code: impl.ErrMany})
			want(t, fmt.Sprint("LineBytes ", number), impl.LineBytes(f, number), impl.BytesResult{Code: impl.ErrMany})
			want(t, fmt.Sprint("ReadPart at ", number), impl.ReadPart(f, number, 1, 1), impl.BytesResult{Code: impl.ErrMany})
			want(t, fmt.Sprint("ReadPart n ", number), impl.ReadPart(f, 0, number, 1), impl.BytesResult{Code: impl.ErrMany})
			want(t, fmt.Sprint("ReadPart most ", number), impl.ReadPart(f, 0, 1, number), impl.BytesResult{Code: impl.ErrMany})
			want(t, fmt.Sprint("ReadPart all ", number), impl.ReadPart(f, number, number, number), impl.BytesResult{Code: impl.ErrMany})
		}
	}
}

func TestNumbersOfFilesThatLeaveTheirBounds(t *testing.T) {
	wrong := impl.BytesResult{Code: impl.ErrRange}
	for _, file := range []string{"", "a", "\n", "ab\nc", strings.Repeat("x\n", 200)} {
		f, end := fileOf(file), int64(len(file))
		for _, number := range append(farNumbers(), -2, -1, 401) {
			call := fmt.Sprintf("of %d bytes, %d", end, number)
			want(t, "CutFile "+call, impl.CutFile(f, number), impl.FileResult{Code: impl.ErrRange})
			want(t, "LineBytes "+call, impl.LineBytes(f, number), wrong)
			want(t, "ReadPart n "+call, impl.ReadPart(f, 0, number, 1), wrong)
			want(t, "ReadPart most "+call, impl.ReadPart(f, 0, 1, number), wrong)
			want(t, "ReadPart n from the end "+call, impl.ReadPart(f, end, number, 400), wrong)
			want(t, "ReadPart most from behind "+call, impl.ReadPart(f, end+1, 0, number), wrong)
			want(t, "ReadPart all "+call, impl.ReadPart(f, number, number, number), wrong)
			if number < 0 {
				want(t, "ReadPart at "+call, impl.ReadPart(f, number, 1, 1), wrong)
				want(t, "ReadPart at, of nothing "+call, impl.ReadPart(f, number, 0, 400), wrong)
			}
		}
		want(t, "ReadPart, most 0", impl.ReadPart(f, 0, 1, 0), wrong)
		want(t, "ReadPart of nothing, most 0", impl.ReadPart(f, 0, 0, 0), wrong)
		want(t, "CutFile behind the end", impl.CutFile(f, end+1), impl.FileResult{Code: impl.ErrRange})
		want(t, "ReadPart of nothing", impl.ReadPart(f, 0, 0, 1), impl.BytesResult{})
	}
}

func TestEmptyFilesAndNilAreTheSame(t *testing.T) {
	for _, f := range []impl.File{{}, {Bytes: []byte{}}, {Bytes: make([]byte, 0, 500)}} {
		want(t, "FileFault", impl.FileFault(f), int64(impl.OK))
		want(t, "LinesIn", impl.LinesIn(f), impl.LinesResult{})
		want(t, "LineBytes", impl.LineBytes(f, 0), impl.BytesResult{Code: impl.ErrRange})
		want(t, "ReadPart", impl.ReadPart(f, 0, 400, 400), impl.BytesResult{})
		want(t, "CutFile", impl.CutFile(f, 0), impl.FileResult{})
		for _, data := range [][]byte{nil, {}, make([]byte, 0, 500)} {
			want(t, "AppendFile", impl.AppendFile(f, data), impl.FileResult{})
			want(t, "AppendFile", impl.AppendFile(fileOf("a"), data), impl.FileResult{File: fileOf("a")})
		}
		want(t, "AppendFile", impl.AppendFile(f, []byte("a")), impl.FileResult{File: fileOf("a")})
	}
}

// listsOfFile asks every function of the chapter that answers bytes.
func listsOfFile(f impl.File, data []byte) [][]byte {
	half := int64(len(f.Bytes) / 2)
	return [][]byte{
		impl.AppendFile(f, data).File.Bytes, impl.AppendFile(f, nil).File.Bytes, impl.AppendFile(impl.File{}, data).File.Bytes,
		impl.CutFile(f, half).File.Bytes, impl.CutFile(f, 0).File.Bytes, impl.CutFile(f, int64(len(f.Bytes))).File.Bytes,
		impl.ReadPart(f, half, 400, 400).Bytes, impl.ReadPart(f, 0, 400, 400).Bytes, impl.ReadPart(f, 0, 3, 2).Bytes, impl.ReadPart(f, 400, 0, 1).Bytes,
		impl.LineBytes(f, 0).Bytes, impl.LineBytes(f, 1).Bytes, impl.LineBytes(f, 2).Bytes,
	}
}

func clones(lists [][]byte) [][]byte {
	kept := make([][]byte, len(lists))
	for i, list := range lists {
		kept[i] = bytes.Clone(list)
	}
	return kept
}

func TestFilesThatAreHandedInStayAsTheyAre(t *testing.T) {
	for _, file := range append(someFiles(200), strings.Repeat("x\n", 201)) {
		part, whole := guarded([]byte(file))
		more, wholeMore := guarded([]byte("b\nc"))
		kept, keptMore := bytes.Clone(whole), bytes.Clone(wholeMore)
		f := impl.File{Bytes: part}
		listsOfFile(f, more)
		impl.FileFault(f)
		impl.LinesIn(f)
		for number := int64(-1); number <= int64(len(file)+1); number++ {
			impl.LineBytes(f, number)
			impl.CutFile(f, number)
			impl.ReadPart(f, number, 7, 5)
		}
		if !bytes.Equal(whole, kept) || !bytes.Equal(wholeMore, keptMore) {
			t.Fatalf("%q and %q were changed to %q and %q", kept, keptMore, whole, wholeMore)
		}
	}
}

func TestBytesOfFilesShareNoMemory(t *testing.T) {
	for _, file := range someFiles(200) {
		part, whole := guarded([]byte(file))
		more, wholeMore := guarded([]byte("b\nc"))
		kept, keptMore := bytes.Clone(whole), bytes.Clone(wholeMore)
		lists := listsOfFile(impl.File{Bytes: part}, more)
		asked := clones(lists)
		overwrite(whole, 'Z')
		overwrite(wholeMore, 'Z')
		for i, list := range lists {
			if !bytes.Equal(list, asked[i]) {
				t.Fatalf("answer %d of %q turned with its argument", i, file)
			}
		}
		copy(whole, kept)
		copy(wholeMore, keptMore)
		for i, list := range lists {
			overwrite(list, 'Y')
			if !bytes.Equal(whole, kept) || !bytes.Equal(wholeMore, keptMore) {
				t.Fatalf("%q turned with answer %d", file, i)
			}
			for j := i + 1; j < len(lists); j++ {
				if !bytes.Equal(lists[j], asked[j]) {
					t.Fatalf("answers %d and %d of %q share memory", i, j, file)
				}
			}
		}
	}
}

func TestLinesShareNoMemory(t *testing.T) {
	for _, file := range someFiles(200) {
		part, whole := guarded([]byte(file))
		first, second := impl.LinesIn(impl.File{Bytes: part}).Lines, impl.LinesIn(impl.File{Bytes: part}).Lines
		asked := slices.Clone(first)
		overwrite(whole, '\n')
		if !slices.Equal(first, asked) {
			t.Fatalf("the lines of %q turned with it", file)
		}
		overwrite(first, impl.Line{From: -1, Size: -1})
		if !slices.Equal(second, asked) {
			t.Fatalf("two lists of lines of %q share memory", file)
		}
	}
}

// allOfFile asks every function of the chapter about a file.
func allOfFile(f impl.File) string {
	answers := fmt.Sprint(impl.FileFault(f), impl.LinesIn(f), listsOfFile(f, []byte("b\nc")), impl.AppendFile(f, f.Bytes))
	for number := int64(-1); number <= int64(len(f.Bytes)+1); number++ {
		answers += fmt.Sprint(impl.LineBytes(f, number), impl.CutFile(f, number), impl.ReadPart(f, number, number, 9))
	}
	return answers
}

func TestAnswersOfFilesHangOnTheArgumentsAlone(t *testing.T) {
	files := append(someFiles(80), strings.Repeat("x\n", 201))
	first := make([]string, len(files))
	for i, file := range files {
		first[i] = allOfFile(fileOf(file))
	}
	var group sync.WaitGroup
	for range 4 {
		group.Go(func() {
			for i, file := range slices.Backward(files) {
				roomy, _ := guarded([]byte(file))
				if again := allOfFile(impl.File{Bytes: roomy}); again != first[i] {
					t.Errorf("%q was answered in two ways:\n%s\n%s", file, first[i], again)
				}
			}
		})
	}
	group.Wait()
}
