package tests

import (
	"fmt"
	"strings"
	"testing"

	"loop.example/g00414/impl"
)

// Promise 3: what was put behind a file and cut off again is gone, and parts that are read make the whole;
// the lines of a file, with their line feeds, make the whole.

// checkAppended puts data behind a file and cuts it off again.
func checkAppended(t *testing.T, file string, data string) {
	t.Helper()
	got := impl.AppendFile(fileOf(file), []byte(data))
	if len(file)+len(data) > 400 {
		want(t, fmt.Sprintf("AppendFile of %d and %d bytes", len(file), len(data)), got, impl.FileResult{Code: impl.ErrMany})
		return
	}
	want(t, fmt.Sprintf("AppendFile %q, %q", file, data), got, impl.FileResult{File: fileOf(file + data)})
	want(t, "FileFault of what it became", impl.FileFault(got.File), int64(impl.OK))
	cut := impl.CutFile(got.File, int64(len(file)))
	want(t, fmt.Sprintf("CutFile of %q and %q", file, data), cut, impl.FileResult{File: fileOf(file)})
}

func TestWhatWasPutBehindAndCutOffIsGone(t *testing.T) {
	files := someFiles(200)
	for _, file := range files {
		for _, data := range []string{"", "a", "\n", "\n\n", "ab\nc", "\x00\xff"} {
			checkAppended(t, file, data)
		}
	}
	for i, file := range files {
		checkAppended(t, file, files[len(files)-1-i])
	}
}

func TestFilesThatBecomeAsLongAsTheyMay(t *testing.T) {
	long := strings.Repeat("0123456789", 50)
	for _, size := range []int{0, 1, 2, 199, 200, 399, 400} {
		for _, more := range []int{0, 1, 399 - size, 400 - size, 401 - size, 400, 401, 500} {
			if more >= 0 {
				checkAppended(t, long[:size], long[:more])
			}
		}
	}
	want(t, "AppendFile", impl.AppendFile(fileOf(""), make([]byte, 1<<20)), impl.FileResult{Code: impl.ErrMany})
}

func TestFilesAreCutAtEachPlace(t *testing.T) {
	for _, file := range someFiles(60) {
		for size := range len(file) + 1 {
			want(t, fmt.Sprintf("CutFile %q at %d", file, size), impl.CutFile(fileOf(file), int64(size)), impl.FileResult{File: fileOf(file[:size])})
		}
		want(t, fmt.Sprintf("CutFile %q behind its end", file), impl.CutFile(fileOf(file), int64(len(file)+1)), impl.FileResult{Code: impl.ErrRange})
	}
}

// partTold is what is read, byte by byte.
func partTold(file string, at int64, n int64, most int64) impl.BytesResult {
	var part []byte
	for place, b := range []byte(file) {
		if int64(place) >= at && int64(len(part)) < n && int64(len(part)) < most {
			part = append(part, b)
		}
	}
	return impl.BytesResult{Bytes: part}
}

func checkPart(t *testing.T, file string, at int64, n int64, most int64) {
	t.Helper()
	want(t, fmt.Sprintf("ReadPart %q at %d, %d, %d", file, at, n, most), impl.ReadPart(fileOf(file), at, n, most), partTold(file, at, n, most))
}

func TestPartsAreAsLongAsTheyCanBe(t *testing.T) {
	for _, file := range []string{"", "\n", "a", "ab", "a\nb", "\n\n\n\n", "abcdef"} {
		for at := range int64(len(file) + 3) {
			for n := range int64(len(file) + 3) {
				for most := int64(1); most <= int64(len(file)+3); most++ {
					checkPart(t, file, at, n, most)
				}
			}
		}
	}
	for _, file := range edgeFiles() {
		end := int64(len(file))
		for _, at := range []int64{0, 1, end / 2, end - 1, end, end + 1, 399, 400, 401, 1000} {
			for _, n := range []int64{0, 1, 2, end / 2, end, 399, 400} {
				for _, most := range []int64{1, 2, end/2 + 1, 399, 400} {
					if at >= 0 {
						checkPart(t, file, at, n, most)
					}
				}
			}
		}
	}
}

func TestReadsBehindTheEndTellNothing(t *testing.T) {
	for _, file := range []string{"", "a", "a\n", strings.Repeat("x", 400)} {
		for _, at := range append(farNumbers(), int64(len(file)), int64(len(file))+1, 401) {
			if at >= int64(len(file)) {
				want(t, fmt.Sprintf("ReadPart of %d bytes at %d", len(file), at), impl.ReadPart(fileOf(file), at, 400, 400), impl.BytesResult{})
			}
		}
	}
}

func TestPartsThatAreReadMakeTheWhole(t *testing.T) {
	sizes := []int64{1, 2, 3, 7, 64, 199, 399, 400}
	for _, file := range someFiles(80) {
		for _, n := range sizes {
			for _, most := range sizes {
				whole, reads := "", 0
				for {
					part := impl.ReadPart(fileOf(file), int64(len(whole)), n, most)
					if len(part.Bytes) == 0 || reads > 400 {
						break
					}
					whole, reads = whole+string(part.Bytes), reads+1
				}
				if once := int(min(n, most)); whole != file || reads != (len(file)+once-1)/once {
					t.Errorf("%d reads by %d, %d of %q made %q", reads, n, most, file, whole)
				}
			}
		}
	}
}

// checkLines holds the lines of a file against what the library cuts it into.
func checkLines(t *testing.T, file string) {
	t.Helper()
	pieces := strings.SplitAfter(file, "\n")
	if pieces[len(pieces)-1] == "" {
		pieces = pieces[:len(pieces)-1]
	}
	var asked []impl.Line
	whole := ""
	for i, piece := range pieces {
		line := strings.TrimSuffix(piece, "\n")
		asked = append(asked, impl.Line{From: int64(len(whole)), Size: int64(len(line))})
		got := impl.LineBytes(fileOf(file), int64(i))
		want(t, fmt.Sprintf("LineBytes %q, %d", file, i), got, impl.BytesResult{Bytes: []byte(line)})
		whole += string(got.Bytes)
		if len(whole) < len(file) || strings.HasSuffix(file, "\n") {
			whole += "\n"
		}
	}
	if whole != file {
		t.Errorf("the lines of %q, with their line feeds, make %q", file, whole)
	}
	want(t, fmt.Sprintf("LinesIn %q", file), impl.LinesIn(fileOf(file)), impl.LinesResult{Lines: asked})
	for _, number := range append(farNumbers(), -1, int64(len(pieces)), int64(len(pieces))+1, 400, 401) {
		if number < 0 || number >= int64(len(pieces)) {
			want(t, fmt.Sprintf("LineBytes %q, %d", file, number), impl.LineBytes(fileOf(file), number), impl.BytesResult{Code: impl.ErrRange})
		}
	}
}

func TestLinesWithTheirLineFeedsMakeTheWhole(t *testing.T) {
	for _, file := range shortFiles(9) {
		checkLines(t, file)
	}
	for _, file := range someFiles(300) {
		checkLines(t, file)
	}
}

func TestLinesOfSomeFiles(t *testing.T) {
	for file, asked := range map[string][]impl.Line{
		"":           nil,
		"\n":         {{From: 0, Size: 0}},
		"\n\n":       {{From: 0, Size: 0}, {From: 1, Size: 0}},
		"a":          {{From: 0, Size: 1}},
		"a\n":        {{From: 0, Size: 1}},
		"a\nb":       {{From: 0, Size: 1}, {From: 2, Size: 1}},
		"\na":        {{From: 0, Size: 0}, {From: 1, Size: 1}},
		"ab\n\nc":    {{From: 0, Size: 2}, {From: 3, Size: 0}, {From: 4, Size: 1}},
		"ab\n\nc\n":  {{From: 0, Size: 2}, {From: 3, Size: 0}, {From: 4, Size: 1}},
		"ab\n\n\r\n": {{From: 0, Size: 2}, {From: 3, Size: 0}, {From: 4, Size: 1}},
	} {
		want(t, fmt.Sprintf("LinesIn %q", file), impl.LinesIn(fileOf(file)), impl.LinesResult{Lines: asked})
	}
	whole := strings.Repeat("\n", 400)
	if lines := impl.LinesIn(fileOf(whole)).Lines; len(lines) != 400 || lines[399] != (impl.Line{From: 399}) {
		t.Errorf("400 line feeds are %d lines", len(lines))
	}
	want(t, "the last one", impl.LineBytes(fileOf(whole), 399), impl.BytesResult{})
	want(t, "the one behind", impl.LineBytes(fileOf(whole), 400), impl.BytesResult{Code: impl.ErrRange})
}
