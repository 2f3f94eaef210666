package tests

import (
	"math"
	"math/rand"
	"reflect"
	"strings"
	"testing"

	"loop.example/g00414/impl"
)

// farNumbers leave every bound of the document, some of them only for one who cuts a number to fewer bits.
func farNumbers() []int64 {
	return []int64{
		math.MinInt64, math.MinInt64 + 1, math.MinInt64 + 65, -1 << 33, -1<<32 + 65, -1<<31 - 1, -65536 + 65, -256 + 65, -65,
		1<<16 + 65, 1 << 31, 1<<32 + 1, 1<<32 + 65, 1 << 33, 1<<62 + 65, math.MaxInt64 - 1, math.MaxInt64,
	}
}

// guarded hands out a slice with room behind it, so that a call that appends to its argument is found out.
func guarded(data []byte) (part []byte, whole []byte) {
	whole = make([]byte, 0, len(data)+16)
	whole = append(whole, data...)
	for range 16 {
		whole = append(whole, 170)
	}
	return whole[:len(data):len(whole)], whole
}

// overwrite writes into all that a list can reach, the room behind its end too.
func overwrite[T any](list []T, with T) {
	list = list[:cap(list)]
	for i := range list {
		list[i] = with
	}
}

// same holds two answers against each other; an empty list and nil are the same value, however deep they stand.
func same(a any, b any) bool {
	return reflect.DeepEqual(emptied(reflect.ValueOf(a)).Interface(), emptied(reflect.ValueOf(b)).Interface())
}

// emptied is a value with nil for its empty lists; the value itself stays as it is.
func emptied(v reflect.Value) reflect.Value {
	fresh := reflect.New(v.Type()).Elem()
	switch {
	case v.Kind() == reflect.Struct:
		for i := range v.NumField() {
			fresh.Field(i).Set(emptied(v.Field(i)))
		}
	case v.Kind() == reflect.Slice && v.Len() == 0:
	case v.Kind() == reflect.Slice && v.Type().Elem().Kind() != reflect.Uint8:
		for i := range v.Len() {
			fresh = reflect.Append(fresh, emptied(v.Index(i)))
		}
	default:
		fresh.Set(v)
	}
	return fresh
}

// want tells of an answer that is not the one that is asked for.
func want(t *testing.T, call string, got any, asked any) {
	t.Helper()
	if !same(got, asked) {
		t.Errorf("%s = %+v, asked for %+v", call, got, asked)
	}
}

// piecesOfLines are what lines are made of: all kinds of bytes, whole, cut and wrong.
func piecesOfLines() []string {
	return []string{
		"a", "~", " ", "abc", "\t", "\t", "\t\t", "\n", "\r", "\x00", "\x01", "\x1f", "\x7f", "\x1b[0m",
		"\xc2\x80", "\xc3\xa4", "\xdf\xbf", "\xe0\xa0\x80", "\xe2\x82\xac", "\xed\x9f\xbf", "\xee\x80\x80", "\xef\xbf\xbf",
		"\xc3", "\xe2\x82", "\xe2", "\x80", "\xbf", "\xc0\x80", "\xc1\xbf", "\xe0\x9f\xbf", "\xed\xa0\x80", "\xed\xbf\xbf",
		"\xf0\x90\x80\x80", "\xf8", "\xff", "\xfe", "\xc3\t", "\xe2\x82\t", "\xe2\x7f", "\xc3\xc3\xa4",
	}
}

// someLines are lines made of pieces, always the same ones, no longer than a line may be.
func someLines(count int) [][]byte {
	random := rand.New(rand.NewSource(414))
	pieces := piecesOfLines()
	lines := [][]byte{nil, {}}
	for len(lines) < count {
		var line []byte
		for range random.Intn(40) {
			line = append(line, pieces[random.Intn(len(pieces))]...)
		}
		lines = append(lines, line)
	}
	return lines
}

// edgeFiles are those at which lines and parts are easily told wrong.
func edgeFiles() []string {
	return []string{
		"", "\n", "\n\n", "\n\n\n", "a", "a\n", "a\n\n", "\na", "\n\na", "\na\n", "a\nb", "a\nb\n", "a\n\nb", "ab\n\nc", "ab\n\nc\n",
		"\r\n", "a\r\nb\r", "\x00\n\x00", "\xff\n\xe2\x82\n\xac", "\x0b\n\x85\u2028\n", "\x8a\n\x0a\x1a",
		strings.Repeat("x", 399), strings.Repeat("x", 400), strings.Repeat("\n", 399), strings.Repeat("\n", 400),
		strings.Repeat("x", 399) + "\n", "\n" + strings.Repeat("x", 399), strings.Repeat("x\n", 200), strings.Repeat("\nx", 200),
		strings.Repeat("x", 198) + "\n\n" + strings.Repeat("y", 200),
	}
}

// someFiles are files with many lines or few, always the same ones, of all sizes that a file may have.
func someFiles(count int) []string {
	random := rand.New(rand.NewSource(1414))
	files := edgeFiles()
	for len(files) < count {
		feeds := 1 + random.Intn(40)
		file := make([]byte, random.Intn(401))
		for i := range file {
			file[i] = byte(random.Intn(256))
			if random.Intn(feeds) == 0 {
				file[i] = '\n'
			}
		}
		files = append(files, string(file))
	}
	return files
}

// shortFiles are all of up to so many bytes that are made of a letter and line feeds.
func shortFiles(most int) []string {
	files := []string{""}
	for from := 0; len(files[from]) < most; from++ {
		files = append(files, files[from]+"a", files[from]+"\n")
	}
	return files
}

func fileOf(text string) impl.File {
	return impl.File{Bytes: []byte(text)}
}

// cacheOf makes a cache of blocks that are told as a number and a text, one behind the other.
func cacheOf(unit int64, size int64, blocks ...any) impl.Cache {
	c := impl.Cache{Unit: unit, Size: size}
	for i := 0; i < len(blocks); i += 2 {
		c.Blocks = append(c.Blocks, impl.Block{Number: int64(blocks[i].(int)), Bytes: []byte(blocks[i+1].(string))})
	}
	return c
}

func indexOf(every int64, lines int64, size int64, marks ...int64) impl.Index {
	return impl.Index{Every: every, Marks: marks, Lines: lines, Size: size}
}

// indexTold is what an index has to be of a text: marks are searched for one line feed after the other.
func indexTold(every int64, text string) impl.Index {
	x := indexOf(every, 0, int64(len(text)))
	for place := range len(text) {
		if text[place] == '\n' {
			x.Lines++
		}
		if text[place] == '\n' && x.Lines%every == 0 {
			x.Marks = append(x.Marks, int64(place)+1)
		}
	}
	return x
}

// startsOf are the places at which the lines of a text begin.
func startsOf(text string) []int64 {
	var starts []int64
	for place := range len(text) {
		if place == 0 || text[place-1] == '\n' {
			starts = append(starts, int64(place))
		}
	}
	return starts
}
