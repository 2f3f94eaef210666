package tests

import (
	"fmt"
	"math/rand"
	"slices"
	"strings"
	"testing"

	"loop.example/g00414/impl"
)

// Promise 4: what is read through blocks is what the file has there, whatever was read ahead, and there are
// never too many; what was forgotten is read anew.

// pieceOf is what a text has from a place on, as far as there are so many.
func pieceOf(text string, from int64, n int64) string {
	from = min(from, int64(len(text)))
	return text[from:min(from+n, int64(len(text)))]
}

// blockTold is what FetchBlock has to answer: the blocks as a plain list, out of which one is taken and put behind.
func blockTold(c impl.Cache, file string, number int64) impl.CacheResult {
	blocks, piece := slices.Clone(c.Blocks), pieceOf(file, number*c.Unit, c.Unit)
	for i, block := range blocks {
		if block.Number == number {
			blocks, piece = slices.Delete(blocks, i, i+1), string(block.Bytes)
			break
		}
	}
	if piece != "" {
		blocks = append(blocks, impl.Block{Number: number, Bytes: []byte(piece)})
	}
	blocks = blocks[max(0, len(blocks)-int(c.Size)):]
	return impl.CacheResult{Bytes: []byte(piece), Cache: impl.Cache{Unit: c.Unit, Size: c.Size, Blocks: blocks}}
}

// rangeTold is what ReadRange has to answer, byte by byte.
func rangeTold(c impl.Cache, file string, at int64, n int64) impl.CacheResult {
	read, block := impl.CacheResult{Cache: c}, ""
	for place := at; place < at+n; place++ {
		if place == at || place%c.Unit == 0 {
			told := blockTold(read.Cache, file, place/c.Unit)
			read.Cache, block = told.Cache, string(told.Bytes)
		}
		if place%c.Unit >= int64(len(block)) {
			break
		}
		read.Bytes = append(read.Bytes, block[place%c.Unit])
	}
	return read
}

// checkTrue holds a cache against the promise: no fault, never too many, and just the file's bytes.
func checkTrue(t *testing.T, call string, c impl.Cache, file string) {
	t.Helper()
	want(t, "CacheFault behind "+call, impl.CacheFault(c), int64(impl.OK))
	want(t, "CacheTrue behind "+call, impl.CacheTrue(c, fileOf(file)), true)
	if int64(len(c.Blocks)) > c.Size {
		t.Errorf("%s left %d blocks, of %d", call, len(c.Blocks), c.Size)
	}
	for _, block := range c.Blocks {
		if piece := pieceOf(file, block.Number*c.Unit, c.Unit); string(block.Bytes) != piece || piece == "" {
			t.Errorf("%s left %q at %d, the file has %q", call, block.Bytes, block.Number, piece)
		}
	}
}

func checkBlock(t *testing.T, c impl.Cache, file string, number int64, most int64) impl.Cache {
	t.Helper()
	call := fmt.Sprintf("FetchBlock %v of %q, %d by %d", c, file, number, most)
	got := impl.FetchBlock(c, fileOf(file), number, most)
	want(t, call, got, blockTold(c, file, number))
	return got.Cache
}

func checkRange(t *testing.T, c impl.Cache, file string, at int64, n int64, most int64) impl.Cache {
	t.Helper()
	call := fmt.Sprintf("ReadRange %v of %q, %d from %d by %d", c, file, n, at, most)
	got := impl.ReadRange(c, fileOf(file), at, n, most)
	want(t, call, got, rangeTold(c, file, at, n))
	return got.Cache
}

// cachesOf are caches that are true for a file, with few blocks and with as many as there may be.
func cachesOf(file string, unit int64, size int64) []impl.Cache {
	c := impl.NewCache(unit, size).Cache
	caches := []impl.Cache{c}
	for _, number := range []int64{1, 0, 2, 4, 3, 7} {
		c = blockTold(c, file, number).Cache
		caches = append(caches, c)
	}
	return caches
}

func TestEachRangeOfShortFiles(t *testing.T) {
	for size := range int64(10) {
		file := "abcdefghi"[:size]
		for unit := int64(1); unit <= 5; unit++ {
			for _, c := range slices.Concat(cachesOf(file, unit, 1), cachesOf(file, unit, 2), cachesOf(file, unit, 3)) {
				for at := range size + 3 {
					for n := range size + 4 {
						most := 1 + (at+n)%(unit+1)
						got := checkRange(t, c, file, at, n, most)
						checkTrue(t, "ReadRange", got, file)
						if read := impl.ReadRange(c, fileOf(file), at, n, most); string(read.Bytes) != pieceOf(file, at, n) {
							t.Errorf("ReadRange %v of %q, %d from %d, told %q", c, file, n, at, read.Bytes)
						}
					}
				}
			}
		}
	}
}

func TestEachBlockOfShortFiles(t *testing.T) {
	for size := range 10 {
		file := "abcdefghi"[:size]
		for unit := int64(1); unit <= 5; unit++ {
			for _, c := range slices.Concat(cachesOf(file, unit, 1), cachesOf(file, unit, 2), cachesOf(file, unit, 6)) {
				for number := range int64(12) {
					for most := int64(1); most <= unit+1; most++ {
						checkTrue(t, "FetchBlock", checkBlock(t, c, file, number, most), file)
					}
				}
			}
		}
	}
}

func TestReadsAtTheEdgesOfLongFiles(t *testing.T) {
	for _, file := range edgeFiles() {
		end := int64(len(file))
		for _, unit := range []int64{1, 2, 7, 63, 64} {
			for _, most := range []int64{1, 2, unit, 399, 400} {
				c := impl.NewCache(unit, 1+most%6).Cache
				for _, at := range []int64{0, 1, unit - 1, unit, end / 2, max(end, 1) - 1, end, min(end+1, 400), 399, 400} {
					for _, n := range []int64{0, 1, unit, 399, 400} {
						c = checkRange(t, c, file, at, n, most)
						checkTrue(t, "ReadRange", c, file)
					}
				}
				for _, number := range []int64{0, 1, (max(end, 1) - 1) / unit, end / unit, min(end/unit+1, 400), 399, 400} {
					c = checkBlock(t, c, file, number, most)
					checkTrue(t, "FetchBlock", c, file)
				}
			}
		}
	}
}

// changed is a file that grew or shrank, and its cache as it is to be kept with it.
func changed(t *testing.T, random *rand.Rand, c impl.Cache, file string) (impl.Cache, string) {
	t.Helper()
	from := random.Intn(len(file) + 1)
	now := file[:from]
	if random.Intn(2) == 0 {
		from = len(file)
		now = file + strings.Repeat(string(rune('A'+random.Intn(26))), random.Intn(min(40, 401-len(file))))
	}
	forgotten := impl.ForgetFrom(c, int64(from))
	want(t, "ForgetFrom", forgotten.Code, int64(impl.OK))
	return forgotten.Cache, now
}

func TestWhateverIsReadGrowsAndShrinks(t *testing.T) {
	random := rand.New(rand.NewSource(3))
	for i, file := range someFiles(400) {
		unit := 1 + random.Int63n(64)
		if i%2 == 0 {
			unit = 1 + random.Int63n(8)
		}
		c := impl.NewCache(unit, 1+random.Int63n(6)).Cache
		for range 30 {
			most := 1 + random.Int63n(unit+2)
			switch random.Intn(5) {
			case 0:
				c, file = changed(t, random, c, file)
			case 1:
				c = checkBlock(t, c, file, random.Int63n(min(400, int64(len(file))/unit+2)), most)
			default:
				c = checkRange(t, c, file, random.Int63n(int64(len(file)+1)), random.Int63n(401), most)
			}
			checkTrue(t, "all this", c, file)
		}
	}
}

func TestWhatWasAskedForLastStaysLongest(t *testing.T) {
	file := "aabbccddeeff"
	c := impl.NewCache(2, 3).Cache
	for _, step := range []struct {
		number int64
		asked  impl.Cache
	}{
		{0, cacheOf(2, 3, 0, "aa")},
		{1, cacheOf(2, 3, 0, "aa", 1, "bb")},
		{1, cacheOf(2, 3, 0, "aa", 1, "bb")},
		{0, cacheOf(2, 3, 1, "bb", 0, "aa")},
		{5, cacheOf(2, 3, 1, "bb", 0, "aa", 5, "ff")},
		{1, cacheOf(2, 3, 0, "aa", 5, "ff", 1, "bb")},
		{2, cacheOf(2, 3, 5, "ff", 1, "bb", 2, "cc")},
		{6, cacheOf(2, 3, 5, "ff", 1, "bb", 2, "cc")},
		{400, cacheOf(2, 3, 5, "ff", 1, "bb", 2, "cc")},
		{5, cacheOf(2, 3, 1, "bb", 2, "cc", 5, "ff")},
		{0, cacheOf(2, 3, 2, "cc", 5, "ff", 0, "aa")},
	} {
		got := impl.FetchBlock(c, fileOf(file), step.number, 1)
		want(t, fmt.Sprint("FetchBlock ", step.number), got.Cache, step.asked)
		want(t, fmt.Sprint("FetchBlock ", step.number), string(got.Bytes), pieceOf(file, 2*step.number, 2))
		c = got.Cache
	}
}

func TestAsManyBlocksAsSizeAndOneMore(t *testing.T) {
	file := strings.Repeat("0123456789", 40)
	for _, unit := range []int64{1, 10, 64} {
		for size := int64(1); size <= 6; size++ {
			c := impl.NewCache(unit, size).Cache
			for number := range size + 1 {
				c = checkBlock(t, c, file, number, 400)
				if blocks := int64(len(c.Blocks)); blocks != min(number+1, size) {
					t.Errorf("%d blocks of %d stand there behind %d", blocks, size, number+1)
				}
			}
			if c.Blocks[0].Number != 1 || c.Blocks[size-1].Number != size {
				t.Errorf("of %d blocks the wrong one went: %v", size+1, c)
			}
		}
	}
	got := impl.ReadRange(impl.NewCache(2, 2).Cache, fileOf("abcdefgh"), 1, 6, 1)
	want(t, "ReadRange over four blocks", got, impl.CacheResult{Bytes: []byte("bcdefg"), Cache: cacheOf(2, 2, 2, "ef", 3, "gh")})
	// A block that goes within a read was told by then, and is read again where it comes next.
	again := impl.ReadRange(got.Cache, fileOf("abcdefgh"), 0, 8, 1)
	want(t, "ReadRange again", again, impl.CacheResult{Bytes: []byte("abcdefgh"), Cache: cacheOf(2, 2, 2, "ef", 3, "gh")})
}

func TestBlocksThatAreNotFull(t *testing.T) {
	f := fileOf("abcdefghij")
	empty := impl.NewCache(4, 2).Cache
	for most := int64(1); most <= 5; most++ {
		want(t, "FetchBlock 1", impl.FetchBlock(empty, f, 1, most), impl.CacheResult{Bytes: []byte("efgh"), Cache: cacheOf(4, 2, 1, "efgh")})
		want(t, "FetchBlock 2", impl.FetchBlock(empty, f, 2, most), impl.CacheResult{Bytes: []byte("ij"), Cache: cacheOf(4, 2, 2, "ij")})
		want(t, "FetchBlock 3", impl.FetchBlock(empty, f, 3, most), impl.CacheResult{Cache: empty})
		want(t, "ReadRange 8", impl.ReadRange(empty, f, 8, 400, most), impl.CacheResult{Bytes: []byte("ij"), Cache: cacheOf(4, 2, 2, "ij")})
		want(t, "ReadRange 9", impl.ReadRange(empty, f, 9, 1, most), impl.CacheResult{Bytes: []byte("j"), Cache: cacheOf(4, 2, 2, "ij")})
		// The end stands within the block 2, which is asked for though nothing is told of it.
		want(t, "ReadRange 10", impl.ReadRange(empty, f, 10, 3, most), impl.CacheResult{Cache: cacheOf(4, 2, 2, "ij")})
		want(t, "ReadRange 11", impl.ReadRange(empty, f, 11, 1, most), impl.CacheResult{Cache: cacheOf(4, 2, 2, "ij")})
		want(t, "ReadRange 12", impl.ReadRange(empty, f, 12, 1, most), impl.CacheResult{Cache: empty})
		want(t, "ReadRange 400", impl.ReadRange(empty, f, 400, 400, most), impl.CacheResult{Cache: empty})
	}
	whole := impl.FetchBlock(impl.NewCache(5, 2).Cache, f, 1, 400)
	want(t, "a full block at the end", whole, impl.CacheResult{Bytes: []byte("fghij"), Cache: cacheOf(5, 2, 1, "fghij")})
	want(t, "the one behind", impl.FetchBlock(whole.Cache, f, 2, 400), impl.CacheResult{Cache: whole.Cache})
	want(t, "a read over both", impl.ReadRange(whole.Cache, f, 5, 400, 2), whole)
}

func TestReadsOfNothingAskForNoBlock(t *testing.T) {
	for _, file := range []string{"", "a", "abcdefghij", strings.Repeat("x", 400)} {
		for unit := int64(1); unit <= 4; unit++ {
			for _, c := range cachesOf(file, unit, 3) {
				for _, at := range []int64{0, 1, 2, 3, 4, 5, 9, 10, 11, 399, 400} {
					want(t, fmt.Sprintf("ReadRange of nothing at %d", at), impl.ReadRange(c, fileOf(file), at, 0, 1), impl.CacheResult{Cache: c})
				}
			}
		}
	}
}

func TestWhatIsAskedTwiceIsNotReadAgain(t *testing.T) {
	c := cacheOf(4, 3, 0, "ABCD", 2, "IJ")
	f := fileOf("abcdefghijkl")
	want(t, "FetchBlock 0", impl.FetchBlock(c, f, 0, 1), impl.CacheResult{Bytes: []byte("ABCD"), Cache: cacheOf(4, 3, 2, "IJ", 0, "ABCD")})
	want(t, "FetchBlock 2", impl.FetchBlock(c, f, 2, 1), impl.CacheResult{Bytes: []byte("IJ"), Cache: c})
	want(t, "FetchBlock 0 of nothing", impl.FetchBlock(c, fileOf(""), 0, 1), impl.CacheResult{Bytes: []byte("ABCD"), Cache: cacheOf(4, 3, 2, "IJ", 0, "ABCD")})
	want(t, "ReadRange", impl.ReadRange(c, f, 1, 400, 1), impl.CacheResult{Bytes: []byte("BCDefghIJ"), Cache: cacheOf(4, 3, 0, "ABCD", 1, "efgh", 2, "IJ")})
}

func TestReadsEndAtABlockThatIsNotFull(t *testing.T) {
	c := cacheOf(4, 3, 1, "EF", 2, "ijkl")
	f := fileOf("abcdefghijkl")
	want(t, "from ahead of it", impl.ReadRange(c, f, 2, 9, 1), impl.CacheResult{Bytes: []byte("cdEF"), Cache: cacheOf(4, 3, 2, "ijkl", 0, "abcd", 1, "EF")})
	want(t, "from its last byte", impl.ReadRange(c, f, 5, 9, 1), impl.CacheResult{Bytes: []byte("F"), Cache: cacheOf(4, 3, 2, "ijkl", 1, "EF")})
	want(t, "from behind its last byte", impl.ReadRange(c, f, 6, 9, 1), impl.CacheResult{Cache: cacheOf(4, 3, 2, "ijkl", 1, "EF")})
	want(t, "from behind it", impl.ReadRange(c, f, 8, 9, 1), impl.CacheResult{Bytes: []byte("ijkl"), Cache: c})
}

func TestReadsBehindTheLastBlockThatThereMayBe(t *testing.T) {
	full := strings.Repeat("x", 400)
	c := cacheOf(1, 2, 400, "y")
	// There is no block 401: a read that would ask for it ends there, and tells what came ahead.
	want(t, "ReadRange", impl.ReadRange(c, fileOf(full), 399, 400, 1), impl.CacheResult{Bytes: []byte("xy"), Cache: cacheOf(1, 2, 399, "x", 400, "y")})
	want(t, "ReadRange", impl.ReadRange(c, fileOf(""), 400, 400, 1), impl.CacheResult{Bytes: []byte("y"), Cache: c})
	want(t, "FetchBlock", impl.FetchBlock(c, fileOf(full), 400, 1), impl.CacheResult{Bytes: []byte("y"), Cache: c})
	want(t, "CacheTrue", impl.CacheTrue(c, fileOf(full)), false)
}

func TestWhatIsForgotten(t *testing.T) {
	c := cacheOf(4, 6, 3, "MNOP", 0, "ABCD", 400, "z", 2, "I", 1, "EF")
	for _, step := range []struct {
		at    int64
		asked impl.Cache
	}{
		{0, cacheOf(4, 6)}, {3, cacheOf(4, 6)},
		{4, cacheOf(4, 6, 0, "ABCD")}, {5, cacheOf(4, 6, 0, "ABCD")}, {7, cacheOf(4, 6, 0, "ABCD")},
		{8, cacheOf(4, 6, 0, "ABCD", 1, "EF")}, {11, cacheOf(4, 6, 0, "ABCD", 1, "EF")},
		{12, cacheOf(4, 6, 0, "ABCD", 2, "I", 1, "EF")}, {15, cacheOf(4, 6, 0, "ABCD", 2, "I", 1, "EF")},
		{16, cacheOf(4, 6, 3, "MNOP", 0, "ABCD", 2, "I", 1, "EF")}, {400, cacheOf(4, 6, 3, "MNOP", 0, "ABCD", 2, "I", 1, "EF")},
		{1600, cacheOf(4, 6, 3, "MNOP", 0, "ABCD", 2, "I", 1, "EF")}, {1603, cacheOf(4, 6, 3, "MNOP", 0, "ABCD", 2, "I", 1, "EF")},
		{1604, c},
	} {
		want(t, fmt.Sprint("ForgetFrom ", step.at), impl.ForgetFrom(c, step.at), impl.CacheResult{Cache: step.asked})
	}
	for _, at := range farNumbers() {
		if at > 1604 {
			want(t, fmt.Sprint("ForgetFrom ", at), impl.ForgetFrom(c, at), impl.CacheResult{Cache: c})
		}
	}
	want(t, "ForgetFrom of none", impl.ForgetFrom(cacheOf(1, 1), 0), impl.CacheResult{Cache: cacheOf(1, 1)})
	want(t, "ForgetFrom 399 by 1", impl.ForgetFrom(cacheOf(1, 3, 399, "b", 400, "c", 398, "a"), 399), impl.CacheResult{Cache: cacheOf(1, 3, 398, "a")})
	want(t, "ForgetFrom 127 by 64", impl.ForgetFrom(cacheOf(64, 3, 2, "b", 1, "c", 0, "a"), 127), impl.CacheResult{Cache: cacheOf(64, 3, 0, "a")})
	want(t, "ForgetFrom 128 by 64", impl.ForgetFrom(cacheOf(64, 3, 2, "b", 1, "c", 0, "a"), 128), impl.CacheResult{Cache: cacheOf(64, 3, 1, "c", 0, "a")})
}

func TestWhatWasForgottenIsReadAnew(t *testing.T) {
	for unit := int64(1); unit <= 12; unit++ {
		for from := range int64(11) {
			old := impl.ReadRange(impl.NewCache(unit, 6).Cache, fileOf("abcdefghij"), 0, 10, 3).Cache
			now := "abcdefghij"[:from] + "ABCDEFGHIJKLMNOP"[from:]
			got := impl.ReadRange(impl.ForgetFrom(old, from).Cache, fileOf(now), 0, 400, 3)
			want(t, fmt.Sprintf("what is read from %d on, by %d", from, unit), string(got.Bytes), now)
			checkTrue(t, "ReadRange", got.Cache, now)
		}
	}
	short := impl.FetchBlock(impl.NewCache(4, 2).Cache, fileOf("abcdef"), 1, 4).Cache
	want(t, "a block that grew, kept", string(impl.FetchBlock(short, fileOf("abcdefgh"), 1, 4).Bytes), "ef")
	want(t, "a block that grew, forgotten", string(impl.FetchBlock(impl.ForgetFrom(short, 6).Cache, fileOf("abcdefgh"), 1, 4).Bytes), "efgh")
}

func TestCachesThatAreTrueOrNot(t *testing.T) {
	file := "abcdefghij"
	for _, c := range []impl.Cache{
		cacheOf(4, 2), cacheOf(64, 6), cacheOf(4, 2, 0, "abcd"), cacheOf(4, 2, 2, "ij", 1, "efgh"), cacheOf(5, 1, 1, "fghij"), cacheOf(64, 1, 0, file),
		cacheOf(10, 1, 0, file), cacheOf(1, 3, 9, "j", 0, "a", 5, "f"),
	} {
		want(t, fmt.Sprintf("CacheTrue %v", c), impl.CacheTrue(c, fileOf(file)), true)
	}
	for _, c := range []impl.Cache{
		cacheOf(4, 2, 0, "abc"), cacheOf(4, 2, 0, "abcx"), cacheOf(4, 2, 0, "xbcd"), cacheOf(4, 2, 1, "efg"), cacheOf(4, 2, 2, "i"), cacheOf(4, 2, 2, "ijk"), cacheOf(4, 2, 2, "ij\x00\x00"),
		cacheOf(4, 2, 3, "x"), cacheOf(4, 2, 400, "a"), cacheOf(5, 1, 2, "j"), cacheOf(4, 2, 0, "efgh"), cacheOf(4, 2, 2, "ij", 1, "ijkl"), cacheOf(4, 2, 2, "ik", 1, "efgh"),
		cacheOf(1, 1, 10, "\x00"), cacheOf(64, 1, 0, "abcdefghi"), cacheOf(64, 1, 0, "abcdefghijk"),
	} {
		want(t, "CacheFault of what is not true", impl.CacheFault(c), int64(impl.OK))
		want(t, fmt.Sprintf("CacheTrue %v", c), impl.CacheTrue(c, fileOf(file)), false)
	}
	want(t, "CacheTrue of an empty file", impl.CacheTrue(cacheOf(1, 1, 0, "a"), fileOf("")), false)
	want(t, "CacheTrue of nothing", impl.CacheTrue(cacheOf(1, 1), fileOf("")), true)
}
