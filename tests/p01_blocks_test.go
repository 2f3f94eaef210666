package tests

import (
	"bytes"
	"fmt"
	"slices"
	"strings"
	"sync"
	"testing"

	"loop.example/g00414/impl"
)

// Promise 1, of chapter 3: every function answers at every argument, ends, and changes none;
// what it answers is new memory; it hangs on the arguments alone.

func TestBoundsOfUnitAndSize(t *testing.T) {
	units := map[int64]bool{0: false, 1: true, 2: true, 63: true, 64: true, 65: false, -1: false}
	sizes := map[int64]bool{0: false, 1: true, 2: true, 5: true, 6: true, 7: false, -1: false}
	for _, number := range farNumbers() {
		units[number], sizes[number] = false, false
	}
	for unit, unitGood := range units {
		for size, sizeGood := range sizes {
			call, c := fmt.Sprintf("of Unit %d, Size %d", unit, size), impl.Cache{Unit: unit, Size: size}
			asked := impl.CacheResult{Code: impl.ErrRange}
			if unitGood && sizeGood {
				asked = impl.CacheResult{Cache: c}
			}
			want(t, "NewCache "+call, impl.NewCache(unit, size), asked)
			want(t, "CacheFault "+call, impl.CacheFault(c), asked.Code)
			want(t, "ForgetFrom "+call, impl.ForgetFrom(c, 0), asked)
			want(t, "CacheTrue "+call, impl.CacheTrue(c, impl.File{}), asked.Code == impl.OK)
			want(t, "FetchBlock "+call, impl.FetchBlock(c, impl.File{}, 0, 1), asked)
			want(t, "ReadRange "+call, impl.ReadRange(c, impl.File{}, 0, 1, 1), asked)
		}
	}
}

// faultyCaches are caches with a fault, by the code that comes first.
func faultyCaches() map[int64][]impl.Cache {
	far := func(unit int64, number int64, text string) impl.Cache {
		return impl.Cache{Unit: unit, Size: 2, Blocks: []impl.Block{{Number: number, Bytes: []byte(text)}}}
	}
	faulty := map[int64][]impl.Cache{
		impl.ErrRange: {
			{}, {Unit: 4}, {Size: 4}, {Unit: 65, Size: 1}, {Unit: 1, Size: 7}, {Unit: -1, Size: -1},
			// Unit and Size are asked ahead of how many blocks there are, and of all that these have.
			cacheOf(0, 1, 0, "", 0, ""), cacheOf(65, 1, 1, "a", 1, "a"), cacheOf(4, 0, 0, "a"), cacheOf(4, 7, 1, "a", 1, "b"), cacheOf(4, -1),
			cacheOf(4, 2, -1, "a"), cacheOf(4, 2, 401, "a"), cacheOf(4, 2, 0, "a", 401, "b"), cacheOf(4, 2, -1, ""), cacheOf(4, 2, 401, "abcde"),
			// The block ahead is asked for all codes ahead of the next one.
			cacheOf(4, 2, 401, "a", 0, ""), cacheOf(4, 3, -1, "a", 1, "a", 1, "b"), cacheOf(4, 2, -1, "a", -1, "b"),
		},
		impl.ErrMany: {
			cacheOf(4, 1, 0, "a", 1, "b"), cacheOf(4, 2, 0, "a", 1, "b", 2, "c"), cacheOf(1, 6, 0, "a", 1, "b", 2, "c", 3, "d", 4, "e", 5, "f", 6, "g"),
			cacheOf(4, 1, -1, "a", 1, "b"), cacheOf(4, 1, 0, "", 1, "b"), cacheOf(4, 1, 0, "a", 0, "b"), cacheOf(4, 1, 0, "a", 401, "abcde"),
			{Unit: 4, Size: 6, Blocks: make([]impl.Block, 1000)},
		},
		impl.ErrForm: {
			cacheOf(4, 1, 0, ""), cacheOf(4, 1, 0, "abcde"), cacheOf(1, 1, 0, "ab"), cacheOf(64, 1, 0, strings.Repeat("x", 65)), cacheOf(64, 1, 400, strings.Repeat("x", 1000)),
			cacheOf(4, 2, 0, "a", 1, ""), cacheOf(4, 2, 0, "a", 0, ""), cacheOf(4, 2, 0, "a", 0, "abcde"), cacheOf(4, 2, 0, "", 401, "a"), cacheOf(4, 2, 0, "abcde", 0, "a"),
			{Unit: 4, Size: 2, Blocks: make([]impl.Block, 1)},
		},
		impl.ErrState: {
			cacheOf(4, 2, 0, "a", 0, "a"), cacheOf(4, 2, 400, "a", 400, "b"), cacheOf(4, 3, 1, "a", 2, "b", 1, "c"), cacheOf(4, 3, 1, "a", 2, "b", 2, "c"),
			cacheOf(4, 3, 1, "a", 1, "b", 401, "c"), cacheOf(4, 3, 1, "a", 1, "b", 2, ""), cacheOf(1, 6, 5, "a", 4, "b", 3, "c", 2, "d", 1, "e", 5, "f"),
		},
	}
	for _, number := range farNumbers() {
		faulty[impl.ErrRange] = append(faulty[impl.ErrRange], far(4, number, "a"), far(64, number, ""), far(1, number, "ab"))
	}
	return faulty
}

func TestFaultsOfCaches(t *testing.T) {
	for code, caches := range faultyCaches() {
		for _, c := range caches {
			want(t, fmt.Sprintf("CacheFault %+v", c), impl.CacheFault(c), code)
		}
	}
	for _, c := range []impl.Cache{
		cacheOf(1, 1), cacheOf(64, 6), {Unit: 4, Size: 2, Blocks: []impl.Block{}}, cacheOf(1, 1, 0, "a"), cacheOf(1, 1, 400, "a"),
		cacheOf(64, 1, 400, strings.Repeat("x", 64)), cacheOf(4, 2, 1, "a", 0, "a"), cacheOf(1, 6, 5, "a", 4, "a", 3, "a", 2, "a", 1, "a", 0, "a"),
		{Unit: 4, Size: 1, Blocks: []impl.Block{{Number: 2, Bytes: make([]byte, 4, 400)}}},
	} {
		want(t, fmt.Sprintf("CacheFault %+v", c), impl.CacheFault(c), int64(impl.OK))
	}
}

// numbersOfReads are good ones and all kinds of wrong ones.
func numbersOfReads() []int64 {
	return append(farNumbers(), -1, 0, 1, 400, 401)
}

func TestFaultOfACacheComesFirst(t *testing.T) {
	files := []impl.File{{}, fileOf("abcdef"), {Bytes: make([]byte, 401)}}
	for code, caches := range faultyCaches() {
		asked := impl.CacheResult{Code: code}
		for _, c := range caches {
			for _, number := range numbersOfReads() {
				want(t, "ForgetFrom", impl.ForgetFrom(c, number), asked)
				for _, f := range files {
					call := fmt.Sprintf("of %+v, %d bytes, %d", c, len(f.Bytes), number)
					want(t, "CacheTrue "+call, impl.CacheTrue(c, f), false)
					want(t, "FetchBlock "+call, impl.FetchBlock(c, f, number, 1), asked)
					want(t, "FetchBlock most "+call, impl.FetchBlock(c, f, 0, number), asked)
					want(t, "ReadRange at "+call, impl.ReadRange(c, f, number, 0, 1), asked)
					want(t, "ReadRange n "+call, impl.ReadRange(c, f, 0, number, 1), asked)
					want(t, "ReadRange most "+call, impl.ReadRange(c, f, 0, 0, number), asked)
				}
			}
		}
	}
}

func TestFaultOfAFileComesBehindThatOfACache(t *testing.T) {
	asked := impl.CacheResult{Code: impl.ErrMany}
	for _, size := range []int{401, 402, 5000} {
		f := impl.File{Bytes: make([]byte, size)}
		for _, c := range []impl.Cache{cacheOf(1, 1), cacheOf(4, 2, 0, "\x00\x00\x00\x00"), cacheOf(64, 6, 6, "a", 0, "b")} {
			want(t, "CacheTrue", impl.CacheTrue(c, f), false)
			for _, number := range numbersOfReads() {
				want(t, fmt.Sprint("FetchBlock ", number), impl.FetchBlock(c, f, number, 1), asked)
				want(t, fmt.Sprint("FetchBlock most ", number), impl.FetchBlock(c, f, 0, number), asked)
				want(t, fmt.Sprint("ReadRange at ", number), impl.ReadRange(c, f, number, 1, 1), asked)
				want(t, fmt.Sprint("ReadRange n ", number), impl.ReadRange(c, f, 0, number, 1), asked)
				want(t, fmt.Sprint("ReadRange most ", number), impl.ReadRange(c, f, 0, 1, number), asked)
			}
		}
	}
}

func TestNumbersOfBlocksThatLeaveTheirBounds(t *testing.T) {
	wrong := impl.CacheResult{Code: impl.ErrRange}
	for _, file := range []string{"", "abcdef", strings.Repeat("x", 400)} {
		f := fileOf(file)
		for _, c := range []impl.Cache{cacheOf(1, 1), cacheOf(4, 2, 0, "abcd", 1, "ef"), cacheOf(64, 6, 0, "abcdef")} {
			for _, number := range append(farNumbers(), -2, -1, 401, 402) {
				call := fmt.Sprintf("of %d bytes, %d", len(file), number)
				want(t, "FetchBlock "+call, impl.FetchBlock(c, f, number, 1), wrong)
				want(t, "FetchBlock most "+call, impl.FetchBlock(c, f, 0, number), wrong)
				want(t, "FetchBlock most, behind "+call, impl.FetchBlock(c, f, 400, number), wrong)
				want(t, "ReadRange at "+call, impl.ReadRange(c, f, number, 1, 1), wrong)
				want(t, "ReadRange at, of nothing "+call, impl.ReadRange(c, f, number, 0, 400), wrong)
				want(t, "ReadRange n "+call, impl.ReadRange(c, f, 0, number, 1), wrong)
				want(t, "ReadRange n, behind "+call, impl.ReadRange(c, f, 400, number, 1), wrong)
				want(t, "ReadRange most "+call, impl.ReadRange(c, f, 0, 1, number), wrong)
				want(t, "ReadRange most, of nothing "+call, impl.ReadRange(c, f, 400, 0, number), wrong)
				want(t, "ReadRange all "+call, impl.ReadRange(c, f, number, number, number), wrong)
				if number < 0 {
					want(t, "ForgetFrom "+call, impl.ForgetFrom(c, number), wrong)
				}
			}
			want(t, "FetchBlock, most 0", impl.FetchBlock(c, f, 0, 0), wrong)
			want(t, "ReadRange, most 0", impl.ReadRange(c, f, 0, 1, 0), wrong)
			want(t, "ReadRange of nothing, most 0", impl.ReadRange(c, f, 0, 0, 0), wrong)
			want(t, "FetchBlock 400", impl.FetchBlock(c, f, 400, 400), impl.CacheResult{Cache: c})
			want(t, "ReadRange 400", impl.ReadRange(c, f, 400, 400, 400).Code, int64(impl.OK))
		}
	}
}

func TestEmptyBlocksAndNilAreTheSame(t *testing.T) {
	for _, f := range []impl.File{{}, {Bytes: []byte{}}, {Bytes: make([]byte, 0, 500)}} {
		for _, blocks := range [][]impl.Block{nil, {}, make([]impl.Block, 0, 9)} {
			c, asked := impl.Cache{Unit: 3, Size: 2, Blocks: blocks}, impl.CacheResult{Cache: cacheOf(3, 2)}
			want(t, "CacheFault", impl.CacheFault(c), int64(impl.OK))
			want(t, "CacheTrue", impl.CacheTrue(c, f), true)
			want(t, "ForgetFrom", impl.ForgetFrom(c, 0), asked)
			want(t, "FetchBlock", impl.FetchBlock(c, f, 0, 400), asked)
			want(t, "ReadRange", impl.ReadRange(c, f, 0, 400, 400), asked)
			want(t, "FetchBlock of a byte", impl.FetchBlock(c, fileOf("a"), 0, 400), impl.CacheResult{Bytes: []byte("a"), Cache: cacheOf(3, 2, 0, "a")})
		}
		for _, none := range [][]byte{nil, {}, make([]byte, 0, 9)} {
			c := impl.Cache{Unit: 3, Size: 2, Blocks: []impl.Block{{Number: 1, Bytes: none}}}
			want(t, "CacheFault of a block of none", impl.CacheFault(c), int64(impl.ErrForm))
		}
	}
}

// roomyCache is a cache with room behind each of its lists, and all that stands there.
func roomyCache(c impl.Cache) (impl.Cache, []impl.Block, [][]byte) {
	var wholes [][]byte
	blocks := make([]impl.Block, 0, len(c.Blocks)+4)
	for _, block := range c.Blocks {
		part, whole := guarded(block.Bytes)
		blocks = append(blocks, impl.Block{Number: block.Number, Bytes: part})
		wholes = append(wholes, whole)
	}
	whole := blocks[:cap(blocks)]
	for i := len(blocks); i < len(whole); i++ {
		whole[i] = impl.Block{Number: 170}
	}
	return impl.Cache{Unit: c.Unit, Size: c.Size, Blocks: blocks}, whole, wholes
}

// answersOfCache asks every function of the chapter that answers a cache.
func answersOfCache(c impl.Cache, f impl.File) []impl.CacheResult {
	answers := []impl.CacheResult{
		impl.ForgetFrom(c, 0), impl.ForgetFrom(c, c.Unit), impl.ForgetFrom(c, 400), impl.ForgetFrom(c, 1<<40),
		impl.ReadRange(c, f, 0, 0, 1), impl.ReadRange(c, f, 0, 400, 3), impl.ReadRange(c, f, 3, 5, 1), impl.ReadRange(c, f, 400, 400, 1),
		impl.ReadRange(c, f, 0, 1, 400), impl.ReadRange(c, f, 401, 1, 1), impl.FetchBlock(c, f, -1, 1), impl.NewCache(c.Unit, c.Size),
	}
	for _, number := range []int64{0, 1, 2, 3, 9, 400} {
		answers = append(answers, impl.FetchBlock(c, f, number, 2))
	}
	return answers
}

// someCaches are caches with files: some true, some not, some with faults.
func someCaches() (caches []impl.Cache, files []string) {
	for _, file := range []string{"", "a", "abcdefghij", "ab\n\ncd\n", strings.Repeat("0123456789", 40)} {
		for _, unit := range []int64{1, 3, 4, 64} {
			for _, size := range []int64{1, 2, 3, 6} {
				for _, c := range cachesOf(file, unit, size) {
					caches, files = append(caches, c), append(files, file)
				}
			}
		}
		caches = append(caches, cacheOf(4, 3, 1, "EF", 0, "ABCD"), cacheOf(1, 2, 400, "x", 1, "y"), cacheOf(4, 3, 1, "EF", 1, "ABCD"), cacheOf(4, 1, 0, "abcde"))
		files = append(files, file, file, file, file)
	}
	return append(caches, cacheOf(4, 2, 0, "x")), append(files, strings.Repeat("x", 401))
}

func TestCachesThatAreHandedInStayAsTheyAre(t *testing.T) {
	caches, files := someCaches()
	for i := range caches {
		part, whole := guarded([]byte(files[i]))
		c, blocks, wholes := roomyCache(caches[i])
		kept, keptBlocks, keptWholes := bytes.Clone(whole), slices.Clone(blocks), clones(wholes)
		answersOfCache(c, impl.File{Bytes: part})
		impl.CacheFault(c)
		impl.CacheTrue(c, impl.File{Bytes: part})
		if !bytes.Equal(whole, kept) || !same(blocks, keptBlocks) || !same(wholes, keptWholes) {
			t.Fatalf("%v and %q were changed to %v and %q", caches[i], kept, blocks, whole)
		}
	}
}

// bytesOf are all lists of bytes that an answer has.
func bytesOf(answer impl.CacheResult) [][]byte {
	lists := [][]byte{answer.Bytes}
	for _, block := range answer.Cache.Blocks {
		lists = append(lists, block.Bytes)
	}
	return lists
}

func TestBytesOfCachesShareNoMemory(t *testing.T) {
	caches, files := someCaches()
	for i := range caches {
		part, whole := guarded([]byte(files[i]))
		c, _, lists := roomyCache(caches[i])
		lists = append(lists, whole)
		for _, answer := range answersOfCache(c, impl.File{Bytes: part}) {
			lists = append(lists, bytesOf(answer)...)
		}
		kept := clones(lists)
		for j, list := range lists {
			// A byte of its own for each list: one that reaches into another behind its end is found out, too.
			overwrite(list, byte(128+j))
			kept[j] = bytes.Clone(list)
			for k, other := range lists {
				if !bytes.Equal(other, kept[k]) {
					t.Fatalf("lists %d and %d of %v share memory", j, k, caches[i])
				}
			}
		}
	}
}

func TestListsOfBlocksShareNoMemory(t *testing.T) {
	caches, files := someCaches()
	for i := range caches {
		c, blocks, _ := roomyCache(caches[i])
		lists := [][]impl.Block{blocks}
		for _, answer := range answersOfCache(c, fileOf(files[i])) {
			lists = append(lists, answer.Cache.Blocks)
		}
		var kept [][]impl.Block
		for _, list := range lists {
			kept = append(kept, slices.Clone(list))
		}
		for j, list := range lists {
			overwrite(list, impl.Block{Number: int64(1000 + j)})
			kept[j] = slices.Clone(list)
			for k, other := range lists {
				if !same(other, kept[k]) {
					t.Fatalf("lists %d and %d of blocks of %v share memory", j, k, caches[i])
				}
			}
		}
	}
}

func TestAnswersOfCachesHangOnTheArgumentsAlone(t *testing.T) {
	caches, files := someCaches()
	all := func(i int) string {
		c, f := caches[i], fileOf(files[i])
		return fmt.Sprint(impl.CacheFault(c), impl.CacheTrue(c, f), answersOfCache(c, f))
	}
	first := make([]string, len(caches))
	for i := range caches {
		first[i] = all(i)
	}
	var group sync.WaitGroup
	for range 4 {
		group.Go(func() {
			for i := range slices.Backward(caches) {
				if again := all(i); again != first[i] {
					t.Errorf("%v was answered in two ways:\n%s\n%s", caches[i], first[i], again)
				}
			}
		})
	}
	group.Wait()
}
