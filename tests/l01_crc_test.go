package tests

import (
	"math"
	"slices"
	"testing"

	"loop.example/g00251/impl"
)

// divideBits is a second way to the sums: the long division of a row of bits by x^16 + x^12 + x^5 + 1.
// The sum to begin with is what the first 16 bits are changed by.
func divideBits(start int64, bits []int64) int64 {
	row := append(slices.Clone(bits), make([]int64, 16)...)
	for i := range 16 {
		row[i] ^= start >> (15 - i) & 1
	}
	for i := range bits {
		if row[i] == 1 {
			for _, power := range []int{16, 12, 5, 0} {
				row[i+16-power] ^= 1
			}
		}
	}
	var rest int64
	for _, bit := range row[len(bits):] {
		rest = rest*2 + bit
	}
	return rest
}

func bitsOf(words []int64, wide int) []int64 {
	var bits []int64
	for _, w := range words {
		for i := wide - 1; i >= 0; i-- {
			bits = append(bits, w>>i&1)
		}
	}
	return bits
}

func dividedWords(words []int64) int64 {
	return divideBits(65535, bitsOf(words, 16))
}

// blockLengths are those about the edges of a block and of what is allowed.
var blockLengths = []int{0, 1, 2, 7, 8, 9, 15, 16, 17, 24, 392, 393, 399, 400}

func TestCrcByteDivides(t *testing.T) {
	edges := []int64{0, 1, 127, 128, 255}
	for sum := range int64(65536) {
		for _, b := range edges {
			checkCrcByte(t, sum, b)
		}
	}
	for _, sum := range []int64{0, 1, 255, 256, 32767, 32768, 65535} {
		for b := range int64(256) {
			checkCrcByte(t, sum, b)
		}
	}
}

func checkCrcByte(t *testing.T, sum, b int64) {
	want := impl.IntResult{Value: divideBits(sum, bitsOf([]int64{b}, 8))}
	if got := impl.CrcByte(sum, b); got != want {
		t.Fatalf("CrcByte(%d, %d) = %v, want %v", sum, b, got, want)
	}
}

func TestCrcByteOfKnownText(t *testing.T) {
	sum := int64(65535)
	for _, b := range []byte("123456789") {
		sum = impl.CrcByte(sum, int64(b)).Value
	}
	if sum != 0x29B1 {
		t.Errorf("the sum of 123456789 is %d, want %d", sum, 0x29B1)
	}
}

func TestCrcByteBounds(t *testing.T) {
	for _, sum := range oddNumbers {
		for _, b := range oddNumbers {
			inside := sum >= 0 && sum <= 65535 && b >= 0 && b <= 255
			got := impl.CrcByte(sum, b)
			if inside && got.Code != impl.OK || !inside && got != (impl.IntResult{Code: impl.ErrRange}) {
				t.Errorf("CrcByte(%d, %d) = %v", sum, b, got)
			}
		}
	}
}

func TestCrcTable(t *testing.T) {
	for b := range int64(256) {
		if got, want := impl.CrcTable(b), impl.CrcByte(0, b); got != want || got.Code != impl.OK {
			t.Errorf("CrcTable(%d) = %v, want %v", b, got, want)
		}
	}
	if got := impl.CrcTable(1); got.Value != 4129 {
		t.Errorf("CrcTable(1) = %v", got)
	}
	for _, b := range oddNumbers {
		if got := impl.CrcTable(b); (b < 0 || b > 255) && got != (impl.IntResult{Code: impl.ErrRange}) {
			t.Errorf("CrcTable(%d) = %v", b, got)
		}
	}
}

func TestCrcWordsOfKnownWords(t *testing.T) {
	for _, c := range []struct {
		words []int64
		sum   int64
	}{
		{nil, 65535},
		{[]int64{0}, 0x1D0F},
		{[]int64{65535}, 0},
		{[]int64{0x3132, 0x3334, 0x3536, 0x3738}, 0xA12B},
		{[]int64{0x1234}, 0x0EC9},
	} {
		if got := impl.CrcWords(c.words); got != (impl.IntResult{Value: c.sum}) {
			t.Errorf("CrcWords(%v) = %v, want %d", c.words, got, c.sum)
		}
	}
}

// Promise 2: both ways to the sum of words are one.
func TestBothWaysToASumAreOne(t *testing.T) {
	for count := range impl.MaxWords + 1 {
		for _, words := range [][]int64{mixedWords(count, uint64(count)), sameWords(count, 0), sameWords(count, 65535), sameWords(count, 255), sameWords(count, 0xFF00)} {
			want := impl.IntResult{Value: dividedWords(words)}
			if slow, fast := impl.CrcWords(words), impl.CrcFast(words); slow != want || fast != want {
				t.Fatalf("%d words: CrcWords %v, CrcFast %v, want %v", count, slow, fast, want)
			}
		}
	}
	for w := range int64(65536) {
		words := []int64{w}
		if slow, fast := impl.CrcWords(words), impl.CrcFast(words); slow != fast || slow.Code != impl.OK {
			t.Fatalf("of the word %d: CrcWords %v, CrcFast %v", w, slow, fast)
		}
	}
}

// Promise 2: words of which just one is turned have another sum, in whatever way it is turned.
func TestOneTurnedWordHasAnotherSum(t *testing.T) {
	for _, words := range [][]int64{{0}, {65535}, {1, 2}, mixedWords(3, 5)} {
		for at := range words {
			for mask := int64(1); mask <= 65535; mask++ {
				checkTurned(t, words, at, mask)
			}
		}
	}
}

func TestOneTurnedWordOfManyHasAnotherSum(t *testing.T) {
	masks := []int64{3, 255, 256, 4129, 0x1021 << 3, 0xFF00, 65535}
	for bit := range 16 {
		masks = append(masks, 1<<bit)
	}
	for _, count := range blockLengths {
		words := mixedWords(count, 11)
		for at := range words {
			for _, mask := range masks {
				checkTurned(t, words, at, mask)
			}
		}
	}
}

func checkTurned(t *testing.T, words []int64, at int, mask int64) {
	turned := withWord(words, at, words[at]^mask)
	if impl.CrcWords(turned).Value == impl.CrcWords(words).Value || impl.CrcFast(turned).Value == impl.CrcFast(words).Value {
		t.Fatalf("word %d of %d turned by %d keeps the sum", at, len(words), mask)
	}
}

func TestWordsFault(t *testing.T) {
	for _, c := range []struct {
		name  string
		words []int64
		code  int64
	}{
		{"no words", nil, impl.OK},
		{"least and greatest", []int64{0, 65535}, impl.OK},
		{"below", []int64{1, -1}, impl.ErrRange},
		{"above", []int64{65536, 1}, impl.ErrRange},
		{"a word to 32 bits alike", []int64{1 << 32}, impl.ErrRange},
		{"lowest number", []int64{math.MinInt64}, impl.ErrRange},
		{"highest number", []int64{math.MaxInt64}, impl.ErrRange},
		{"399", sameWords(399, 65535), impl.OK},
		{"400", sameWords(400, 65535), impl.OK},
		{"401", sameWords(401, 65535), impl.ErrMany},
		{"400, the last one none", withWord(sameWords(400, 1), 399, 65536), impl.ErrRange},
		{"401, the first one none", withWord(sameWords(401, 1), 0, -1), impl.ErrMany},
	} {
		if got := impl.WordsFault(c.words); got != c.code {
			t.Errorf("%s: WordsFault = %d, want %d", c.name, got, c.code)
		}
		checkAsksWordsFault(t, c.name, c.words, c.code)
	}
}

// The functions of words ask WordsFault first, and beside a code all is zero.
func checkAsksWordsFault(t *testing.T, name string, words []int64, code int64) {
	if got := impl.CrcWords(words); got.Code != code || code != impl.OK && got.Value != 0 {
		t.Errorf("%s: CrcWords = %v, want the code %d", name, got, code)
	}
	if got := impl.CrcFast(words); got.Code != code || code != impl.OK && got.Value != 0 {
		t.Errorf("%s: CrcFast = %v, want the code %d", name, got, code)
	}
	if got := impl.BlockSums(words); got.Code != code || code != impl.OK && len(got.List) != 0 {
		t.Errorf("%s: BlockSums = %v, want the code %d", name, got, code)
	}
	if got := impl.BadBlock(words, nil); code != impl.OK && got != (impl.IntResult{Code: code}) {
		t.Errorf("%s: BadBlock = %v, want the code %d", name, got, code)
	}
	if got := impl.BadBlock(nil, words); code != impl.OK && got != (impl.IntResult{Code: code}) {
		t.Errorf("%s as sums: BadBlock = %v, want the code %d", name, got, code)
	}
}

func TestBlockSums(t *testing.T) {
	for _, count := range blockLengths {
		words := mixedWords(count, 3)
		var want []int64
		for block := range slices.Chunk(words, impl.BlockWords) {
			want = append(want, dividedWords(block))
		}
		if got := impl.BlockSums(words); got.Code != impl.OK || !slices.Equal(got.List, want) {
			t.Errorf("%d words: BlockSums = %v, want %v", count, got, want)
		}
	}
}

func TestBadBlockOfRightSums(t *testing.T) {
	for _, count := range blockLengths {
		words := mixedWords(count, 4)
		if got := impl.BadBlock(words, impl.BlockSums(words).List); got != (impl.IntResult{Code: impl.ErrNone}) {
			t.Errorf("%d words: BadBlock = %v, want ErrNone", count, got)
		}
	}
}

func TestBadBlockFindsATurnedWord(t *testing.T) {
	for _, count := range blockLengths {
		words := mixedWords(count, 6)
		sums := impl.BlockSums(words).List
		for at := range words {
			want := impl.IntResult{Value: int64(at / impl.BlockWords)}
			if got := impl.BadBlock(withWord(words, at, words[at]^32768), sums); got != want {
				t.Errorf("word %d of %d: BadBlock = %v, want %v", at, count, got, want)
			}
		}
		for at := range sums {
			want := impl.IntResult{Value: int64(at)}
			if got := impl.BadBlock(words, withWord(sums, at, sums[at]^1)); got != want {
				t.Errorf("sum %d of %d: BadBlock = %v, want %v", at, len(sums), got, want)
			}
		}
	}
}

func TestBadBlockTellsTheFirst(t *testing.T) {
	words := mixedWords(25, 7)
	sums := impl.BlockSums(words).List
	words[24] ^= 1
	words[15] ^= 1
	sums[2] ^= 1
	if got := impl.BadBlock(words, sums); got != (impl.IntResult{Value: 1}) {
		t.Errorf("BadBlock = %v, want block 1", got)
	}
}

func TestBadBlockCodes(t *testing.T) {
	words := mixedWords(17, 8)
	sums := impl.BlockSums(words).List
	for _, c := range []struct {
		name        string
		words, sums []int64
		code        int64
	}{
		{"nothing", nil, nil, impl.ErrNone},
		{"a sum of no words", nil, []int64{65535}, impl.ErrForm},
		{"no sums", words, nil, impl.ErrForm},
		{"a sum too few", words, sums[:2], impl.ErrForm},
		{"a sum too many", words, append(slices.Clone(sums), 65535), impl.ErrForm},
		{"no sum of a last block", words[:9], sums[:1], impl.ErrForm},
		{"a sum that is wrong, and one too few", words, []int64{sums[0] ^ 1, sums[1]}, impl.ErrForm},
		{"a sum above, and too few", words, []int64{65536}, impl.ErrRange},
		{"a sum below", words, []int64{sums[0], sums[1], -1}, impl.ErrRange},
		{"a sum above behind a wrong one", words, []int64{sums[0] ^ 1, sums[1], 65536}, impl.ErrRange},
		{"401 sums", words, sameWords(401, 1), impl.ErrMany},
		{"400 sums", words, sameWords(400, 1), impl.ErrForm},
		{"a word above, 401 sums", []int64{65536}, sameWords(401, 1), impl.ErrRange},
		{"401 words, a sum above", sameWords(401, 1), []int64{65536}, impl.ErrMany},
		{"401 words, a sum too few", sameWords(401, 1), nil, impl.ErrMany},
	} {
		if got := impl.BadBlock(c.words, c.sums); got != (impl.IntResult{Code: c.code}) {
			t.Errorf("%s: BadBlock = %v, want the code %d", c.name, got, c.code)
		}
	}
}

// Promise 1: every function answers, and changes none of its arguments, nor what lies behind them.
func TestSumsChangeNoArgument(t *testing.T) {
	lists := [][]int64{nil, {}, {65536}, oddNumbers, sameWords(401, 9), mixedWords(400, 9), mixedWords(17, 9)}
	for _, list := range lists {
		for _, other := range lists {
			words, sums := withSpare(list), withSpare(other)
			impl.CrcWords(words)
			impl.CrcFast(words)
			impl.WordsFault(words)
			impl.BlockSums(words)
			impl.BadBlock(words, sums)
			if !slices.Equal(words, list) || !slices.Equal(sums, other) {
				t.Fatalf("an argument was changed: %v, %v", words, sums)
			}
			if behind := []int64{-71, -72, -73}; !slices.Equal(words[len(words):len(words)+3], behind) || !slices.Equal(sums[len(sums):len(sums)+3], behind) {
				t.Fatalf("what lies behind an argument was changed: %v, %v", words, sums)
			}
		}
	}
}

// Promise 1: what a function answers is new memory.
func TestBlockSumsAreNewMemory(t *testing.T) {
	words := mixedWords(20, 10)
	kept := slices.Clone(words)
	first, second := impl.BlockSums(words), impl.BlockSums(words)
	want := slices.Clone(second.List)
	for i := range first.List {
		first.List[i] = -1
	}
	for len(first.List) < cap(first.List) {
		first.List = append(first.List, -1)
	}
	if !slices.Equal(words, kept) || !slices.Equal(second.List, want) || !slices.Equal(impl.BlockSums(words).List, want) {
		t.Errorf("a change to an answer is seen elsewhere: %v, %v", words, second)
	}
	words[0] ^= 1
	if !slices.Equal(second.List, want) {
		t.Errorf("a change to an argument is seen in an answer: %v", second)
	}
}

// Promise 1: an answer hangs on the arguments alone, whatever was asked ahead.
func TestSumsHangOnArgumentsAlone(t *testing.T) {
	words := mixedWords(33, 12)
	sums := impl.BlockSums(words).List
	wrong := withWord(sums, 3, sums[3]^1)
	slow, fast, bad := impl.CrcWords(words), impl.CrcFast(words), impl.BadBlock(words, wrong)
	for seed := range uint64(20) {
		other := mixedWords(int(seed)*20, seed)
		impl.BadBlock(other, impl.BlockSums(other).List)
		impl.CrcFast(append(other, -1))
		impl.CrcByte(int64(seed), 300)
		impl.CrcTable(int64(seed))
		if impl.CrcWords(words) != slow || impl.CrcFast(words) != fast || impl.BadBlock(words, wrong) != bad || !slices.Equal(impl.BlockSums(words).List, sums) {
			t.Fatalf("another answer behind call %d", seed)
		}
	}
	if impl.CrcWords(slices.Clone(words)) != slow || impl.CrcFast(withSpare(words)) != fast {
		t.Error("another answer of the same words in another place")
	}
}

func TestEmptyAndNilAreTheSame(t *testing.T) {
	empty := []int64{}
	if impl.CrcWords(nil) != impl.CrcWords(empty) || impl.CrcFast(nil) != impl.CrcFast(empty) || impl.WordsFault(nil) != impl.WordsFault(empty) ||
		impl.BadBlock(nil, empty) != impl.BadBlock(empty, nil) || len(impl.BlockSums(nil).List) != 0 || len(impl.BlockSums(empty).List) != 0 {
		t.Error("no words and nil have other answers")
	}
}

func TestConstantsOfSums(t *testing.T) {
	codes := []int64{impl.OK, impl.ErrForm, impl.ErrMany, impl.ErrRange, impl.ErrNone, impl.ErrText, impl.ErrSum, impl.ErrTaken, impl.ErrType, impl.ErrDeep, impl.ErrState}
	for i, code := range codes {
		if code != int64(i) {
			t.Errorf("code %d is %d", i, code)
		}
	}
	if impl.BlockWords != 8 || impl.MaxWords != 400 {
		t.Error("BlockWords or MaxWords is another number")
	}
}
