package impl

const OK = 0
const ErrForm = 1
const ErrMany = 2
const ErrRange = 3
const ErrNone = 4
const ErrText = 5
const ErrSum = 6
const ErrTaken = 7
const ErrType = 8
const ErrDeep = 9
const ErrState = 10
const BlockWords = 8
const MaxWords = 400

type IntResult struct {
	Code  int64
	Value int64
}
type IntsResult struct {
	Code int64
	List []int64
}
type TextResult struct {
	Code int64
	Text string
}

// The sum is CRC-16 as CCITT has it: this start, this polynomial, upper bits first.
const crcStart uint16 = 65535
const crcPoly uint16 = 4129
const highBit uint16 = 1 << 15

func CrcByte(sum int64, b int64) IntResult {
	if !fitsWord(sum) || !fitsByte(b) {
		return IntResult{Code: ErrRange}
	}
	return IntResult{Value: int64(sumByte(uint16(sum), uint8(b)))}
}

func CrcWords(words []int64) IntResult {
	if code := WordsFault(words); code != OK {
		return IntResult{Code: code}
	}
	return IntResult{Value: int64(sumWords(words))}
}

func CrcTable(b int64) IntResult {
	if !fitsByte(b) {
		return IntResult{Code: ErrRange}
	}
	return IntResult{Value: int64(sumByte(0, uint8(b)))}
}

func CrcFast(words []int64) IntResult {
	if code := WordsFault(words); code != OK {
		return IntResult{Code: code}
	}
	table := byteSums()
	sum := crcStart
	for _, w := range words {
		word := uint16(w)
		sum = sum<<8 ^ table[sum>>8^word>>8]
		sum = sum<<8 ^ table[sum>>8^word&255]
	}
	return IntResult{Value: int64(sum)}
}

func BlockSums(words []int64) IntsResult {
	if code := WordsFault(words); code != OK {
		return IntsResult{Code: code}
	}
	var sums []int64
	for i := range blockCount(words) {
		sums = append(sums, blockSum(words, i))
	}
	return IntsResult{List: sums}
}

func BadBlock(words []int64, sums []int64) IntResult {
	if code := WordsFault(words); code != OK {
		return IntResult{Code: code}
	}
	if code := WordsFault(sums); code != OK {
		return IntResult{Code: code}
	}
	if len(sums) != blockCount(words) {
		return IntResult{Code: ErrForm}
	}
	for i, sum := range sums {
		if blockSum(words, i) != sum {
			return IntResult{Value: int64(i)}
		}
	}
	return IntResult{Code: ErrNone}
}

func WordsFault(words []int64) int64 {
	if len(words) > MaxWords {
		return ErrMany
	}
	if !allWords(words) {
		return ErrRange
	}
	return OK
}

func allWords(lists ...[]int64) bool {
	for _, list := range lists {
		for _, w := range list {
			if !fitsWord(w) {
				return false
			}
		}
	}
	return true
}

func fitsWord(n int64) bool {
	return n >= 0 && n <= 65535
}

func fitsByte(n int64) bool {
	return n >= 0 && n <= 255
}

func sumByte(sum uint16, b uint8) uint16 {
	sum ^= uint16(b) << 8
	for range 8 {
		high := sum & highBit
		sum <<= 1
		if high != 0 {
			sum ^= crcPoly
		}
	}
	return sum
}

// The caller has made sure that all are words; how many there are is left open.
func sumWords(words []int64) uint16 {
	sum := crcStart
	for _, w := range words {
		word := uint16(w)
		sum = sumByte(sum, uint8(word>>8))
		sum = sumByte(sum, uint8(word))
	}
	return sum
}

// The table is made anew for each call, as nothing is kept from one to the next.
func byteSums() [256]uint16 {
	var table [256]uint16
	for b := range len(table) {
		table[b] = sumByte(0, uint8(b))
	}
	return table
}

func blockCount(words []int64) int {
	return (len(words) + BlockWords - 1) / BlockWords
}

// The last block ends where the words do, though it is not full.
func blockSum(words []int64, block int) int64 {
	from := block * BlockWords
	to := min(from+BlockWords, len(words))
	return int64(sumWords(words[from:to]))
}
