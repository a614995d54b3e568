package tests

import (
	"math"
	"testing"

	"loop.example/g00251/impl"
)

// edgeWords are those about the ends of what is signed and what is not.
var edgeWords = []int64{0, 1, 2, 3, 7, 8, 254, 255, 256, 257, 21845, 32766, 32767, 32768, 32769, 43690, 65279, 65280, 65528, 65533, 65534, 65535}

// restOf is a second way to WordOf: what a division leaves, made not negative.
func restOf(n int64) int64 {
	left := n % 65536
	if left < 0 {
		left += 65536
	}
	return left
}

func signedRest(n int64) int64 {
	w := restOf(n)
	if w >= 32768 {
		return w - 65536
	}
	return w
}

// bitByBit asks of each pair of bits how many of the two are 1.
func bitByBit(a, b int64, holds func(ones int64) bool) int64 {
	var made int64
	for place := int64(1); place < 65536; place *= 2 {
		if holds(a/place%2 + b/place%2) {
			made += place
		}
	}
	return made
}

// byMagnitudes divides what has no sign, so that no sign of Go's own division comes in.
func byMagnitudes(a, b int64) (quotient, left int64) {
	size, by := max(a, -a), max(b, -b)
	quotient, left = size/by, size%by
	if (a < 0) != (b < 0) {
		quotient = -quotient
	}
	if a < 0 {
		left = -left
	}
	return quotient, left
}

func countIf(holds bool) int64 {
	if holds {
		return 1
	}
	return 0
}

// binaryTold is a second way to BinaryOf, by whole numbers alone.
func binaryTold(op, a, b int64) impl.IntResult {
	if op < 1 || op > 10 {
		return impl.IntResult{Code: impl.ErrRange}
	}
	left, right := restOf(a), restOf(b)
	if (op == 4 || op == 5) && right == 0 {
		return impl.IntResult{Code: impl.ErrNone}
	}
	return impl.IntResult{Value: restOf(reckoned(op, left, right))}
}

func reckoned(op, a, b int64) int64 {
	switch op {
	case 1:
		return a + b
	case 2:
		return a - b
	case 3:
		return a * b
	case 4:
		quotient, _ := byMagnitudes(signedRest(a), signedRest(b))
		return quotient
	case 5:
		_, left := byMagnitudes(signedRest(a), signedRest(b))
		return left
	case 6:
		return bitByBit(a, b, func(ones int64) bool { return ones == 2 })
	case 7:
		return bitByBit(a, b, func(ones int64) bool { return ones >= 1 })
	case 8:
		return bitByBit(a, b, func(ones int64) bool { return ones == 1 })
	case 9:
		return countIf(signedRest(a) < signedRest(b))
	}
	return countIf(a == b)
}

// upsideDown is a second way to BinaryInv.
func upsideDown(op, a, b int64) impl.IntResult {
	told := binaryTold(op, 65535-restOf(a), 65535-restOf(b))
	if told.Code != impl.OK {
		return told
	}
	return impl.IntResult{Value: 65535 - told.Value}
}

// wordPairs answers pairs of edges with one another, with noise, and noise with noise.
func wordPairs() [][2]int64 {
	var pairs [][2]int64
	noise := mixedWords(400, 5)
	for _, a := range edgeWords {
		for _, b := range edgeWords {
			pairs = append(pairs, [2]int64{a, b})
		}
		for _, b := range noise[:40] {
			pairs = append(pairs, [2]int64{a, b}, [2]int64{b, a})
		}
	}
	for i, a := range noise {
		pairs = append(pairs, [2]int64{a, noise[(i*7+3)%len(noise)]}, [2]int64{a, a}, [2]int64{a, int64(i) % 23})
	}
	return pairs
}

func TestOpNumbers(t *testing.T) {
	names := []int64{impl.OpAdd, impl.OpSub, impl.OpMul, impl.OpDiv, impl.OpMod, impl.OpAnd, impl.OpOr, impl.OpXor, impl.OpLess, impl.OpSame}
	for i, op := range names {
		if op != int64(i)+1 {
			t.Errorf("op %d has the number %d", i+1, op)
		}
	}
}

// manyNumbers are all words, and such as lie about them or far beyond them.
func manyNumbers() []int64 {
	var list []int64
	for n := int64(-70000); n <= 140000; n++ {
		list = append(list, n)
	}
	for shift := range 63 {
		for near := int64(-2); near <= 2; near++ {
			list = append(list, 1<<shift+near, -(1<<shift)+near)
		}
	}
	for i, w := range mixedWords(400, 11) {
		list = append(list, w<<(i%48)+int64(i), -(w << (i % 48)))
	}
	return append(list, oddNumbers...)
}

func TestWordsOfOneNumber(t *testing.T) {
	for _, n := range manyNumbers() {
		w := restOf(n)
		checkNumber(t, "WordOf", n, impl.WordOf(n), w)
		checkNumber(t, "SignedOf", n, impl.SignedOf(n), signedRest(n))
		checkNumber(t, "Complement", n, impl.Complement(n), 65535-w)
		checkNumber(t, "NegOf", n, impl.NegOf(n), (65536-w)%65536)
		checkNumber(t, "NotOf", n, impl.NotOf(n), countIf(w == 0))
	}
}

func checkNumber(t *testing.T, name string, n, got, want int64) {
	if got != want {
		t.Fatalf("%s(%d) = %d, want %d", name, n, got, want)
	}
}

func TestWordsOfOneNumberByHand(t *testing.T) {
	type row struct{ n, word, signed, complement, neg, not int64 }
	for _, r := range []row{
		{0, 0, 0, 65535, 0, 1},
		{1, 1, 1, 65534, 65535, 0},
		{32767, 32767, 32767, 32768, 32769, 0},
		{32768, 32768, -32768, 32767, 32768, 0},
		{65535, 65535, -1, 0, 1, 0},
		{65536, 0, 0, 65535, 0, 1},
		{-1, 65535, -1, 0, 1, 0},
		{-32768, 32768, -32768, 32767, 32768, 0},
		{-32769, 32767, 32767, 32768, 32769, 0},
		{-65535, 1, 1, 65534, 65535, 0},
		{-65536, 0, 0, 65535, 0, 1},
		{math.MinInt64, 0, 0, 65535, 0, 1},
		{math.MinInt64 + 1, 1, 1, 65534, 65535, 0},
		{math.MaxInt64, 65535, -1, 0, 1, 0},
	} {
		got := row{r.n, impl.WordOf(r.n), impl.SignedOf(r.n), impl.Complement(r.n), impl.NegOf(r.n), impl.NotOf(r.n)}
		if got != r {
			t.Errorf("of %d: got %v, want %v", r.n, got, r)
		}
	}
}

func TestBinaryOfByHand(t *testing.T) {
	type row struct{ op, a, b, want int64 }
	for _, r := range []row{
		{impl.OpAdd, 65535, 2, 1},
		{impl.OpAdd, 32767, 1, 32768},
		{impl.OpSub, 1, 2, 65535},
		{impl.OpSub, 32768, 1, 32767},
		{impl.OpMul, 65535, 65535, 1},
		{impl.OpMul, 256, 256, 0},
		{impl.OpMul, 32768, 65535, 32768},
		{impl.OpDiv, 7, 2, 3},
		{impl.OpDiv, 65529, 2, 65533},
		{impl.OpDiv, 7, 65534, 65533},
		{impl.OpDiv, 65529, 65534, 3},
		{impl.OpDiv, 32768, 65535, 32768},
		{impl.OpDiv, 32768, 1, 32768},
		{impl.OpDiv, 32767, 32768, 0},
		{impl.OpDiv, 32768, 32767, 65535},
		{impl.OpDiv, 0, 65535, 0},
		{impl.OpMod, 7, 2, 1},
		{impl.OpMod, 65529, 2, 65535},
		{impl.OpMod, 7, 65534, 1},
		{impl.OpMod, 65529, 65534, 65535},
		{impl.OpMod, 32768, 65535, 0},
		{impl.OpMod, 32768, 32767, 65535},
		{impl.OpMod, 32767, 32768, 32767},
		{impl.OpAnd, 12, 10, 8},
		{impl.OpAnd, 65535, 32769, 32769},
		{impl.OpOr, 12, 10, 14},
		{impl.OpOr, 32768, 1, 32769},
		{impl.OpXor, 12, 10, 6},
		{impl.OpXor, 65535, 1, 65534},
		{impl.OpLess, 65535, 0, 1},
		{impl.OpLess, 32768, 32767, 1},
		{impl.OpLess, 32767, 32768, 0},
		{impl.OpLess, 1, 2, 1},
		{impl.OpLess, 2, 1, 0},
		{impl.OpLess, 2, 2, 0},
		{impl.OpSame, 65535, 65535, 1},
		{impl.OpSame, 65535, 0, 0},
		{impl.OpSame, -1, 65535, 1},
		{impl.OpSame, 0, 65536, 1},
	} {
		if got := impl.BinaryOf(r.op, r.a, r.b); got != (impl.IntResult{Value: r.want}) {
			t.Errorf("BinaryOf(%d, %d, %d) = %v, want %d", r.op, r.a, r.b, got, r.want)
		}
	}
}

func TestBinaryOfPairs(t *testing.T) {
	for _, pair := range wordPairs() {
		for op := int64(0); op <= 11; op++ {
			checkBinary(t, op, pair[0], pair[1])
		}
	}
}

func checkBinary(t *testing.T, op, a, b int64) {
	if got, want := impl.BinaryOf(op, a, b), binaryTold(op, a, b); got != want {
		t.Fatalf("BinaryOf(%d, %d, %d) = %v, want %v", op, a, b, got, want)
	}
	if got, want := impl.BinaryInv(op, a, b), upsideDown(op, a, b); got != want {
		t.Fatalf("BinaryInv(%d, %d, %d) = %v, want %v", op, a, b, got, want)
	}
}

func TestBinaryAtOddNumbers(t *testing.T) {
	for _, op := range append([]int64{2, 3, 4, 5, 6, 10, 11}, oddNumbers...) {
		for _, a := range oddNumbers {
			for _, b := range oddNumbers {
				checkBinary(t, op, a, b)
			}
		}
	}
}

// What is given beside a word by whole rounds of 65536 is that word.
func TestBinaryTakesWordsOfNumbers(t *testing.T) {
	far := []int64{65536, -65536, 1 << 40, -(1 << 40), math.MaxInt64 - 65535, math.MinInt64}
	for _, a := range edgeWords {
		for _, b := range edgeWords {
			for op := int64(1); op <= 10; op++ {
				for i, more := range far {
					other := far[(i+1)%len(far)]
					if impl.BinaryOf(op, a+more, b+other) != impl.BinaryOf(op, a, b) {
						t.Fatalf("BinaryOf(%d, %d, %d) is not that of %d and %d", op, a+more, b+other, a, b)
					}
					if impl.BinaryInv(op, a+more, b+other) != impl.BinaryInv(op, a, b) {
						t.Fatalf("BinaryInv(%d, %d, %d) is not that of %d and %d", op, a+more, b+other, a, b)
					}
				}
			}
		}
	}
}

func TestBinaryWrongOps(t *testing.T) {
	want := impl.IntResult{Code: impl.ErrRange}
	for _, op := range []int64{0, 11, 12, -1, -10, 256 + 1, 65536 + 1, 65536 + 4, -65536 + 4, 1<<32 + 1, math.MinInt64, math.MinInt64 + 4, math.MaxInt64} {
		for _, a := range oddNumbers {
			// 0 and 65535 are the divisors that BinaryOf and BinaryInv refuse: the op is asked ahead of them.
			for _, b := range []int64{0, 65535, 65536, 3, math.MinInt64} {
				if impl.BinaryOf(op, a, b) != want || impl.BinaryInv(op, a, b) != want {
					t.Errorf("op %d of %d and %d is not refused by ErrRange", op, a, b)
				}
			}
		}
	}
}

func TestDivisorsOfNought(t *testing.T) {
	want := impl.IntResult{Code: impl.ErrNone}
	for _, op := range []int64{impl.OpDiv, impl.OpMod} {
		for _, a := range append(oddNumbers, edgeWords...) {
			for _, nought := range []int64{0, 65536, -65536, 1 << 32, math.MinInt64} {
				if got := impl.BinaryOf(op, a, nought); got != want {
					t.Errorf("BinaryOf(%d, %d, %d) = %v, want ErrNone", op, a, nought, got)
				}
				if got := impl.BinaryInv(op, a, nought); got.Code != impl.OK {
					t.Errorf("BinaryInv(%d, %d, %d) = %v: upside down that is -1", op, a, nought, got)
				}
			}
			for _, nought := range []int64{65535, -1, 131071, math.MaxInt64} {
				if got := impl.BinaryInv(op, a, nought); got != want {
					t.Errorf("BinaryInv(%d, %d, %d) = %v, want ErrNone", op, a, nought, got)
				}
				if got := impl.BinaryOf(op, a, nought); got.Code != impl.OK {
					t.Errorf("BinaryOf(%d, %d, %d) = %v: that is -1", op, a, nought, got)
				}
			}
		}
	}
}

func TestNoughtIsRefusedByDivisionAlone(t *testing.T) {
	for _, op := range []int64{1, 2, 3, 6, 7, 8, 9, 10} {
		if got := impl.BinaryOf(op, 5, 0); got.Code != impl.OK {
			t.Errorf("BinaryOf(%d, 5, 0) = %v", op, got)
		}
		if got := impl.BinaryInv(op, 5, 65535); got.Code != impl.OK {
			t.Errorf("BinaryInv(%d, 5, 65535) = %v", op, got)
		}
	}
}

func TestBinaryInvByHand(t *testing.T) {
	type row struct{ op, a, b, want int64 }
	for _, r := range []row{
		{impl.OpAdd, 65534, 65533, 65532},
		{impl.OpAdd, 65535, 65535, 65535},
		{impl.OpSub, 65535, 65534, 0},
		{impl.OpMul, 65532, 65531, 65523},
		{impl.OpDiv, 6, 65533, 2},
		{impl.OpDiv, 32767, 0, 32767},
		{impl.OpMod, 6, 65533, 0},
		{impl.OpMod, 32767, 0, 65535},
		{impl.OpAnd, 65523, 65525, 65527},
		{impl.OpLess, 0, 65535, 65534},
		{impl.OpLess, 65535, 0, 65535},
		{impl.OpSame, 9, 9, 65534},
		{impl.OpSame, 9, 8, 65535},
	} {
		if got := impl.BinaryInv(r.op, r.a, r.b); got != (impl.IntResult{Value: r.want}) {
			t.Errorf("BinaryInv(%d, %d, %d) = %v, want %d", r.op, r.a, r.b, got, r.want)
		}
	}
}

// Promise 3: to reckon upside down is to reckon, upside down.
func TestUpsideDownIsTheSame(t *testing.T) {
	for _, pair := range wordPairs() {
		a, b := pair[0], pair[1]
		for op := int64(1); op <= 10; op++ {
			plain := impl.BinaryOf(op, a, b)
			down := impl.BinaryInv(op, impl.Complement(a), impl.Complement(b))
			if plain.Code != down.Code {
				t.Fatalf("op %d of %d and %d: code %d, upside down %d", op, a, b, plain.Code, down.Code)
			}
			if plain.Code == impl.OK && impl.Complement(down.Value) != plain.Value {
				t.Fatalf("op %d of %d and %d: %d, upside down %d", op, a, b, plain.Value, down.Value)
			}
			if plain.Code != impl.OK && (plain.Value != 0 || down.Value != 0) {
				t.Fatalf("op %d of %d and %d: a value beside a code: %v, %v", op, a, b, plain, down)
			}
		}
	}
}

// Promise 3: a quotient and what it leaves make the word again.
func TestQuotientAndRestMakeTheWord(t *testing.T) {
	for _, pair := range append(wordPairs(), [2]int64{32768, 65535}, [2]int64{-32768, -1}) {
		a, b := pair[0], pair[1]
		quotient := impl.BinaryOf(impl.OpDiv, a, b)
		left := impl.BinaryOf(impl.OpMod, a, b)
		if b == 0 {
			if quotient.Code != impl.ErrNone || left.Code != impl.ErrNone {
				t.Fatalf("%d by 0: %v, %v", a, quotient, left)
			}
			continue
		}
		product := impl.BinaryOf(impl.OpMul, quotient.Value, b)
		if again := impl.BinaryOf(impl.OpAdd, product.Value, left.Value); again != (impl.IntResult{Value: impl.WordOf(a)}) {
			t.Fatalf("%d by %d: %v and %v make %v", a, b, quotient, left, again)
		}
		checkRest(t, a, b, impl.SignedOf(left.Value))
	}
}

// What is left is smaller than the divisor, and has the sign of what was divided.
func checkRest(t *testing.T, a, b, left int64) {
	divided, by := impl.SignedOf(a), impl.SignedOf(b)
	if max(left, -left) >= max(by, -by) {
		t.Fatalf("%d by %d leaves %d", divided, by, left)
	}
	if left < 0 && divided > 0 || left > 0 && divided < 0 {
		t.Fatalf("%d by %d leaves %d, of the other sign", divided, by, left)
	}
}

func TestComplementOfComplement(t *testing.T) {
	for w := range int64(65536) {
		if impl.Complement(impl.Complement(w)) != w || impl.NegOf(impl.NegOf(w)) != w || impl.WordOf(impl.SignedOf(w)) != w {
			t.Fatalf("%d does not come back", w)
		}
		if impl.BinaryOf(impl.OpAdd, w, impl.NegOf(w)) != (impl.IntResult{}) {
			t.Fatalf("%d and its negative are not 0", w)
		}
	}
}

// Promise 1: nothing is kept, so the order of calls does not matter.
func TestWordsKeepNothing(t *testing.T) {
	first := make(map[[3]int64]impl.IntResult)
	for _, op := range []int64{0, 1, 4, 5, 9, 10, 11} {
		for _, a := range oddNumbers {
			for _, b := range oddNumbers {
				first[[3]int64{op, a, b}] = impl.BinaryOf(op, a, b)
			}
		}
	}
	for key, told := range first {
		impl.BinaryInv(key[0], key[2], key[1])
		if again := impl.BinaryOf(key[0], key[1], key[2]); again != told {
			t.Errorf("BinaryOf of %v: %v, then %v", key, told, again)
		}
	}
}
