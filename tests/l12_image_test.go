package tests

import (
	"cmp"
	"math"
	"slices"
	"testing"

	"loop.example/g00251/impl"
)

func checkWords(t *testing.T, b impl.Build, want ...int64) {
	t.Helper()
	checkBuildFault(t, b, impl.OK)
	if got := impl.PackBuild(b); !sameInts(got, impl.IntsResult{List: want}) {
		t.Errorf("PackBuild(%+v)\n= %v, want\n  %v", b, got, want)
	}
}

func TestImagesByHand(t *testing.T) {
	checkWords(t, impl.Build{}, 21930, 0, 0, 0, 0, 0, 0, 0, 20036)
	checkWords(t, impl.Build{Ports: []impl.Port{}, Outs: []int64{}, CodeA: []int64{}, CodeB: []int64{}, SumsA: []int64{}, SumsB: []int64{}}, 21930, 0, 0, 0, 0, 0, 0, 0, 20036)
	checkWords(t, impl.Build{Cells: 80, Ports: []impl.Port{{Cell: 79, Bool: true}, {Cell: 3}, {Bool: true}}, Outs: []int64{7, 7}, BudgetA: 20000, BudgetB: 1},
		21930, 80, 20000, 1, 3, 2, 0, 0, 179, 3, 100, 7, 7, 64254)
	checkWords(t, impl.BuildText("").Build, 21930, 0, 1, 1, 0, 0, 1, 1, 13, 13, 52386, 52386, 44023)
	checkWords(t, impl.BuildText("in a:int; out x:int; x := 7 / a;").Build,
		21930, 2, 6, 6, 1, 1, 11, 17, 0, 1, 12, 3, 1, 7, 2, 0, 6, 4, 3, 1, 13, 12, 3, 1, 0, 65528, 2, 1, 0, 6, 0, 0, 1, 4, 3, 1, 0, 13, 57981, 1631, 39640, 20326, 52386, 16031)
	checkWords(t, impl.BuildText("in rp:bool[2]; in p:bool; var n:int; in i:int; out rb:bool[3]; out o:int; var k:bool; out b:bool; rb[i] := p;").Build,
		21930, 11, 6, 6, 2, 5, 11, 16, 102, 4, 5, 6, 7, 8, 10, 12, 2, 2, 4, 2, 2, 9, 5, 5, 3, 13, 12, 2, 2, 0, 4, 2, 1, 2, 9, 1, 5, 0, 1, 5, 3, 13, 35379, 42426, 28351, 15381, 20756)
}

// What is told of the longest build there is comes to 993 words.
func TestTheLongestImage(t *testing.T) {
	b := impl.Build{Cells: 80, BudgetA: 20000, BudgetB: 20000}
	for i := range int64(60) {
		b.Outs = append(b.Outs, 79-i)
		if i < 24 {
			b.Ports = append(b.Ports, impl.Port{Cell: i * 3, Bool: i%2 == 1})
		}
	}
	b = withCode(b, mixedWords(400, 3), mixedWords(400, 4))
	checkBuildFault(t, b, impl.OK)
	if words := impl.PackBuild(b).List; len(words) != 993 {
		t.Errorf("%d words", len(words))
	}
}

func checkUnpacked(t *testing.T, words []int64, code int64) {
	t.Helper()
	checkImage(t, words)
	if got := impl.UnpackBuild(words); !sameBuilt(got, impl.BuildResult{Code: code, Build: got.Build}) || code != impl.OK && !sameBuild(got.Build, impl.Build{}) {
		t.Errorf("UnpackBuild(%v) = %+v, want the code %d", words, got, code)
	}
}

// images are those of builds of all kinds.
func images() [][]int64 {
	var all [][]int64
	for _, text := range []string{"", "in p : bool; out u : bool; rtrig g(p); u := gq;", "in rp:bool[2]; in p:bool; var n:int; in i:int; out rb:bool[3]; out o:int; rb[i] := p;"} {
		all = append(all, impl.PackBuild(impl.BuildText(text).Build).List)
	}
	return append(all, impl.PackBuild(impl.Build{}).List, impl.PackBuild(rightBuild()).List)
}

func TestHowManyWordsAnImageHas(t *testing.T) {
	empty := impl.PackBuild(impl.Build{}).List
	checkUnpacked(t, nil, impl.ErrText)
	checkUnpacked(t, []int64{}, impl.ErrText)
	for count := range 9 {
		checkUnpacked(t, empty[:count], impl.ErrText)
		if count > 0 {
			checkUnpacked(t, resealed(empty[:count]), impl.ErrText)
		}
	}
	checkUnpacked(t, empty, impl.OK)
	checkUnpacked(t, append(slices.Clone(empty), 1), impl.ErrSum)
	// The sum of words and of their sum is 0.
	checkUnpacked(t, append(slices.Clone(empty), 0), impl.ErrText)
	for _, count := range []int{1199, 1200, 1201, 1202, 5000} {
		code := codeIf(impl.ErrMany, count > 1200)
		noise := mixedWords(count, 7)
		checkUnpacked(t, noise, cmp.Or(code, impl.ErrText))
		noise[0] = impl.ImageMark
		checkUnpacked(t, noise, cmp.Or(code, impl.ErrSum))
		checkUnpacked(t, resealed(noise), cmp.Or(code, impl.ErrText))
		// They are too many ahead of one that is none, and that ahead of all else.
		checkUnpacked(t, withWord(noise, count-1, -1), cmp.Or(code, impl.ErrRange))
	}
}

func TestWordsOfImagesThatAreNone(t *testing.T) {
	for _, words := range images() {
		for at := range words {
			for _, n := range oddNumbers {
				if isNoWord(n) {
					checkUnpacked(t, withWord(words, at, n), impl.ErrRange)
				}
			}
		}
	}
	checkUnpacked(t, []int64{-1}, impl.ErrRange)
	checkUnpacked(t, []int64{0, 0, 65536}, impl.ErrRange)
	checkUnpacked(t, []int64{math.MinInt64, math.MaxInt64, 0, 0, 0, 0, 0, 0, 0, 0}, impl.ErrRange)
}

// Promise 13: with one word turned, by one bit or by many, the words are refused.
func TestImagesWithOneWordTurned(t *testing.T) {
	for _, words := range images() {
		checkUnpacked(t, words, impl.OK)
		for at, word := range words {
			code := int64(impl.ErrSum)
			if at == 0 {
				code = impl.ErrText
			}
			masks := append(mixedWords(30, uint64(at)), 65535)
			for bit := range 16 {
				masks = append(masks, 1<<bit)
			}
			for _, mask := range masks {
				if mask != 0 {
					checkUnpacked(t, withWord(words, at, word^mask), code)
				}
			}
		}
	}
	// Every other word in one place.
	words := impl.PackBuild(impl.Build{}).List
	for at := range words {
		for n := range int64(65536) {
			if got := impl.UnpackBuild(withWord(words, at, n)); (got.Code == impl.OK) != (n == words[at]) {
				t.Fatalf("with %d at %d: %+v", n, at, got)
			}
		}
	}
	// Of the first word it is asked ahead of the sum, whether that is right or not.
	for _, n := range []int64{0, 21929, 21931, 43605, 65535} {
		checkUnpacked(t, resealed(withWord(words, 0, n)), impl.ErrText)
	}
}

// The sum is right, but the counts tell more words, or fewer, than there are.
func TestCountsOfImages(t *testing.T) {
	for _, words := range images() {
		for place := 4; place < 8; place++ {
			for _, n := range []int64{0, 1, 2, 3, 7, 8, 9, 10, 16, 17, 23, 24, 25, 33, 34, 35, 51, 52, 53, 59, 60, 61, 399, 400, 401, 1000, 32767, 32768, 65535} {
				if n != words[place] {
					checkUnpacked(t, resealed(withWord(words, place, n)), impl.ErrText)
				}
			}
			for _, n := range []int64{words[place] - 1, words[place] + 1} {
				if n >= 0 {
					checkUnpacked(t, resealed(withWord(words, place, n)), impl.ErrText)
				}
			}
			great := slices.Clone(words)
			for other := 4; other < 8; other++ {
				great[other] = 65535
			}
			checkUnpacked(t, resealed(great), impl.ErrText)
		}
		// A word too many, ahead of the sum or anywhere else, and one too few.
		for at := 1; at < len(words); at++ {
			for _, n := range []int64{0, 1, 65535} {
				if more := resealed(slices.Insert(slices.Clone(words), at, n)); !slices.Equal(more, words) {
					checkUnpacked(t, more, impl.ErrText)
				}
			}
			if less := resealed(slices.Delete(slices.Clone(words), at, at+1)); len(less) >= 9 {
				checkUnpacked(t, less, impl.ErrText)
			}
		}
	}
	// Words of one list may stand for another's, where the counts fit; then it is another build's image.
	b := impl.Build{Cells: 9, Ports: []impl.Port{{Cell: 1}, {Cell: 8}}, Outs: []int64{3, 4}}
	words := impl.PackBuild(b).List
	for ports := range int64(5) {
		other := slices.Clone(words)
		other[4], other[5] = ports, 4-ports
		checkUnpacked(t, resealed(other), impl.OK)
	}
}

func TestPortsOfImages(t *testing.T) {
	for _, cells := range []int64{0, 1, 50, 79, 80} {
		for _, word := range []int64{0, 1, 49, 50, 78, 79, 80, 81, 98, 99, 100, 101, 149, 150, 178, 179, 180, 181, 199, 200, 201, 279, 300, 1000, 65535} {
			b := impl.Build{Cells: cells, Ports: []impl.Port{{Cell: word % 100, Bool: word >= 100}}}
			code := codeIf(impl.ErrText, word >= 200 || word%100 >= cells)
			words := sealed(21930, cells, 0, 0, 1, 0, 0, 0, word)
			checkUnpacked(t, words, code)
			if got := impl.UnpackBuild(words); code == impl.OK && !sameBuild(got.Build, b) {
				t.Errorf("UnpackBuild(%v) = %+v, want %+v", words, got, b)
			}
			// The cell of an output is told as it is.
			checkUnpacked(t, sealed(21930, cells, 0, 0, 0, 1, 0, 0, word), codeIf(impl.ErrText, word >= cells))
		}
	}
}

// The sum is right, but what the words tell has a fault; which one it is makes no difference.
func TestImagesOfNoBuild(t *testing.T) {
	checkUnpacked(t, sealed(21930, 80, 20000, 20000, 0, 0, 0, 0), impl.OK)
	for _, head := range [][]int64{{81, 0, 0}, {65535, 0, 0}, {0, 20001, 0}, {0, 65535, 0}, {0, 0, 20001}, {0, 0, 65535}} {
		checkUnpacked(t, sealed(slices.Concat([]int64{21930}, head, []int64{0, 0, 0, 0})...), impl.ErrText)
	}
	// 24 Ports and 60 Outs, and one more of them.
	for _, more := range [][2]int{{0, 0}, {1, 0}, {0, 1}, {1, 1}} {
		ports, outs := 24+more[0], 60+more[1]
		words := slices.Concat([]int64{21930, 5, 0, 0, int64(ports), int64(outs), 0, 0}, sameWords(ports, 104), sameWords(outs, 4))
		checkUnpacked(t, sealed(words...), codeIf(impl.ErrText, more != [2]int{}))
	}
	// Code that is too long, with the sums of its blocks.
	for _, count := range []int64{399, 400, 401, 408} {
		code := mixedWords(int(count), 9)
		checkUnpacked(t, sealed(slices.Concat([]int64{21930, 0, 0, 0, 0, 0, count, 0}, code, sumsTold(code))...), codeIf(impl.ErrText, count > 400))
		checkUnpacked(t, sealed(slices.Concat([]int64{21930, 0, 0, 0, 0, 0, 0, count}, code, sumsTold(code))...), codeIf(impl.ErrText, count > 400))
	}
	// Each word of an image turned, and the sum of all made right: a build's budget or output may be another one, its code or a sum not.
	for _, words := range images() {
		for at := 1; at < len(words)-1; at++ {
			for _, mask := range []int64{1, 2, 3, 64, 256, 32768, 65535} {
				checkImage(t, resealed(withWord(words, at, words[at]^mask)))
			}
		}
	}
	right := rightBuild()
	words := impl.PackBuild(right).List
	for at := 8 + len(right.Ports) + len(right.Outs); at < len(words)-1; at++ {
		checkUnpacked(t, resealed(withWord(words, at, words[at]^1)), impl.ErrText)
	}
	// No sums, the sums ahead of the code, the sums of the other one.
	code := []int64{1, 2, 3}
	checkUnpacked(t, sealed(slices.Concat([]int64{21930, 0, 0, 0, 0, 0, 3, 0}, code, sumsTold(code))...), impl.OK)
	checkUnpacked(t, sealed(slices.Concat([]int64{21930, 0, 0, 0, 0, 0, 3, 0}, code)...), impl.ErrText)
	checkUnpacked(t, sealed(slices.Concat([]int64{21930, 0, 0, 0, 0, 0, 3, 0}, sumsTold(code), code)...), impl.ErrText)
	other := []int64{4, 5}
	checkUnpacked(t, sealed(slices.Concat([]int64{21930, 0, 0, 0, 0, 0, 3, 2}, code, other, sumsTold(code), sumsTold(other))...), impl.OK)
	checkUnpacked(t, sealed(slices.Concat([]int64{21930, 0, 0, 0, 0, 0, 3, 2}, code, other, sumsTold(other), sumsTold(code))...), impl.ErrText)
}
