package tests

import (
	"math"
	"slices"
)

// oddNumbers are ones that a careless bound or conversion trips over.
var oddNumbers = []int64{math.MinInt64, math.MinInt64 + 1, -65536, -32768, -256, -1, 0, 1, 7, 8, 9, 127, 128, 255, 256, 257,
	32767, 32768, 65534, 65535, 65536, 65537, 1 << 17, 1 << 32, math.MaxInt64 - 1, math.MaxInt64}

// mixedWords answers count words that look like noise, the same ones each time.
func mixedWords(count int, seed uint64) []int64 {
	words := make([]int64, count)
	state := seed
	for i := range words {
		state = state*6364136223846793005 + 1442695040888963407
		words[i] = int64(state >> 48)
	}
	return words
}

func sameWords(count int, word int64) []int64 {
	return slices.Repeat([]int64{word}, count)
}

// withWord answers a copy of words in which one place holds another word.
func withWord(words []int64, at int, word int64) []int64 {
	changed := slices.Clone(words)
	changed[at] = word
	return changed
}

// withSpare answers the same words with room behind them, so that a write past their end shows.
func withSpare(words []int64) []int64 {
	room := append(slices.Clone(words), -71, -72, -73)
	return room[:len(words)]
}
