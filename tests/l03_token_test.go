package tests

import (
	"math"
	"regexp"
	"slices"
	"strconv"
	"strings"
	"testing"
	"unsafe"

	"loop.example/g00251/impl"
)

var allWords = strings.Fields("and bool ctu do else end false for if in int mod not or out rtrig sr then to ton true var xor")
var twoByteMarks = strings.Fields(":= <> <= >=")
var oneByteMarks = strings.Fields("+ - * / = < > ( ) [ ] ; : ,")

func allMarks() []string {
	return append(slices.Clone(twoByteMarks), oneByteMarks...)
}

// lexed is a second way to LexText: regular expressions take one piece after the other off the text.
var (
	blanksAhead = regexp.MustCompile(`^[ \n]+`)
	pieceAhead  = regexp.MustCompile(`^([a-z_]+|[0-9][0-9#A-F]*|:=|<>|<=|>=|[-+*/=<>()\[\];:,])`)
	nameWhole   = regexp.MustCompile(`^[a-z_]{1,8}$`)
	plainWhole  = regexp.MustCompile(`^(0|[1-9][0-9]{0,4})$`)
	hexWhole    = regexp.MustCompile(`^16#([0-9A-F]{1,4})$`)
)

func lexed(text string) impl.TokensResult {
	if len(text) > 1200 {
		return impl.TokensResult{Code: impl.ErrMany}
	}
	var tokens []impl.Token
	for at := 0; ; {
		at += len(blanksAhead.FindString(text[at:]))
		if at == len(text) {
			return impl.TokensResult{Tokens: tokens}
		}
		if len(tokens) == 400 {
			return impl.TokensResult{Code: impl.ErrMany, At: int64(at)}
		}
		piece := pieceAhead.FindString(text[at:])
		kind, num := sortOf(piece)
		if kind == 0 {
			return impl.TokensResult{Code: impl.ErrText, At: int64(at)}
		}
		tokens = append(tokens, impl.Token{Kind: kind, Text: piece, Num: num, At: int64(at)})
		at += len(piece)
	}
}

func sortOf(piece string) (kind, num int64) {
	if slices.Contains(allWords, piece) {
		return impl.TokWord, 0
	}
	if nameWhole.MatchString(piece) {
		return impl.TokName, 0
	}
	if slices.Contains(allMarks(), piece) {
		return impl.TokMark, 0
	}
	digits, base := "", 10
	if plainWhole.MatchString(piece) {
		digits = piece
	} else if found := hexWhole.FindStringSubmatch(piece); found != nil {
		digits, base = found[1], 16
	}
	number, err := strconv.ParseInt(digits, base, 64)
	if err != nil || number > 65535 {
		return 0, 0
	}
	return impl.TokNumber, number
}

func sameTokens(a, b impl.TokensResult) bool {
	return a.Code == b.Code && a.At == b.At && slices.Equal(a.Tokens, b.Tokens)
}

func checkLexed(t *testing.T, text string) {
	t.Helper()
	if got, want := impl.LexText(text), lexed(text); !sameTokens(got, want) {
		t.Fatalf("LexText(%q) = %v, want %v", text, got, want)
	}
}

// checkTokens holds what is told against tokens that are written by hand.
func checkTokens(t *testing.T, text string, want ...impl.Token) {
	t.Helper()
	if got := impl.LexText(text); !sameTokens(got, impl.TokensResult{Tokens: want}) {
		t.Errorf("LexText(%q) = %v, want %v", text, got, want)
	}
}

func checkNoTokens(t *testing.T, text string, code, at int64) {
	t.Helper()
	got := impl.LexText(text)
	if got.Code != code || got.At != at || len(got.Tokens) != 0 {
		t.Errorf("LexText(%q) = %v, want the code %d at %d and no tokens", text, got, code, at)
	}
}

func nameAt(text string, at int64) impl.Token {
	return impl.Token{Kind: impl.TokName, Text: text, At: at}
}

func wordAt(text string, at int64) impl.Token {
	return impl.Token{Kind: impl.TokWord, Text: text, At: at}
}

func markAt(text string, at int64) impl.Token {
	return impl.Token{Kind: impl.TokMark, Text: text, At: at}
}

func numberAt(text string, num, at int64) impl.Token {
	return impl.Token{Kind: impl.TokNumber, Text: text, Num: num, At: at}
}

// noiseText answers a text of pieces that look like noise, the same one each time.
func noiseText(pieces []string, count int, seed uint64) string {
	var text strings.Builder
	for _, w := range mixedWords(count, seed) {
		text.WriteString(pieces[int(w)%len(pieces)])
	}
	return text.String()
}

// rightPieces make texts that are mostly read, with pieces that run into one another.
func rightPieces() []string {
	pieces := append(allMarks(), allWords...)
	pieces = append(pieces, " ", " ", "\n", "  ", " \n ", " ", " ", "\n", " ", " ")
	return append(pieces, "a", "x_y", "_", "count", "0", "1", "7", "65535", "16#0", "16#FF", "16#FFFF", "16#00A0")
}

func wrongPieces() []string {
	return append(rightPieces(), "#", "A", "F", "G", "\t", "\r", "\x00", "\x80", "\xff", "é", "\u00a0", "!", "&", ".", "00", "16#", "65536", "abcdefghi")
}

func TestTokenNumbers(t *testing.T) {
	for i, kind := range []int64{impl.TokName, impl.TokNumber, impl.TokWord, impl.TokMark} {
		if kind != int64(i)+1 {
			t.Errorf("kind %d has the number %d", i+1, kind)
		}
	}
	if impl.MaxSource != 1200 || impl.MaxTokens != 400 {
		t.Error("MaxSource or MaxTokens is another number")
	}
}

func TestLexTextByHand(t *testing.T) {
	checkTokens(t, "")
	checkTokens(t, " \n\n  ")
	checkTokens(t, "x := y;", nameAt("x", 0), markAt(":=", 2), nameAt("y", 5), markAt(";", 6))
	checkTokens(t, "\nif a<>16#1F", wordAt("if", 1), nameAt("a", 4), markAt("<>", 5), numberAt("16#1F", 31, 7))
	checkTokens(t, "12ab", numberAt("12", 12, 0), nameAt("ab", 2))
	checkTokens(t, "ab12", nameAt("ab", 0), numberAt("12", 12, 2))
	checkTokens(t, "ifx if_ _if", nameAt("ifx", 0), nameAt("if_", 4), nameAt("_if", 8))
	checkTokens(t, "tonto ton to", nameAt("tonto", 0), wordAt("ton", 6), wordAt("to", 10))
	checkTokens(t, "true false", wordAt("true", 0), wordAt("false", 5))
	checkTokens(t, "-1", markAt("-", 0), numberAt("1", 1, 1))
	checkTokens(t, "a\nb", nameAt("a", 0), nameAt("b", 2))
	checkNoTokens(t, "x 007", impl.ErrText, 2)
	checkNoTokens(t, "x := 12A + 1", impl.ErrText, 5)
	checkNoTokens(t, "a 65536 \xff", impl.ErrText, 2)
	checkNoTokens(t, "a \xff 65536", impl.ErrText, 2)
}

func TestEachMark(t *testing.T) {
	for _, mark := range allMarks() {
		checkTokens(t, mark, markAt(mark, 0))
		checkTokens(t, " "+mark+"\n", markAt(mark, 1))
		checkTokens(t, "a"+mark+"1", nameAt("a", 0), markAt(mark, 1), numberAt("1", 1, int64(len(mark))+1))
	}
}

func TestMarksSideBySide(t *testing.T) {
	checkTokens(t, "::=", markAt(":", 0), markAt(":=", 1))
	checkTokens(t, ":==", markAt(":=", 0), markAt("=", 2))
	checkTokens(t, "<=>", markAt("<=", 0), markAt(">", 2))
	checkTokens(t, "<>=", markAt("<>", 0), markAt("=", 2))
	checkTokens(t, ">>=", markAt(">", 0), markAt(">=", 1))
	checkTokens(t, ">=<", markAt(">=", 0), markAt("<", 2))
	checkTokens(t, "<<>>", markAt("<", 0), markAt("<>", 1), markAt(">", 3))
	checkTokens(t, "=<", markAt("=", 0), markAt("<", 1))
	checkTokens(t, "=:", markAt("=", 0), markAt(":", 1))
	checkTokens(t, ": =", markAt(":", 0), markAt("=", 2))
	checkTokens(t, "<\n>", markAt("<", 0), markAt(">", 2))
	checkTokens(t, "==", markAt("=", 0), markAt("=", 1))
	for _, first := range allMarks() {
		for _, second := range allMarks() {
			for _, third := range allMarks() {
				checkLexed(t, first+second+third)
			}
		}
	}
}

// Only such two bytes are one mark as the document names.
func TestTwoBytesOfOneMark(t *testing.T) {
	for a := range 256 {
		for b := range 256 {
			checkLexed(t, string([]byte{byte(a), byte(b)}))
		}
	}
}

func TestEachByte(t *testing.T) {
	const tokens = "abcdefghijklmnopqrstuvwxyz_0123456789+-*/=<>()[];:,"
	for b := range 256 {
		text := string([]byte{byte(b)})
		for _, around := range []string{"", " ", "\n", "a ", "1 ", "< "} {
			at := int64(len(around))
			switch {
			case text == " " || text == "\n":
				if got := impl.LexText(around + text); got.Code != impl.OK {
					t.Errorf("byte %d behind %q: %v", b, around, got)
				}
			case strings.Contains(tokens, text):
				if got := impl.LexText(around + text); got.Code != impl.OK || got.Tokens[len(got.Tokens)-1].Text != text {
					t.Errorf("byte %d behind %q: %v", b, around, got)
				}
			default:
				checkNoTokens(t, around+text, impl.ErrText, at)
			}
		}
	}
}

func TestBytesAbove127(t *testing.T) {
	checkNoTokens(t, "é", impl.ErrText, 0)
	checkNoTokens(t, "aé", impl.ErrText, 1)
	checkNoTokens(t, "1é", impl.ErrText, 1)
	checkNoTokens(t, "<é", impl.ErrText, 1)
	checkNoTokens(t, "a é := 1", impl.ErrText, 2)
	checkNoTokens(t, "x\u00a0y", impl.ErrText, 1)
	checkNoTokens(t, "\u2028", impl.ErrText, 0)
	checkNoTokens(t, "١", impl.ErrText, 0)
	checkNoTokens(t, "a\x80", impl.ErrText, 1)
	checkNoTokens(t, "\xff\xfe", impl.ErrText, 0)
	checkNoTokens(t, "a \xe1", impl.ErrText, 2)
	if impl.IsName("é") || impl.IsName("\xe1") || impl.IsName("a\x80") || impl.IsWord("\xffif") {
		t.Error("a byte above 127 is a letter")
	}
}

func TestNumbersOfBase10(t *testing.T) {
	for n := range int64(65536) {
		text := strconv.FormatInt(n, 10)
		want := impl.TokensResult{Tokens: []impl.Token{numberAt(text, n, 0)}}
		if got := impl.LexText(text); !sameTokens(got, want) {
			t.Fatalf("LexText(%q) = %v", text, got)
		}
	}
	for _, text := range []string{"65536", "65540", "70000", "99999", "100000", "655350", "999999", "131072", "4294967297", "18446744073709551617",
		strings.Repeat("9", 1200), "00", "01", "07", "007", "00000", "00001", "065535", "000001", "0000000000"} {
		checkNoTokens(t, text, impl.ErrText, 0)
		checkNoTokens(t, "a := "+text[:min(len(text), 1000)]+" ;", impl.ErrText, 5)
	}
}

func TestNumbersOfBase16(t *testing.T) {
	for n := range int64(65536) {
		short := strings.ToUpper(strconv.FormatInt(n, 16))
		long := strings.Repeat("0", 4-len(short)) + short
		for _, digits := range []string{short, long} {
			want := impl.TokensResult{Tokens: []impl.Token{numberAt("16#"+digits, n, 0)}}
			if got := impl.LexText("16#" + digits); !sameTokens(got, want) {
				t.Fatalf("LexText(16#%s) = %v", digits, got)
			}
		}
	}
	for _, text := range []string{"16#", "16#12345", "16#00000", "16#0000F", "16#FFFFF", "16##1", "16#1#", "16#1#2", "016#1", "1#1", "6#1", "160#1",
		"8#7", "10#1", "2#1", "0#1", "1F", "1A", "16F", "0A", "9#", "16#16#1"} {
		checkNoTokens(t, text, impl.ErrText, 0)
		checkNoTokens(t, "b="+text+";", impl.ErrText, 2)
	}
}

func TestSmallLettersOfBase16(t *testing.T) {
	checkNoTokens(t, "16#ff", impl.ErrText, 0)
	checkNoTokens(t, "16#a", impl.ErrText, 0)
	checkNoTokens(t, "x 16#abcd", impl.ErrText, 2)
	checkTokens(t, "16#Fa", numberAt("16#F", 15, 0), nameAt("a", 4))
	checkTokens(t, "16#1ff", numberAt("16#1", 1, 0), nameAt("ff", 4))
	checkNoTokens(t, "16#1G", impl.ErrText, 4)
	checkNoTokens(t, "FF", impl.ErrText, 0)
	checkNoTokens(t, "#1", impl.ErrText, 0)
	checkNoTokens(t, "aF", impl.ErrText, 1)
	checkNoTokens(t, "16#+1", impl.ErrText, 0)
	checkNoTokens(t, "16# 1", impl.ErrText, 0)
	checkNoTokens(t, "16 #1", impl.ErrText, 3)
	checkTokens(t, "16 16#16", numberAt("16", 16, 0), numberAt("16#16", 22, 3))
	checkTokens(t, "16#12 16#3+16#4", numberAt("16#12", 18, 0), numberAt("16#3", 3, 6), markAt("+", 10), numberAt("16#4", 4, 11))
}

func TestEachWord(t *testing.T) {
	for _, word := range allWords {
		if !impl.IsWord(word) || impl.IsName(word) {
			t.Errorf("IsWord(%q) = %t, IsName %t", word, impl.IsWord(word), impl.IsName(word))
		}
		checkTokens(t, word, wordAt(word, 0))
		checkTokens(t, "("+word+")", markAt("(", 0), wordAt(word, 1), markAt(")", int64(len(word))+1))
		for _, near := range []string{word + "_", "_" + word, word + "q", word + word[:1], word + word} {
			if slices.Contains(allWords, near) {
				continue
			}
			if impl.IsWord(near) || impl.IsName(near) != (len(near) <= 8) {
				t.Errorf("IsWord(%q) = %t, IsName %t", near, impl.IsWord(near), impl.IsName(near))
			}
			checkLexed(t, near)
		}
		for _, none := range []string{word + " ", " " + word, word + "\n", word + "1", word + ";", strings.ToUpper(word), strings.ToUpper(word[:1]) + word[1:], word + "\x00", word + " " + word} {
			if impl.IsWord(none) || impl.IsName(none) {
				t.Errorf("IsWord(%q) = %t, IsName %t", none, impl.IsWord(none), impl.IsName(none))
			}
		}
	}
}

// Each text of up to 3 letters, and each of 4 or 5 that a word begins, is told apart.
func TestShortPieces(t *testing.T) {
	const letters = "abcdefghijklmnopqrstuvwxyz_"
	short := []string{""}
	for range 3 {
		var longer []string
		for _, text := range short {
			for _, letter := range letters {
				longer = append(longer, text+string(letter))
			}
		}
		for _, text := range longer {
			checkPiece(t, text)
		}
		short = longer
	}
	for _, word := range allWords {
		for i := range len(word) {
			for _, letter := range letters {
				checkPiece(t, word[:i]+string(letter)+word[i+1:])
				checkPiece(t, word[:i]+string(letter)+word[i:])
			}
		}
	}
}

func checkPiece(t *testing.T, text string) {
	word := slices.Contains(allWords, text)
	name := !word && nameWhole.MatchString(text)
	if impl.IsWord(text) != word || impl.IsName(text) != name {
		t.Fatalf("IsWord(%q) = %t, IsName %t", text, impl.IsWord(text), impl.IsName(text))
	}
}

func TestNamesOfEightAndNine(t *testing.T) {
	for _, name := range []string{"a", "_", "z", "ab", "abcdefgh", "________", "zzzzzzzz", "a_b", "____and_", "rtrigger"} {
		if !impl.IsName(name) || impl.IsWord(name) {
			t.Errorf("IsName(%q) = %t", name, impl.IsName(name))
		}
		checkTokens(t, name, nameAt(name, 0))
		checkTokens(t, name+" "+name, nameAt(name, 0), nameAt(name, int64(len(name))+1))
	}
	for _, long := range []string{"abcdefghi", "_________", "andandand", "zzzzzzzzz", strings.Repeat("a", 16), strings.Repeat("x", 1200)} {
		if impl.IsName(long) || impl.IsWord(long) {
			t.Errorf("IsName(%q) = %t", long, impl.IsName(long))
		}
		checkNoTokens(t, long, impl.ErrText, 0)
	}
	checkNoTokens(t, "x := abcdefghi;", impl.ErrText, 5)
	for _, none := range []string{"", " ", "A", "Ab", "aB", "a1", "1a", "1", "a b", " a", "a ", "a\n", "a-b", "a\x00", ":=", "`", "{", "abcdefg8", strings.Repeat("x", 5000)} {
		if impl.IsName(none) || impl.IsWord(none) {
			t.Errorf("IsName(%q) = %t, IsWord %t", none, impl.IsName(none), impl.IsWord(none))
		}
	}
}

func TestSourceOf1200And1201Bytes(t *testing.T) {
	for _, fill := range []string{" ", "\n", "a  ", "abc 16#FFFF\n"} {
		text := strings.Repeat(fill, 1200/len(fill))
		if got := impl.LexText(text); got.Code != impl.OK {
			t.Errorf("1200 bytes of %q: code %d at %d", fill, got.Code, got.At)
		}
		checkLexed(t, text)
		checkNoTokens(t, text+" ", impl.ErrMany, 0)
		checkNoTokens(t, text+"\n", impl.ErrMany, 0)
		checkNoTokens(t, text+"\xff", impl.ErrMany, 0)
	}
	last := strings.Repeat(" ", 1199)
	checkTokens(t, last+"a", nameAt("a", 1199))
	checkTokens(t, last[:1198]+"<=", markAt("<=", 1198))
	checkTokens(t, last[:1192]+"abcdefgh", nameAt("abcdefgh", 1192))
	checkNoTokens(t, last+"#", impl.ErrText, 1199)
	checkNoTokens(t, "#"+last, impl.ErrText, 0)
	checkNoTokens(t, "#"+last+" ", impl.ErrMany, 0)
	checkNoTokens(t, strings.Repeat("a ", 5000), impl.ErrMany, 0)
	// Bytes are counted, not letters.
	checkNoTokens(t, strings.Repeat(" ", 1198)+"é", impl.ErrText, 1198)
	checkNoTokens(t, strings.Repeat(" ", 1199)+"é", impl.ErrMany, 0)
}

func TestTokens400And401(t *testing.T) {
	for _, full := range []string{strings.Repeat("a ", 400), strings.Repeat("a\n", 400), strings.Repeat("+", 400), strings.Repeat("1 ", 400), strings.Repeat("<=", 400),
		strings.Repeat("do\n", 390) + strings.Repeat(")", 10), strings.Repeat("a;", 200), strings.Repeat("1+", 200), strings.Repeat("a1 ", 200)} {
		end := int64(len(full))
		got := impl.LexText(full)
		if got.Code != impl.OK || got.At != 0 || len(got.Tokens) != 400 {
			t.Fatalf("400 tokens of %q: code %d at %d, %d tokens", full, got.Code, got.At, len(got.Tokens))
		}
		for _, behind := range []string{" ", "\n", " \n \n ", strings.Repeat(" ", 1200-len(full))} {
			if again := impl.LexText(full + behind); !sameTokens(again, got) {
				t.Errorf("400 tokens of %q and %q: code %d at %d", full, behind, again.Code, again.At)
			}
		}
		for _, behind := range []string{"(", "[a", "(1", "(if", "\xff", "#", "A", "\t", "\x00", "(\xff", "é"} {
			checkNoTokens(t, full+behind, impl.ErrMany, end)
			checkNoTokens(t, full+" \n "+behind, impl.ErrMany, end+3)
		}
	}
	names := strings.Repeat("a ", 400)
	checkNoTokens(t, names+"b", impl.ErrMany, 800)
	checkNoTokens(t, names+"  7", impl.ErrMany, 802)
	checkNoTokens(t, names+"007", impl.ErrMany, 800)
	checkNoTokens(t, names+"\nabcdefghi", impl.ErrMany, 801)
	checkNoTokens(t, names+"b c", impl.ErrMany, 800)
}

func TestTheFirstFromTheLeft(t *testing.T) {
	marks := strings.Repeat(";", 399)
	checkNoTokens(t, marks+"\xff;;", impl.ErrText, 399)
	checkNoTokens(t, marks+"007 ;", impl.ErrText, 399)
	checkNoTokens(t, marks+";\xff", impl.ErrMany, 400)
	checkNoTokens(t, "#"+marks+";;", impl.ErrText, 0)
	checkNoTokens(t, "a # 007", impl.ErrText, 2)
	checkNoTokens(t, "a 007 #", impl.ErrText, 2)
	checkNoTokens(t, "abcdefghi 007", impl.ErrText, 0)
}

func TestTextsOfNoise(t *testing.T) {
	read := 0
	for seed := range uint64(4000) {
		text := noiseText(rightPieces(), int(seed)%60, seed)
		checkLexed(t, text)
		checkLexed(t, noiseText(wrongPieces(), int(seed)%40, seed))
		if impl.LexText(text).Code == impl.OK {
			read++
		}
	}
	for seed := range uint64(200) {
		checkLexed(t, noiseText(append(allMarks(), " ", "a "), 300+int(seed), seed))
	}
	if read < 500 {
		t.Errorf("of 4000 texts just %d are read", read)
	}
}

func TestBytesOfNoise(t *testing.T) {
	for seed := range uint64(4000) {
		var bytes []byte
		for _, w := range mixedWords(int(seed)%30, seed) {
			bytes = append(bytes, byte(w>>4))
		}
		checkLexed(t, string(bytes))
		checkLexed(t, noiseText(strings.Split("a b 0 1 6 9 # A F : = < > ; _ g \xc3 \x00", " "), int(seed)%12, seed))
	}
}

// textsThatAreRead are for the promises: each of them has a list of tokens.
func textsThatAreRead() []string {
	texts := []string{"", " ", "x:=16#FF; if a<>b", "in a : int; out x : int; x := 7 / a;", strings.Repeat(":=", 400), strings.Repeat("a\n", 400),
		"out x : int; var n : int; n := n + 1; x := n * n;", strings.Join(allWords, " "), strings.Join(allMarks(), ""), "16#F 16#F", "1a2b"}
	for seed := range uint64(1500) {
		text := noiseText(rightPieces(), int(seed)%50, seed+7)
		if impl.LexText(text).Code == impl.OK {
			texts = append(texts, text)
		}
	}
	return texts
}

// Promise 4: tokens are read back from their texts.
func TestTokensAreReadBack(t *testing.T) {
	for _, text := range textsThatAreRead() {
		tokens := impl.LexText(text).Tokens
		spelt := impl.SpellAll(tokens)
		if spelt.Code != impl.OK {
			t.Fatalf("of %q: SpellAll = %v", text, spelt)
		}
		if len(spelt.Text) > impl.MaxSource {
			continue
		}
		again := impl.LexText(spelt.Text)
		if again.Code != impl.OK || !slices.Equal(withoutPlaces(again.Tokens), withoutPlaces(tokens)) {
			t.Fatalf("%q is spelt %q, and that is read %v", text, spelt.Text, again)
		}
		if twice := impl.SpellAll(again.Tokens); twice != spelt {
			t.Fatalf("%q is spelt %q, and then %q", text, spelt.Text, twice.Text)
		}
	}
}

func withoutPlaces(tokens []impl.Token) []impl.Token {
	list := slices.Clone(tokens)
	for i := range list {
		list[i].At = 0
	}
	return list
}

// Promise 4: nothing is lost but blanks.
func TestNothingIsLostButBlanks(t *testing.T) {
	noBlanks := strings.NewReplacer(" ", "", "\n", "")
	for _, text := range textsThatAreRead() {
		var joined strings.Builder
		end := int64(0)
		for _, token := range impl.LexText(text).Tokens {
			size := int64(len(token.Text))
			if token.At < end || token.At+size > int64(len(text)) || text[token.At:token.At+size] != token.Text {
				t.Fatalf("%q: the token %v does not stand there", text, token)
			}
			if noBlanks.Replace(text[end:token.At]) != "" {
				t.Fatalf("%q: ahead of %v something is passed over", text, token)
			}
			end = token.At + size
			joined.WriteString(token.Text)
		}
		if noBlanks.Replace(text) != joined.String() {
			t.Fatalf("%q is read as %q", text, joined.String())
		}
	}
}

// Promise 4: each token alone is read back, wherever it stood.
func TestTokenTextOfWhatIsRead(t *testing.T) {
	for _, text := range textsThatAreRead() {
		for _, token := range impl.LexText(text).Tokens {
			for _, at := range []int64{token.At, 0, -1, 1200, math.MaxInt64, math.MinInt64} {
				token.At = at
				if got := impl.TokenText(token); got != (impl.TextResult{Text: token.Text}) {
					t.Fatalf("TokenText(%v) = %v", token, got)
				}
			}
			checkMisfits(t, token)
		}
	}
}

// Where Kind or Num is another one the token is none.
func checkMisfits(t *testing.T, token impl.Token) {
	for kind := int64(-1); kind <= 6; kind++ {
		if kind != token.Kind {
			checkNoToken(t, impl.Token{Kind: kind, Text: token.Text, Num: token.Num, At: token.At})
		}
	}
	for _, num := range []int64{token.Num + 1, token.Num - 1, -token.Num - 1, token.Num + 65536, token.Num + 1<<32, math.MinInt64} {
		checkNoToken(t, impl.Token{Kind: token.Kind, Text: token.Text, Num: num, At: token.At})
	}
}

func checkNoToken(t *testing.T, token impl.Token) {
	t.Helper()
	want := impl.TextResult{Code: impl.ErrForm}
	if got := impl.TokenText(token); got != want {
		t.Fatalf("TokenText(%v) = %v, want ErrForm", token, got)
	}
	if got := impl.SpellAll([]impl.Token{nameAt("a", 0), token}); got != want {
		t.Fatalf("SpellAll with %v = %v, want ErrForm", token, got)
	}
}

func TestTokensThatDoNotFit(t *testing.T) {
	texts := []string{"", " ", "\n", "a b", "a;", " a", "a ", "a\n", "1 2", "1a", "::=", "abcdefghi", "007", "65536", "16#", "16#ff", "16#12345", "\xff", "é", "#", "A",
		strings.Repeat("a", 1201), strings.Repeat(" ", 1201), strings.Repeat("a ", 500), strings.Repeat(" ", 1199) + "a"}
	for _, text := range texts {
		for kind := int64(-1); kind <= 6; kind++ {
			for _, num := range []int64{0, 1, 7, 255, 65536, -1} {
				checkNoToken(t, impl.Token{Kind: kind, Text: text, Num: num})
			}
		}
	}
	checkNoToken(t, impl.Token{})
	checkNoToken(t, impl.Token{Kind: impl.TokName, Text: "and"})
	checkNoToken(t, impl.Token{Kind: impl.TokWord, Text: "band"})
	checkNoToken(t, impl.Token{Kind: impl.TokNumber, Text: "7", Num: 8})
	checkNoToken(t, impl.Token{Kind: impl.TokNumber, Text: "16#10", Num: 10})
	checkNoToken(t, impl.Token{Kind: impl.TokNumber, Text: "7"})
	checkNoToken(t, impl.Token{Kind: impl.TokWord, Text: "true", Num: 1})
	checkNoToken(t, impl.Token{Kind: impl.TokMark, Text: ": ="})
	checkNoToken(t, impl.Token{Kind: math.MaxInt64, Text: "a", Num: math.MinInt64})
	checkNoToken(t, impl.Token{Kind: impl.TokName + 1<<32, Text: "a"})
}

func TestSpellAll(t *testing.T) {
	for _, c := range []struct{ text, spelt string }{
		{"", ""},
		{" \n", ""},
		{"a", "a"},
		{"x:=16#FF; if a<>b", "x := 16#FF ; if a <> b"},
		{"  a\n\n(b)", "a ( b )"},
		{": =:=", ": = :="},
		{"16#00FF 0", "16#00FF 0"},
	} {
		if got := impl.SpellAll(impl.LexText(c.text).Tokens); got != (impl.TextResult{Text: c.spelt}) {
			t.Errorf("%q is spelt %v, want %q", c.text, got, c.spelt)
		}
	}
	if impl.SpellAll(nil) != (impl.TextResult{}) || impl.SpellAll([]impl.Token{}) != (impl.TextResult{}) {
		t.Error("no tokens are spelt as something")
	}
}

func TestSpellAllBounds(t *testing.T) {
	long := slices.Repeat([]impl.Token{nameAt("abcdefgh", 3)}, 400)
	spelt := strings.TrimSuffix(strings.Repeat("abcdefgh ", 400), " ")
	if got := impl.SpellAll(long); got != (impl.TextResult{Text: spelt}) {
		t.Errorf("400 names of 8 letters: code %d, %d bytes", got.Code, len(got.Text))
	}
	many := impl.TextResult{Code: impl.ErrMany}
	if got := impl.SpellAll(append(slices.Clone(long), nameAt("a", 0))); got != many {
		t.Errorf("401 tokens: code %d", got.Code)
	}
	// How many there are is asked ahead of what they are.
	if got := impl.SpellAll(make([]impl.Token, 401)); got != many {
		t.Errorf("401 tokens that are none: code %d", got.Code)
	}
	for _, at := range []int{0, 1, 200, 399} {
		wrong := slices.Clone(long)
		wrong[at].Num = 1
		if got := impl.SpellAll(wrong); got != (impl.TextResult{Code: impl.ErrForm}) {
			t.Errorf("400 tokens, that at %d none: code %d, %d bytes", at, got.Code, len(got.Text))
		}
	}
}

// Promise 1: every function answers, and changes none of its arguments, nor what lies behind them.
func TestTokensChangeNoArgument(t *testing.T) {
	lists := [][]impl.Token{nil, {}, {{}}, impl.LexText("x:=16#FF; if a<>b").Tokens, make([]impl.Token, 400), make([]impl.Token, 401), impl.LexText(strings.Repeat("+", 400)).Tokens}
	for _, list := range lists {
		behind := impl.Token{Kind: -71, Text: "behind", Num: -72, At: -73}
		room := append(slices.Clone(list), behind)
		given := room[:len(list)]
		impl.SpellAll(given)
		if !slices.Equal(given, list) || room[len(list)] != behind {
			t.Fatalf("an argument of SpellAll was changed: %v", room)
		}
	}
}

// Promise 1: what a function answers is new memory.
func TestTokensAreNewMemory(t *testing.T) {
	text := "x := 16#FF; if a <> bcd"
	first, second := impl.LexText(text), impl.LexText(text)
	want := slices.Clone(second.Tokens)
	for i := range first.Tokens {
		first.Tokens[i] = impl.Token{Text: "changed"}
	}
	for len(first.Tokens) < cap(first.Tokens) {
		first.Tokens = append(first.Tokens, impl.Token{Text: "more"})
	}
	if !slices.Equal(second.Tokens, want) || !slices.Equal(impl.LexText(text).Tokens, want) {
		t.Errorf("a change to an answer is seen elsewhere: %v", second)
	}
}

func TestTextsOfTokensAreNewMemory(t *testing.T) {
	text := strings.Repeat("abc := 16#FF; if x <> y\n", 3)
	for _, token := range impl.LexText(text).Tokens {
		if sharesBytes(token.Text, text) {
			t.Errorf("the text of %v lies within the text that was read", token)
		}
	}
	for _, given := range []impl.Token{nameAt("count", 0), wordAt("then", 4), markAt("<=", 0), numberAt("16#FF", 255, 1)} {
		given.Text = strings.Clone(given.Text)
		if sharesBytes(impl.TokenText(given).Text, given.Text) || sharesBytes(impl.SpellAll([]impl.Token{given}).Text, given.Text) {
			t.Errorf("the text of %v is handed out again", given)
		}
	}
}

func sharesBytes(part, whole string) bool {
	from := uintptr(unsafe.Pointer(unsafe.StringData(whole)))
	at := uintptr(unsafe.Pointer(unsafe.StringData(part)))
	return at >= from && at < from+uintptr(len(whole))
}

// Promise 1: an answer hangs on the arguments alone, whatever was asked ahead.
func TestTokensHangOnArgumentsAlone(t *testing.T) {
	texts := append(textsThatAreRead()[:100], "007", "a \xff", strings.Repeat("a", 1201), strings.Repeat(";", 401))
	var first []impl.TokensResult
	var spelt []impl.TextResult
	for _, text := range texts {
		told := impl.LexText(text)
		first = append(first, told)
		spelt = append(spelt, impl.SpellAll(told.Tokens))
	}
	for i, text := range slices.Backward(texts) {
		if again := impl.LexText(strings.Clone(text)); !sameTokens(again, first[i]) || impl.SpellAll(slices.Clone(again.Tokens)) != spelt[i] {
			t.Fatalf("another answer of %q: %v, then %v", text, first[i], again)
		}
	}
}
