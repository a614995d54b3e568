package tests

import (
	"fmt"
	"slices"
	"testing"

	"loop.example/g00251/impl"
)

// The second way to chapter 12: each layer's second way in its turn, faults as a list in the order in which they are told,
// and an image that is cut at places that are reckoned ahead, and is asked whether what it tells is a build.

func isNoWord(n int64) bool {
	return n < 0 || n > 65535
}

func sumsTold(code []int64) []int64 {
	var sums []int64
	for block := range slices.Chunk(code, 8) {
		sums = append(sums, dividedWords(block))
	}
	return sums
}

// buildFaultTold goes through all that may be wrong; sums are asked of words alone.
func buildFaultTold(b impl.Build) int64 {
	for _, n := range [][2]int64{{b.Cells, 80}, {b.BudgetA, 20000}, {b.BudgetB, 20000}} {
		if n[0] < 0 || n[0] > n[1] {
			return impl.ErrRange
		}
	}
	if len(b.Ports) > 24 || len(b.Outs) > 60 {
		return impl.ErrMany
	}
	cells := slices.Clone(b.Outs)
	for _, port := range b.Ports {
		cells = append(cells, port.Cell)
	}
	if len(cells) > 0 && (slices.Min(cells) < 0 || slices.Max(cells) >= b.Cells) {
		return impl.ErrRange
	}
	for _, code := range [][]int64{b.CodeA, b.CodeB} {
		if fault := wordsFaultTold(code); fault != impl.OK {
			return fault
		}
	}
	if !slices.Equal(b.SumsA, sumsTold(b.CodeA)) || !slices.Equal(b.SumsB, sumsTold(b.CodeB)) {
		return impl.ErrSum
	}
	return impl.OK
}

// sealed answers the words with their sum behind them.
func sealed(words ...int64) []int64 {
	return append(slices.Clone(words), dividedWords(words))
}

// resealed answers words of which the last one is changed to the sum of those ahead.
func resealed(words []int64) []int64 {
	return sealed(words[:len(words)-1]...)
}

// imageTold is told the fault of the build. No build has as many words as an image may have.
func imageTold(b impl.Build, fault int64) impl.IntsResult {
	if fault != impl.OK {
		return impl.IntsResult{Code: fault}
	}
	words := []int64{0x55AA, b.Cells, b.BudgetA, b.BudgetB}
	for _, count := range []int{len(b.Ports), len(b.Outs), len(b.CodeA), len(b.CodeB)} {
		words = append(words, int64(count))
	}
	for _, port := range b.Ports {
		words = append(words, port.Cell)
		if port.Bool {
			words[len(words)-1] += 100
		}
	}
	return impl.IntsResult{List: sealed(slices.Concat(words, b.Outs, b.CodeA, b.CodeB, b.SumsA, b.SumsB)...)}
}

func unpackTold(words []int64) impl.BuildResult {
	switch {
	case len(words) > 1200:
		return impl.BuildResult{Code: impl.ErrMany}
	case slices.ContainsFunc(words, isNoWord):
		return impl.BuildResult{Code: impl.ErrRange}
	case len(words) < 9 || words[0] != 0x55AA:
		return impl.BuildResult{Code: impl.ErrText}
	case !slices.Equal(words, resealed(words)):
		return impl.BuildResult{Code: impl.ErrSum}
	}
	ends := []int64{8}
	for _, count := range []int64{words[4], words[5], words[6], words[7], (words[6] + 7) / 8, (words[7] + 7) / 8} {
		ends = append(ends, ends[len(ends)-1]+count)
	}
	if ends[6] != int64(len(words))-1 {
		return impl.BuildResult{Code: impl.ErrText}
	}
	part := func(i int) []int64 { return slices.Clone(words[ends[i]:ends[i+1]]) }
	b := impl.Build{Cells: words[1], BudgetA: words[2], BudgetB: words[3], Outs: part(1), CodeA: part(2), CodeB: part(3), SumsA: part(4), SumsB: part(5)}
	for _, word := range part(0) {
		if word >= 200 {
			return impl.BuildResult{Code: impl.ErrText}
		}
		b.Ports = append(b.Ports, impl.Port{Cell: word % 100, Bool: word/100 == 1})
	}
	if buildFaultTold(b) != impl.OK {
		return impl.BuildResult{Code: impl.ErrText}
	}
	return impl.BuildResult{Build: b}
}

func builtTold(tree impl.Tree) impl.BuildResult {
	check := checked(tree, faultOf(tree))
	if check.Code != impl.OK {
		return impl.BuildResult{Code: check.Code, Node: check.Node}
	}
	made := expandTold(tree, check)
	if made.Code != impl.OK {
		return impl.BuildResult{Code: made.Code, Node: -1}
	}
	a, b := compiledTold(made.Tree, impl.OK), regsTold(made.Tree, impl.OK)
	for _, code := range []int64{a.Code, b.Code} {
		if code != impl.OK {
			return impl.BuildResult{Code: code, Node: -1}
		}
	}
	told := impl.Build{CodeA: a.Words, SumsA: sumsTold(a.Words), BudgetA: a.Worst, CodeB: b.Words, SumsB: sumsTold(b.Words), BudgetB: b.Worst}
	for _, name := range cellNames(made.Tree) {
		typ, size, kind := readable(made.Tree, name)
		switch {
		case kind == impl.VarOut:
			told.Outs = append(told.Outs, told.Cells)
		case kind == impl.VarIn && size == 0:
			told.Ports = append(told.Ports, impl.Port{Cell: told.Cells, Bool: typ == impl.TypeBool})
		}
		told.Cells++
	}
	return impl.BuildResult{Build: told}
}

func textBuiltTold(text string) impl.BuildResult {
	read := parsed(text)
	if read.Code != impl.OK {
		return impl.BuildResult{Code: read.Code, At: read.At, Node: -1}
	}
	return builtTold(read.Tree)
}

func treeTold(text string) impl.TreeResult {
	read := parsed(text)
	if read.Code != impl.OK {
		return read
	}
	return expandTold(read.Tree, checked(read.Tree, faultOf(read.Tree)))
}

func sameBuild(a, b impl.Build) bool {
	return a.Cells == b.Cells && a.BudgetA == b.BudgetA && a.BudgetB == b.BudgetB && slices.Equal(a.Ports, b.Ports) && slices.Equal(a.Outs, b.Outs) &&
		slices.Equal(a.CodeA, b.CodeA) && slices.Equal(a.CodeB, b.CodeB) && slices.Equal(a.SumsA, b.SumsA) && slices.Equal(a.SumsB, b.SumsB)
}

func sameBuilt(a, b impl.BuildResult) bool {
	return a.Code == b.Code && a.At == b.At && a.Node == b.Node && sameBuild(a.Build, b.Build)
}

// checkBuild holds what is asked of a build against the second way, and asks for it back from its words; it answers its fault.
func checkBuild(t *testing.T, b impl.Build) int64 {
	t.Helper()
	fault := buildFaultTold(b)
	if got := impl.BuildFault(b); got != fault {
		t.Fatalf("BuildFault(%+v) = %d, want %d", b, got, fault)
	}
	got := impl.PackBuild(b)
	if want := imageTold(b, fault); !sameInts(got, want) {
		t.Fatalf("PackBuild(%+v)\n= %v, want\n  %v", b, got, want)
	}
	if fault == impl.OK {
		if back := impl.UnpackBuild(got.List); !sameBuilt(back, impl.BuildResult{Build: b}) {
			t.Fatalf("UnpackBuild(%v) = %+v, want %+v", got.List, back, b)
		}
	}
	return fault
}

// checkImage holds what words tell against the second way, and asks for them back from what they tell; it answers the code.
func checkImage(t *testing.T, words []int64) int64 {
	t.Helper()
	got, want := impl.UnpackBuild(words), unpackTold(words)
	if !sameBuilt(got, want) {
		t.Fatalf("UnpackBuild(%v)\n= %+v, want\n  %+v", words, got, want)
	}
	if back := impl.PackBuild(got.Build); got.Code == impl.OK && !sameInts(back, impl.IntsResult{List: words}) {
		t.Fatalf("PackBuild(%+v) = %v, want %v", got.Build, back, words)
	}
	return got.Code
}

// checkTreeBuilt holds what is built of a tree against the second way; it answers that.
func checkTreeBuilt(t *testing.T, tree impl.Tree) impl.BuildResult {
	t.Helper()
	got, want := impl.BuildTree(tree), builtTold(tree)
	if !sameBuilt(got, want) {
		t.Fatalf("BuildTree(%s)\n= %+v, want\n  %+v", showTree(tree), got, want)
	}
	if got.Code == impl.OK {
		if fault := checkBuild(t, got.Build); fault != impl.OK {
			t.Fatalf("BuildTree(%s) has the fault %d", showTree(tree), fault)
		}
	}
	return got
}

// checkTextBuilt holds what is built of a text, and the tree of it, against the second way; it answers what is built.
func checkTextBuilt(t *testing.T, text string) impl.BuildResult {
	t.Helper()
	got, want := impl.BuildText(text), textBuiltTold(text)
	if !sameBuilt(got, want) {
		t.Fatalf("BuildText(%q)\n= %+v, want\n  %+v", text, got, want)
	}
	tree, told := impl.TreeOf(text), treeTold(text)
	if !sameTrees(tree, told) {
		t.Fatalf("TreeOf(%q) = %d at %d, %s\nwant %d at %d, %s", text, tree.Code, tree.At, showTree(tree.Tree), told.Code, told.At, showTree(told.Tree))
	}
	return got
}

// showBuild tells a build but its code and its sums.
func showBuild(b impl.Build) string {
	text := fmt.Sprint(b.Cells, " cells, in")
	for _, port := range b.Ports {
		text += fmt.Sprint(" ", port.Cell)
		if port.Bool {
			text += "b"
		}
	}
	text += ", out"
	for _, cell := range b.Outs {
		text += fmt.Sprint(" ", cell)
	}
	return text + fmt.Sprint(", ", b.BudgetA, " ", b.BudgetB)
}
