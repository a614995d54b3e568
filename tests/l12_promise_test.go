package tests

import (
	"reflect"
	"slices"
	"strings"
	"testing"

	"loop.example/g00251/impl"
)

// build answers one that fits as often as not; the code is noise, as a build asks for no more of it than that it be words.
func (m *programMaker) build() impl.Build {
	b := impl.Build{Cells: int64(m.less(81)), BudgetA: int64(m.less(20001)), BudgetB: int64(m.less(20001))}
	if b.Cells > 0 {
		for range m.less(5) * m.less(6) {
			b.Ports = append(b.Ports, impl.Port{Cell: int64(m.less(int(b.Cells))), Bool: m.less(2) == 0})
		}
		for range m.less(7) * m.less(10) {
			b.Outs = append(b.Outs, int64(m.less(int(b.Cells))))
		}
	}
	b = withCode(b, m.words(m.less(5)*m.less(20)), mixedWords(m.less(3)*m.less(50), m.state))
	if m.less(2) == 0 {
		m.hurtBuild(&b)
	}
	return b
}

// hurtBuild sets one number, one place of a list or its length to what may not fit.
func (m *programMaker) hurtBuild(b *impl.Build) {
	lists := []*[]int64{&b.Outs, &b.CodeA, &b.CodeB, &b.SumsA, &b.SumsB}
	list := lists[m.less(len(lists))]
	switch m.less(6) {
	case 0:
		numbers := []*int64{&b.Cells, &b.BudgetA, &b.BudgetB}
		*numbers[m.less(3)] = m.number()
	case 1:
		b.Ports = append(b.Ports, impl.Port{Cell: m.number(), Bool: m.less(2) == 0})
	case 2:
		*list = append(*list, m.number())
	case 3:
		*list = (*list)[:m.less(len(*list)+1)]
	case 4:
		if len(*list) > 0 {
			(*list)[m.less(len(*list))] = m.number()
		}
	case 5:
		*list = append(*list, m.words(400)...)
		b.Ports = append(b.Ports, b.Ports...)
	}
}

func (m *programMaker) hurtImage(words []int64) []int64 {
	words = slices.Clone(words)
	at := m.less(len(words))
	switch m.less(6) {
	case 0:
		words[at] = m.number()
	case 1:
		words[at] ^= 1 << m.less(16)
	case 2:
		words[m.less(8)] = m.number()
	case 3:
		words = slices.Insert(words, at, m.number())
	case 4:
		words = slices.Delete(words, at, at+1)
	case 5:
		words[at], words[len(words)-1-at] = words[len(words)-1-at], words[at]
	}
	if len(words) > 0 && m.less(3) > 0 {
		return resealed(words)
	}
	return words
}

func TestBuildsOfNoise(t *testing.T) {
	m := &programMaker{state: 17}
	codes := map[int64]int{}
	for i, text := range slices.Concat(bareTexts(600, 31), fitTexts(600, 31), callTexts(900, 31)) {
		built := checkTextBuilt(t, text)
		codes[built.Code]++
		if i%3 == 0 {
			tree := program(t, text)
			if impl.TreeFault(tree) == impl.OK {
				tree = otherOrder(m, tree)
			}
			codes[checkTreeBuilt(t, tree).Code]++
		}
		if i%5 == 0 {
			at := m.less(len(text))
			codes[checkTextBuilt(t, text[:at]).Code]++
			checkTextBuilt(t, text[:at]+string(rune(32+m.less(96)))+text[at:])
		}
	}
	for range 300 {
		checkTextBuilt(t, m.program())
	}
	for _, code := range []int64{impl.OK, impl.ErrForm, impl.ErrMany, impl.ErrRange, impl.ErrNone, impl.ErrText, impl.ErrTaken, impl.ErrType, impl.ErrState} {
		if codes[code] < 5 {
			t.Errorf("just %d texts have the code %d: %v", codes[code], code, codes)
		}
	}
}

// The least and the greatest numbers in every field of the tree and in every list.
func TestBuildsOfRandomFields(t *testing.T) {
	m := &programMaker{state: 23}
	codes := map[int64]int{}
	ask := func(tree impl.Tree) {
		t.Helper()
		codes[checkTreeBuilt(t, tree).Code]++
	}
	for range 2000 {
		ask(randomTree(m))
	}
	for _, text := range slices.Concat(bareTexts(100, 37), fitTexts(60, 37), callTexts(100, 37)) {
		right := program(t, text)
		for range 4 {
			hurt := copyTree(right)
			hurtTree(m, &hurt)
			ask(hurt)
		}
	}
	for _, text := range []string{allKinds, "in p:bool; var n:int[3]; if p then ctu c(p,not p,n[1]); else sr s(cq,p); end; ton t(p,7); rtrig r(tq);"} {
		right := program(t, text)
		for at := range right.Nodes {
			for _, n := range append([]int64{2, 3, 4, 5, 9, 10, 11}, oddNumbers...) {
				ask(withNode(right, at, func(node *impl.Node) { node.Kind = n }))
				ask(withNode(right, at, func(node *impl.Node) { node.Op = n }))
				ask(withNode(right, at, func(node *impl.Node) { node.Num = n }))
				ask(withNode(right, at, func(node *impl.Node) { node.Far = n }))
				ask(withNode(right, at, func(node *impl.Node) { node.Kids = append(node.Kids, n) }))
				ask(withNode(right, at, func(node *impl.Node) { node.Then = append(node.Then, n) }))
				ask(withNode(right, at, func(node *impl.Node) { node.Else = []int64{n} }))
			}
		}
		for _, n := range oddNumbers {
			other := copyTree(right)
			other.Body = append(other.Body, n)
			ask(other)
			for _, v := range []impl.Var{{Name: "z", Kind: n, Type: 1}, {Name: "z", Kind: 1, Type: n}, {Name: "z", Kind: 1, Type: 1, Size: n}} {
				other = copyTree(right)
				other.Vars = append(other.Vars, v)
				ask(other)
			}
		}
	}
	if codes[impl.OK] < 200 || codes[impl.ErrForm] < 2000 {
		t.Errorf("codes of trees of random fields: %v", codes)
	}
}

func TestImagesOfNoise(t *testing.T) {
	m := &programMaker{state: 41}
	faults, codes := map[int64]int{}, map[int64]int{}
	for range 3000 {
		b := m.build()
		fault := checkBuild(t, b)
		faults[fault]++
		if fault != impl.OK {
			continue
		}
		words := impl.PackBuild(b).List
		for range 3 {
			codes[checkImage(t, m.hurtImage(words))]++
		}
		// What is told of another list of words that ends with its sum is no build, but by chance.
		codes[checkImage(t, sealed(append([]int64{impl.ImageMark}, m.words(m.less(30))...)...))]++
		codes[checkImage(t, m.hurtWords(m.less(30)))]++
	}
	for _, code := range []int64{impl.OK, impl.ErrRange, impl.ErrMany, impl.ErrSum} {
		if faults[code] < 20 {
			t.Errorf("just %d builds have the fault %d: %v", faults[code], code, faults)
		}
	}
	for _, code := range []int64{impl.OK, impl.ErrRange, impl.ErrText, impl.ErrSum} {
		if codes[code] < 100 {
			t.Errorf("just %d images have the code %d: %v", codes[code], code, codes)
		}
	}
}

// The least and the greatest numbers in every field of a build and in every list.
func TestBuildsOfOddNumbers(t *testing.T) {
	right := rightBuild()
	for _, n := range oddNumbers {
		checkBuild(t, impl.Build{Cells: n, Ports: []impl.Port{{Cell: n, Bool: true}}, Outs: []int64{n}, CodeA: []int64{n}, CodeB: []int64{n}, SumsA: []int64{n}, SumsB: []int64{n}, BudgetA: n, BudgetB: n})
		checkBuild(t, changed(right, func(b *impl.Build) { b.Ports[1].Cell = n }))
		for i := range 5 {
			checkBuild(t, changed(right, func(b *impl.Build) {
				list := [][]int64{b.Outs, b.CodeA, b.CodeB, b.SumsA, b.SumsB}[i]
				list[len(list)-1] = n
			}))
			checkBuild(t, changed(right, func(b *impl.Build) {
				lists := []*[]int64{&b.Outs, &b.CodeA, &b.CodeB, &b.SumsA, &b.SumsB}
				*lists[i] = append(*lists[i], n)
			}))
		}
		for count := range 12 {
			checkImage(t, sameWords(count, n))
		}
	}
}

// Promise 13: what is built is read back from its words, and with one word turned these are refused.
func TestWhatIsBuiltIsReadBack(t *testing.T) {
	m := &programMaker{state: 61}
	built := 0
	for _, text := range slices.Concat([]string{"", declared, regCodeOf(400), withCost(t, 2000)}, bareTexts(250, 43), fitTexts(100, 43), callTexts(300, 43)) {
		got := impl.BuildText(text)
		if got.Code != impl.OK {
			if got.Node < -1 || got.At < 0 || !sameBuild(got.Build, impl.Build{}) {
				t.Fatalf("BuildText(%q) = %+v", text, got)
			}
			continue
		}
		built++
		words := impl.PackBuild(got.Build)
		if back := impl.UnpackBuild(words.List); impl.BuildFault(got.Build) != impl.OK || words.Code != impl.OK || !sameBuilt(back, got) {
			t.Fatalf("BuildText(%q) = %+v, read back %+v", text, got, back)
		}
		for range 60 {
			turned := withWord(words.List, m.less(len(words.List)), int64(m.less(65536)))
			if back := impl.UnpackBuild(turned); !slices.Equal(turned, words.List) && (back.Code == impl.OK || !sameBuilt(back, impl.BuildResult{Code: back.Code})) {
				t.Fatalf("%v, of %v, is read as %+v", turned, words.List, back)
			}
		}
	}
	if built < 200 {
		t.Errorf("just %d texts are built", built)
	}
}

// scanBuilt does a scan of one channel with nothing but what the build tells; it answers the cells, right side up.
func scanBuilt(b impl.Build, cells, inputs []int64, regs bool) (code int64, after []int64) {
	cells = slices.Clone(cells)
	for i, port := range b.Ports {
		cells[port.Cell] = inputs[i]
		if port.Bool {
			cells[port.Cell] = min(1, inputs[i])
		}
	}
	if regs {
		run := impl.RunRegs(b.CodeB, turnedWords(cells), b.BudgetB)
		return run.Machine.Trap, turnedWords(run.Machine.Cells)
	}
	run := impl.RunStack(b.CodeA, cells, b.BudgetA)
	return run.Machine.Trap, run.Machine.Cells
}

// What a build tells is all that either channel needs to give out what the program means.
func TestBuildsDoWhatTheProgramMeans(t *testing.T) {
	m := &programMaker{state: 87}
	scans, failed := 0, 0
	for _, text := range slices.Concat([]string{"out x : int; var n : int; n := n + 1; x := n * n;"}, bareTexts(300, 47), callTexts(300, 47)) {
		built := impl.BuildText(text)
		if built.Code != impl.OK {
			continue
		}
		b := impl.UnpackBuild(impl.PackBuild(built.Build).List).Build
		tree := program(t, text)
		list := m.scansFor(tree, 8)
		told := impl.RunScans(tree, list)
		cells := make([]int64, b.Cells)
		for at, inputs := range list {
			codeA, after := scanBuilt(b, cells, inputs, false)
			codeB, other := scanBuilt(b, cells, inputs, true)
			if codeA != codeB || !slices.Equal(after, other) {
				t.Fatalf("%q, scan %d of %v: %d, %v and %d, %v", text, at, list, codeA, after, codeB, other)
			}
			if int64(at) == told.Failed {
				if codeA != told.Why {
					t.Fatalf("%q, scan %d of %v: the code %d, want %d", text, at, list, codeA, told.Why)
				}
				failed++
				break
			}
			var outs []int64
			for _, cell := range b.Outs {
				outs = append(outs, after[cell])
			}
			if codeA != impl.OK || !slices.Equal(outs, told.Outs[at]) {
				t.Fatalf("%q, scan %d of %v: %d, %v, want %v", text, at, list, codeA, outs, told.Outs[at])
			}
			cells = after
			scans++
		}
	}
	if scans < 1000 || failed < 50 {
		t.Errorf("%d scans, %d failed", scans, failed)
	}
}

// roomyBuild answers a build of the same lists with room behind each of them.
func roomyBuild(b impl.Build) impl.Build {
	b.Ports = append(slices.Clone(b.Ports), impl.Port{Cell: -71, Bool: true}, impl.Port{Cell: -72})[:len(b.Ports)]
	b.Outs, b.CodeA, b.CodeB, b.SumsA, b.SumsB = withSpare(b.Outs), withSpare(b.CodeA), withSpare(b.CodeB), withSpare(b.SumsA), withSpare(b.SumsB)
	return b
}

// wholeBuild answers all of it, with what lies behind its lists.
func wholeBuild(b impl.Build) impl.Build {
	b.Ports = b.Ports[:len(b.Ports)+2]
	for _, list := range []*[]int64{&b.Outs, &b.CodeA, &b.CodeB, &b.SumsA, &b.SumsB} {
		*list = (*list)[:len(*list)+3]
	}
	return b
}

// Promise 1: every function answers, and changes none of its arguments, nor what lies behind them.
func TestBuildsChangeNoArgument(t *testing.T) {
	m := &programMaker{state: 29}
	texts := slices.Concat(bareTexts(100, 53), callTexts(150, 53))
	for i := range 400 {
		tree := randomTree(m)
		if i%4 > 0 {
			tree = program(t, texts[i%len(texts)])
		}
		given, before := roomyTree(tree), roomyTree(tree)
		impl.BuildTree(given)
		if !reflect.DeepEqual(wholeTree(given), wholeTree(before)) {
			t.Fatalf("the tree %s was changed", showTree(tree))
		}
	}
	for range 1500 {
		b := m.build()
		given, before := roomyBuild(b), roomyBuild(b)
		impl.BuildFault(given)
		words := impl.PackBuild(given).List
		if !reflect.DeepEqual(wholeBuild(given), wholeBuild(before)) {
			t.Fatalf("the build %+v was changed", b)
		}
		if len(words) == 0 {
			words = m.hurtWords(m.less(20))
		}
		room := withSpare(words)
		impl.UnpackBuild(room)
		checkRoomy(t, room, words)
	}
}

// overwriteBuild sets all words of all lists, and of the room behind them.
func overwriteBuild(b impl.Build, n int64) {
	ports := b.Ports[:cap(b.Ports)]
	for i := range ports {
		ports[i].Cell = n
	}
	for i, list := range [][]int64{b.Outs, b.CodeA, b.CodeB, b.SumsA, b.SumsB} {
		overwrite(list, n-int64(i)-1)
	}
}

// checkOverwritten asks whether all words are still what overwriteBuild has set them to.
func checkOverwritten(t *testing.T, b impl.Build, n int64) {
	t.Helper()
	for _, port := range b.Ports[:cap(b.Ports)] {
		if port.Cell != n {
			t.Fatal("the Ports of two answers share memory")
		}
	}
	for i, list := range [][]int64{b.Outs, b.CodeA, b.CodeB, b.SumsA, b.SumsB} {
		for _, word := range list[:cap(list)] {
			if word != n-int64(i)-1 {
				t.Fatalf("list %d shares memory with another one", i)
			}
		}
	}
}

// Promise 1: what is told is new memory, and no two lists of one answer share any.
func TestBuildsAreNewMemory(t *testing.T) {
	for _, text := range slices.Concat([]string{"", declared}, bareTexts(60, 59), callTexts(60, 59)) {
		tree := program(t, text)
		shown, first := showTree(tree), impl.BuildTree(tree)
		if first.Code != impl.OK {
			continue
		}
		kept := changed(first.Build, func(*impl.Build) {})
		words := impl.PackBuild(first.Build).List
		image := slices.Clone(words)
		builds := []impl.Build{first.Build, impl.BuildTree(tree).Build, impl.BuildText(text).Build, impl.UnpackBuild(words).Build, impl.UnpackBuild(words).Build}
		again := impl.PackBuild(first.Build).List
		for i, b := range builds {
			overwriteBuild(b, int64(-100*i)-1)
		}
		for i, b := range builds {
			checkOverwritten(t, b, int64(-100*i)-1)
		}
		if !slices.Equal(words, image) || !slices.Equal(again, image) || showTree(tree) != shown {
			t.Fatalf("%q: an answer shares memory with an argument", text)
		}
		overwrite(words, -1)
		if !slices.Equal(again, image) || !sameBuild(impl.BuildTree(tree).Build, kept) {
			t.Fatalf("%q: a change to an answer is seen elsewhere", text)
		}
		made := impl.TreeOf(text)
		for _, list := range listsOf(&made.Tree) {
			overwrite(*list, -1)
		}
		if next := impl.TreeOf(text); !sameTrees(next, impl.ExpandTree(tree)) {
			t.Fatalf("%q: a change to a tree is seen elsewhere", text)
		}
	}
}

// Promise 1: an answer hangs on the arguments alone, whatever was asked ahead, and empty and nil are the same.
func TestBuildsHangOnArgumentsAlone(t *testing.T) {
	type answers struct {
		text, tree, read impl.BuildResult
		fault            int64
		words            impl.IntsResult
		made             impl.TreeResult
	}
	ask := func(at int, text string) answers {
		m := &programMaker{state: uint64(at)}
		b := m.build()
		words := impl.PackBuild(b)
		return answers{impl.BuildText(text), impl.BuildTree(program(t, text)), impl.UnpackBuild(words.List), impl.BuildFault(b), words, impl.TreeOf(text)}
	}
	texts := slices.Concat(bareTexts(100, 67), fitTexts(60, 67), callTexts(100, 67))
	var told []answers
	for at, text := range texts {
		told = append(told, ask(at, text))
	}
	for at, text := range slices.Backward(texts) {
		if got := ask(at, strings.Clone(text)); !reflect.DeepEqual(got, told[at]) {
			t.Fatalf("another answer of %q", text)
		}
	}
	bare := impl.Build{Ports: []impl.Port{}, Outs: []int64{}, CodeA: []int64{}, CodeB: []int64{}, SumsA: []int64{}, SumsB: []int64{}}
	if impl.BuildFault(bare) != impl.OK || !sameInts(impl.PackBuild(bare), impl.PackBuild(impl.Build{})) || !sameBuilt(impl.UnpackBuild(nil), impl.UnpackBuild([]int64{})) {
		t.Error("an empty build and no build have other answers")
	}
}
