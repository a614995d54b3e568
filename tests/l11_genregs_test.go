package tests

import (
	"slices"
	"strconv"
	"strings"
	"testing"

	"loop.example/g00251/impl"
)

// checkRegWords asks for the code of statements behind what is declared, its instructions with `;` between, and for its
// Worst. The cells: i 0, p 1, ri 2 and 3, o 4, b 5, n 6, k 7, f 8, rn 9 to 11, rb 12 and 13.
func checkRegWords(t *testing.T, statements string, worst int64, instructions string) {
	t.Helper()
	checkRegWordsOf(t, program(t, declared+statements), worst, instructions)
}

func checkRegWordsOf(t *testing.T, tree impl.Tree, worst int64, instructions string) {
	t.Helper()
	got := checkRegsMade(t, tree)
	text := impl.RegsText(got.Words)
	told := strings.ReplaceAll(strings.TrimSuffix(text.Text, "\n"), "\n", "; ")
	if got.Code != impl.OK || text.Code != impl.OK || told != instructions || got.Worst != worst {
		t.Errorf("CompileRegs(%s): code %d, Worst %d, %s\nwant Worst %d, %s", showTree(tree), got.Code, got.Worst, told, worst, instructions)
	}
}

// checkUnmade asks that the tree has the code, and that nothing else is told.
func checkUnmade(t *testing.T, tree impl.Tree, code int64) {
	t.Helper()
	if got := checkRegsMade(t, tree); !sameCode(got, impl.CodeResult{Code: code}) {
		t.Errorf("CompileRegs(%s) = %v, want the code %d", showTree(tree), got, code)
	}
}

// checkValueRegs asks for the code of an expression that is an int, or of one that is a bool, and what it needs.
func checkValueRegs(t *testing.T, expression string, need, steps int64, instructions string) {
	t.Helper()
	name, behind := "n", "; store 6 0; end"
	if impl.CheckTree(program(t, declared+"n := "+expression+";")).Code != impl.OK {
		name, behind = "f", "; bool 0; store 8 0; end"
		steps++
	}
	tree := program(t, declared+name+" := "+expression+";")
	last := int64(len(tree.Nodes)) - 1
	checkRegWordsOf(t, tree, steps+3, "mark "+strconv.Itoa(int(last))+"; "+instructions+behind)
	if got := impl.RegsNeeded(tree, last-1); got != (impl.IntResult{Value: need}) {
		t.Errorf("RegsNeeded of %q = %v, want %d", expression, got, need)
	}
}

func TestRegCodeOfNoStatements(t *testing.T) {
	for _, tree := range []impl.Tree{{}, program(t, declared), {Vars: []impl.Var{}, Nodes: []impl.Node{}, Body: []int64{}}} {
		checkRegWordsOf(t, tree, 1, "end")
		for _, node := range append([]int64{2, -2}, oddNumbers...) {
			checkNeeds(t, tree, node)
		}
	}
}

func TestRegCodeOfEachExpression(t *testing.T) {
	checkValueRegs(t, "0", 1, 1, "const 0 65535")
	checkValueRegs(t, "1", 1, 1, "const 0 65534")
	checkValueRegs(t, "32767", 1, 1, "const 0 32768")
	checkValueRegs(t, "32768", 1, 1, "const 0 32767")
	checkValueRegs(t, "65535", 1, 1, "const 0 0")
	checkValueRegs(t, "true", 1, 1, "const 0 65534")
	checkValueRegs(t, "i", 1, 1, "load 0 0")
	checkValueRegs(t, "p", 1, 1, "load 0 1")
	checkValueRegs(t, "o", 1, 1, "load 0 4")
	checkValueRegs(t, "k", 1, 1, "load 0 7")
	checkValueRegs(t, "f", 1, 1, "load 0 8")
	checkValueRegs(t, "ri[1]", 1, 2, "const 0 65534; loadx 0 0 2 2")
	checkValueRegs(t, "rn[i]", 1, 2, "load 0 0; loadx 0 0 9 3")
	checkValueRegs(t, "rb[65535]", 1, 2, "const 0 0; loadx 0 0 12 2")
	checkValueRegs(t, "rn[rn[rn[0]]]", 1, 4, "const 0 65535; loadx 0 0 9 3; loadx 0 0 9 3; loadx 0 0 9 3")
	checkValueRegs(t, "rn[i + 1]", 2, 4, "load 0 0; const 1 65534; two 0 0 1 1; loadx 0 0 9 3")
	checkValueRegs(t, "-k", 1, 2, "load 0 7; neg 0 0")
	checkValueRegs(t, "- - 5", 1, 3, "const 0 65530; neg 0 0; neg 0 0")
	checkValueRegs(t, "not p", 1, 2, "load 0 1; not 0 0")
	checkValueRegs(t, "not not rb[0]", 1, 4, "const 0 65535; loadx 0 0 12 2; not 0 0; not 0 0")
	checkValueRegs(t, "-rn[-i]", 1, 4, "load 0 0; neg 0 0; loadx 0 0 9 3; neg 0 0")
	// To the right of another one each of them has the next register.
	checkValueRegs(t, "i + -k", 2, 4, "load 0 0; load 1 7; neg 1 1; two 0 0 1 1")
	checkValueRegs(t, "f or not p", 2, 4, "load 0 8; load 1 1; not 1 1; two 0 0 1 7")
	checkValueRegs(t, "i + rn[k]", 2, 4, "load 0 0; load 1 7; loadx 1 1 9 3; two 0 0 1 1")
	checkValueRegs(t, "i + (k + rn[-o])", 3, 7, "load 0 0; load 1 7; load 2 4; neg 2 2; loadx 2 2 9 3; two 1 1 2 1; two 0 0 1 1")
}

func TestRegCodeOfEachOp(t *testing.T) {
	for op, sign := range map[int]string{1: "+", 2: "-", 3: "*", 4: "/", 5: "mod", 9: "<", 10: "="} {
		checkValueRegs(t, "i "+sign+" k", 2, 3, "load 0 0; load 1 7; two 0 0 1 "+strconv.Itoa(op))
		checkValueRegs(t, "7 "+sign+" rn[k]", 2, 4, "const 0 65528; load 1 7; loadx 1 1 9 3; two 0 0 1 "+strconv.Itoa(op))
	}
	for op, sign := range map[int]string{6: "and", 7: "or", 8: "xor", 10: "="} {
		checkValueRegs(t, "p "+sign+" f", 2, 3, "load 0 1; load 1 8; two 0 0 1 "+strconv.Itoa(op))
		checkValueRegs(t, "1 "+sign+" not f", 2, 4, "const 0 65534; load 1 8; not 1 1; two 0 0 1 "+strconv.Itoa(op))
	}
	checkValueRegs(t, "i > k", 2, 3, "load 0 7; load 1 0; two 0 0 1 9")
	checkValueRegs(t, "i <= k", 2, 4, "load 0 7; load 1 0; two 0 0 1 9; not 0 0")
	checkValueRegs(t, "i >= k", 2, 4, "load 0 0; load 1 7; two 0 0 1 9; not 0 0")
	checkValueRegs(t, "i <> k", 2, 4, "load 0 0; load 1 7; two 0 0 1 10; not 0 0")
	checkValueRegs(t, "i - k - 3", 2, 5, "load 0 0; load 1 7; two 0 0 1 2; const 1 65532; two 0 0 1 2")
	checkValueRegs(t, "i - (k - 3)", 3, 5, "load 0 0; load 1 7; const 2 65532; two 1 1 2 2; two 0 0 1 2")
	checkValueRegs(t, "(i + 1) * (k - 2) < n mod 3 or p", 3, 13, "load 0 0; const 1 65534; two 0 0 1 1; load 1 7; const 2 65533; two 1 1 2 2; two 0 0 1 3; load 1 6; const 2 65532; two 1 1 2 5; two 0 0 1 9; load 1 1; two 0 0 1 7")
}

func TestRegCodeOfSets(t *testing.T) {
	checkRegWords(t, "n := 5;", 4, "mark 1; const 0 65530; store 6 0; end")
	checkRegWords(t, "o := i;", 4, "mark 1; load 0 0; store 4 0; end")
	checkRegWords(t, "f := p;", 5, "mark 1; load 0 1; bool 0; store 8 0; end")
	checkRegWords(t, "b := false;", 5, "mark 1; const 0 65535; bool 0; store 5 0; end")
	checkRegWords(t, "rn[0] := i;", 5, "mark 2; const 0 65535; load 1 0; storex 0 1 9 3; end")
	checkRegWords(t, "rn[i] := rn[2];", 6, "mark 3; load 0 0; const 1 65533; loadx 1 1 9 3; storex 0 1 9 3; end")
	checkRegWords(t, "rb[1] := p;", 6, "mark 2; const 0 65534; load 1 1; bool 1; storex 0 1 12 2; end")
	checkRegWords(t, "rb[k] := 1;", 6, "mark 2; load 0 7; const 1 65534; bool 1; storex 0 1 12 2; end")
	checkRegWords(t, "rb[i + k] := not (f = p);", 11, "mark 7; load 0 0; load 1 7; two 0 0 1 1; load 1 8; load 2 1; two 1 1 2 10; not 1 1; bool 1; storex 0 1 12 2; end")
	checkRegWords(t, "n := 1; k := n; f := 0;", 11, "mark 1; const 0 65534; store 6 0; mark 3; load 0 6; store 7 0; mark 5; const 0 65535; bool 0; store 8 0; end")
}

// A row at the first cells and one at the last of all that there may be, of each size; rows lie ahead of each variable.
func TestRegCodeOfRows(t *testing.T) {
	for size := range int64(9) {
		if size == 0 {
			continue
		}
		between, number := "", strconv.Itoa(int(size))
		for i := range 58 - 2*size {
			if i%8 == 0 {
				between += "var x" + string(rune('a'+i/8)) + ":int[" + strconv.Itoa(int(min(8, 58-2*size-i))) + "]; "
			}
		}
		tree := program(t, "var a:int["+number+"]; var y:int; "+between+"out w:bool; out z:bool["+number+"]; a[1] := a[2]; z[3] := z[4]; y := y; w := w;")
		begin, last := strconv.Itoa(int(size)), strconv.Itoa(int(60-size))
		flag := strconv.Itoa(int(59 - size))
		checkRegWordsOf(t, tree, 19, "mark 3; const 0 65534; const 1 65533; loadx 1 1 0 "+number+"; storex 0 1 0 "+number+
			"; mark 7; const 0 65532; const 1 65531; loadx 1 1 "+last+" "+number+"; bool 1; storex 0 1 "+last+" "+number+
			"; mark 9; load 0 "+begin+"; store "+begin+" 0; mark 11; load 0 "+flag+"; bool 0; store "+flag+" 0; end")
		if cells := impl.CellsOf(tree).Value; cells != 60 {
			t.Errorf("%d cells", cells)
		}
	}
}

func TestRegCodeOfIfs(t *testing.T) {
	checkRegWords(t, "if p then n := 1; else k := 2; end;", 8, "mark 5; load 0 1; zero 0 18; mark 2; const 0 65534; store 6 0; jump 26; mark 4; const 0 65533; store 7 0; end")
	checkRegWords(t, "if p then n := 1; end;", 8, "mark 3; load 0 1; zero 0 18; mark 2; const 0 65534; store 6 0; jump 18; end")
	checkRegWords(t, "if p then else k := 2; end;", 7, "mark 3; load 0 1; zero 0 10; jump 18; mark 2; const 0 65533; store 7 0; end")
	checkRegWords(t, "if p then else end;", 5, "mark 1; load 0 1; zero 0 10; jump 10; end")
	checkRegWords(t, "if p then end; n := 1;", 8, "mark 1; load 0 1; zero 0 10; jump 10; mark 3; const 0 65534; store 6 0; end")
	checkRegWords(t, "n := 1; if i < 3 then b := p; else end;", 14, "mark 1; const 0 65534; store 6 0; mark 7; load 0 0; const 1 65532; two 0 0 1 9; zero 0 36; mark 6; load 0 1; bool 0; store 5 0; jump 36; end")
	// An if within an if, in Then, in Else and in both.
	checkRegWords(t, "if p then if f then n := 1; end; end;", 12, "mark 5; load 0 1; zero 0 28; mark 4; load 0 8; zero 0 26; mark 3; const 0 65534; store 6 0; jump 26; jump 28; end")
	checkRegWords(t, "if p then else if f then n := 1; end; end;", 11, "mark 5; load 0 1; zero 0 10; jump 28; mark 4; load 0 8; zero 0 28; mark 3; const 0 65534; store 6 0; jump 28; end")
	checkRegWords(t, "if p then if f then end; else if b then end; end;", 9, "mark 5; load 0 1; zero 0 20; mark 2; load 0 8; zero 0 18; jump 18; jump 30; mark 4; load 0 5; zero 0 30; jump 30; end")
}

func TestRegCodeOfFors(t *testing.T) {
	const rounds = "const 0 65532; load 1 6; two 0 0 1 9; not 0 0; zero 0 43; mark 1000; load 0 6; const 1 65534; two 0 0 1 1; store 6 0; jump 8; end"
	checkRegWords(t, "for n := 1 to 3 do end;", 1+2+3*11+5+1, "mark 0; const 0 65534; store 6 0; "+rounds)
	checkRegWords(t, "for n := 3 to 3 do end;", 1+2+11+5+1, "mark 0; const 0 65532; store 6 0; "+rounds)
	checkRegWords(t, "for n := 4 to 3 do end;", 1+2+5+1, "mark 0; const 0 65531; store 6 0; "+rounds)
	checkRegWords(t, "for n := 1000 to 3 do end;", 1+2+5+1, "mark 0; const 0 64535; store 6 0; "+rounds)
	checkRegWords(t, "for n := 0 to 3 do end;", 1+2+4*11+5+1, "mark 0; const 0 65535; store 6 0; "+rounds)
	checkRegWords(t, "for o := 0 to 1 do k := k + o; end;", 1+2+2*16+5+1, "mark 4; const 0 65535; store 4 0; const 0 65534; load 1 4; two 0 0 1 9; not 0 0; zero 0 59; mark 1004; "+
		"mark 3; load 0 7; load 1 4; two 0 0 1 1; store 7 0; load 0 4; const 1 65534; two 0 0 1 1; store 4 0; jump 8; end")
	// What never goes round has its Then all the same.
	checkRegWords(t, "for n := 1 to 0 do k := 2; end; k := 3;", 8+4, "mark 2; const 0 65534; store 6 0; const 0 65535; load 1 6; two 0 0 1 9; not 0 0; zero 0 51; mark 1002; "+
		"mark 1; const 0 65533; store 7 0; load 0 6; const 1 65534; two 0 0 1 1; store 6 0; jump 8; mark 4; const 0 65532; store 7 0; end")
	// One within another, and behind a statement.
	checkRegWords(t, "k := 7; for n := 1 to 2 do for o := 1 to 3 do f := p; end; end;", 3+8+2*(11+8+3*(11+4))+1,
		"mark 1; const 0 65528; store 7 0; mark 5; const 0 65534; store 6 0; const 0 65533; load 1 6; two 0 0 1 9; not 0 0; zero 0 104; mark 1005; "+
			"mark 4; const 0 65534; store 4 0; const 0 65532; load 1 4; two 0 0 1 9; not 0 0; zero 0 88; mark 1004; mark 3; load 0 1; bool 0; store 8 0; load 0 4; const 1 65534; two 0 0 1 1; store 4 0; jump 43; "+
			"load 0 6; const 1 65534; two 0 0 1 1; store 6 0; jump 16; end")
	// An if within a for, and a for within each side of an if.
	checkRegWords(t, "for n := 1 to 2 do if p then k := 1; end; end;", 8+2*(11+7)+1,
		"mark 4; const 0 65534; store 6 0; const 0 65533; load 1 6; two 0 0 1 9; not 0 0; zero 0 61; mark 1004; mark 3; load 0 1; zero 0 45; mark 2; const 0 65534; store 7 0; jump 45; load 0 6; const 1 65534; two 0 0 1 1; store 6 0; jump 8; end")
	checkRegWords(t, "if p then for n := 1 to 2 do end; else for k := 0 to 1 do end; end;", 3+8+2*11+1+1,
		"mark 3; load 0 1; zero 0 53; mark 1; const 0 65534; store 6 0; const 0 65533; load 1 6; two 0 0 1 9; not 0 0; zero 0 51; mark 1001; load 0 6; const 1 65534; two 0 0 1 1; store 6 0; jump 16; jump 96; "+
			"mark 2; const 0 65535; store 7 0; const 0 65534; load 1 7; two 0 0 1 9; not 0 0; zero 0 96; mark 1002; load 0 7; const 1 65534; two 0 0 1 1; store 7 0; jump 61; end")
}

// Num and Far at their edges; what a for costs bars it from going round from 0 to 1000.
func TestNumAndFarOfForsOnRegs(t *testing.T) {
	for _, c := range []struct{ num, far, rounds int64 }{{0, 0, 1}, {1000, 1000, 1}, {1000, 0, 0}, {1000, 999, 0}, {999, 1000, 2}, {1, 0, 0}, {336, 1000, 665}, {0, 664, 665}} {
		text := "for n := " + strconv.Itoa(int(c.num)) + " to " + strconv.Itoa(int(c.far)) + " do end;"
		words := []int64{12, 0, 1, 0, 65535 - c.num, 3, 6, 0, 1, 0, 65535 - c.far, 2, 1, 6, 6, 0, 0, 1, 9, 8, 0, 0, 11, 0, 43,
			12, 1000, 2, 0, 6, 1, 1, 65534, 6, 0, 0, 1, 1, 3, 6, 0, 10, 8, 13}
		tree := program(t, declared+text)
		if got := checkRegsMade(t, tree); !sameCode(got, impl.CodeResult{Words: words, Worst: 9 + 11*c.rounds}) {
			t.Errorf("%q: %v", text, got)
		}
		cells := zeros(t, tree)
		got := checkRegScan(t, tree, words, cells, []int64{0, 0}, 9+11*c.rounds)
		if got.Code != impl.OK || got.Steps != 9+11*c.rounds || got.State.Cells[6] != c.num+c.rounds {
			t.Errorf("%q: %v", text, got)
		}
	}
	for _, text := range []string{"for n := 0 to 1000 do end;", "for n := 0 to 665 do k := 1; end;"} {
		checkUnmade(t, program(t, declared+text), impl.ErrMany)
	}
	checkUnmade(t, program(t, declared+"for n := 1001 to 1000 do end;"), impl.ErrRange)
	checkUnmade(t, program(t, declared+"for n := 65535 to 65535 do end;"), impl.ErrRange)
}

// All words, so that what is behind each zero and each jump is seen, in a program with each kind of it.
func TestRegWordsWordByWord(t *testing.T) {
	tree := program(t, "in p:bool; var n:int; var r:bool[2]; for n := 0 to 1 do if p then r[n] := p; else if r[0] then end; end; end; n := -n;")
	got := checkRegsMade(t, tree)
	want := slices.Concat(
		[]int64{12, 8, 1, 0, 65535, 3, 1, 0},
		[]int64{1, 0, 65534, 2, 1, 1, 6, 0, 0, 1, 9, 8, 0, 0, 11, 0, 83, 12, 1008}, // 8: each round begins
		[]int64{12, 7, 2, 0, 0, 11, 0, 52},                                         // 27: the if
		[]int64{12, 3, 2, 0, 1, 2, 1, 0, 9, 1, 5, 0, 1, 2, 2, 10, 67},              // 35: its Then
		[]int64{12, 6, 1, 0, 65535, 4, 0, 0, 2, 2, 11, 0, 67, 10, 67},              // 52: its Else, an if of which both sides are empty
		[]int64{2, 0, 1, 1, 1, 65534, 6, 0, 0, 1, 1, 3, 1, 0, 10, 8},               // 67: behind it
		[]int64{12, 11, 2, 0, 1, 7, 0, 0, 3, 1, 0, 13})                             // 83: behind the for
	if got.Code != impl.OK || !slices.Equal(got.Words, want) {
		t.Errorf("CompileRegs(%s)\n= %v, want\n  %v", showTree(tree), got, want)
	}
}

// Each mark of one code stands in the other one, in the same order.
func TestMarksOfBothCodes(t *testing.T) {
	m := &programMaker{state: 31}
	seen := 0
	for _, text := range bareTexts(300, 43) {
		tree := program(t, text)
		if impl.CheckTree(tree).Code == impl.OK && m.less(2) == 0 {
			tree = otherOrder(m, tree)
		}
		regs := checkRegsMade(t, tree)
		if regs.Code != impl.OK {
			continue
		}
		one, other := marksIn(impl.StackText(impl.CompileStack(tree).Words).Text), marksIn(impl.RegsText(regs.Words).Text)
		if !slices.Equal(one, other) {
			t.Fatalf("%s has the marks %v on the stack and %v on registers", showTree(tree), one, other)
		}
		seen++
	}
	if seen < 100 {
		t.Errorf("just %d programs", seen)
	}
	// The last place of all that there may be; what stands ahead of it is too long for registers.
	tree := longTree(impl.Node{Kind: impl.NodeFor, Name: "n", Far: 1})
	checkUnmade(t, tree, impl.ErrMany)
	checkNeeds(t, tree, 0, 17, 18, 198, 199, 200)
}

// Nodes stand in another order than statements.
func TestRegCodeInTheOrderOfStatements(t *testing.T) {
	turned := impl.Tree{Vars: []impl.Var{{Name: "n", Kind: impl.VarOwn, Type: impl.TypeInt}}, Body: []int64{7, 6, 3, 5}, Nodes: []impl.Node{
		{Kind: impl.NodeNum, Num: 7}, {Kind: impl.NodeNum, Num: 8}, {Kind: impl.NodeName, Name: "n"}, {Kind: impl.NodeSet, Name: "n", Kids: []int64{0}},
		{Kind: impl.NodeNum, Num: 1}, {Kind: impl.NodeIf, Kids: []int64{4}}, {Kind: impl.NodeSet, Name: "n", Kids: []int64{2}}, {Kind: impl.NodeSet, Name: "n", Kids: []int64{1}}}}
	checkRegWordsOf(t, turned, 14, "mark 7; const 0 65527; store 0 0; mark 6; load 0 0; store 0 0; mark 3; const 0 65528; store 0 0; mark 5; const 0 65534; zero 0 34; jump 34; end")
	checkNeeds(t, turned, 0, 1, 2, 3, 4, 5, 6, 7)
	// The right Kid may stand ahead of the left one.
	crossed := impl.Tree{Vars: turned.Vars, Body: []int64{5}, Nodes: []impl.Node{
		{Kind: impl.NodeNum, Num: 7}, {Kind: impl.NodeName, Name: "n"}, {Kind: impl.NodeNum, Num: 9}, {Kind: impl.NodeTwo, Op: impl.OpSub, Kids: []int64{2, 1}},
		{Kind: impl.NodeTwo, Op: impl.OpSub, Kids: []int64{3, 0}}, {Kind: impl.NodeSet, Name: "n", Kids: []int64{4}}}}
	checkRegWordsOf(t, crossed, 8, "mark 5; const 0 65526; load 1 0; two 0 0 1 2; const 1 65528; two 0 0 1 2; store 0 0; end")
}

// checkNeed asks what a node needs, or for the code that is told instead.
func checkNeed(t *testing.T, tree impl.Tree, node, code, need int64) {
	t.Helper()
	checkNeeds(t, tree, node)
	if got := impl.RegsNeeded(tree, node); got != (impl.IntResult{Code: code, Value: need}) {
		t.Errorf("RegsNeeded(%s, %d) = %v, want %d, %d", showTree(tree), node, got, code, need)
	}
}

func TestNeedsOfPlaces(t *testing.T) {
	tree := program(t, declared+"rn[i + 1] := -k * (n - rn[0]); if not p then for n := 0 to 1 do end; end; f := p;")
	// 0: i, 1, +; 3: k, -; 5: n, 0, rn[0], -, *; 10: the put; 11: p, not, the for, the if; 15: p, the set.
	for node, need := range []int64{1, 1, 2, 1, 1, 1, 1, 1, 2, 3, 0, 1, 1, 0, 0, 1, 0} {
		if need > 0 {
			checkNeed(t, tree, int64(node), impl.OK, need)
		} else {
			checkNeed(t, tree, int64(node), impl.ErrForm, 0)
		}
	}
	for _, node := range append([]int64{-2, 17, 18, 200, 201}, oddNumbers...) {
		if node < 0 || node > 16 {
			checkNeed(t, tree, node, impl.ErrForm, 0)
		}
	}
	// The last place is a statement's, as one stands behind each expression. Of a tree with a fault no node is told.
	checkNeed(t, impl.Tree{}, 0, impl.ErrForm, 0)
	loose := program(t, "var n:int; n := 1; n := 2 + n;")
	loose.Body = loose.Body[:1]
	for node := range int64(7) {
		checkNeed(t, loose, node, impl.ErrForm, 0)
	}
	// Of a tree with calls what their Kids need is told, though it is not compiled.
	called := program(t, declared+"ctu c(p, not (f = p), i + (k - n)); ton d(cq, 1); n := cv + rn[cv];")
	for node, need := range []int64{1, 1, 1, 2, 2, 1, 1, 1, 2, 3, 0, 1, 1, 0, 1, 1, 1, 2, 0} {
		code := impl.OK
		if need == 0 {
			code = impl.ErrForm
		}
		checkNeed(t, called, int64(node), int64(code), need)
	}
	checkUnmade(t, called, impl.ErrState)
}

func TestNeedsOfExpressions(t *testing.T) {
	for text, need := range map[string]int64{
		"i": 1, "5": 1, "-i": 1, "- - - -i": 1, "rn[i]": 1, "rn[rn[-rn[1]]]": 1,
		"i + k": 2, "-(i + k)": 2, "rn[i + k]": 2, "-i + -k": 2, "rn[i] * rn[k]": 2,
		// The greater need on the left, on the right, and the same on both.
		"i - k - o - n": 2, "(i - k) - o": 2, "i - (k - o)": 3, "(i - k) - (o - n)": 3, "i - (k - (o - n))": 4,
		"(i - (k - o)) - n": 3, "(i - (k - o)) - (k - n)": 3, "(i - (k - o)) - (k - (n - 1))": 4, "(i - (k - (o - n))) - (k - n)": 4, "(i - (k - (o - n))) - (k - (n - 1))": 4,
		"rn[i - (k - o)]": 3, "i - rn[i - (k - o)]": 4, "rn[i - (k - o)] - i": 3, "-(i - -(k - -(o - n)))": 4,
		"((i + k) + (o + n)) + ((i + k) + (o + n))": 4, "(((i + k) + (o + n)) + ((i + k) + (o + n))) * (((i + k) + (o + n)) + ((i + k) + (o + n)))": 5,
	} {
		tree := program(t, declared+"n := "+text+";")
		checkNeed(t, tree, int64(len(tree.Nodes))-2, impl.OK, need)
		if high := highestReg(checkRegsMade(t, tree).Words); high != need-1 {
			t.Errorf("%q, of %d registers, has the register %d", text, need, high)
		}
		// With 1 more as what is put.
		put := program(t, declared+"rn[0] := "+text+";")
		if high := highestReg(checkRegsMade(t, put).Words); high != need {
			t.Errorf("%q put, of %d registers and 1 more, has the register %d", text, need, high)
		}
	}
}

// highestReg answers the highest register that code names.
func highestReg(code []int64) int64 {
	highest := int64(-1)
	for at := 0; at < len(code); {
		op := code[at]
		for _, place := range regPlaces[op-1] {
			highest = max(highest, code[at+1+int(place-'0')])
		}
		at += 1 + ofOp(regWords, op)
	}
	return highest
}

// chainMaker adds to a tree expressions that need so many registers.
type chainMaker struct {
	tree impl.Tree
}

func (c *chainMaker) add(node impl.Node) int64 {
	c.tree.Nodes = append(c.tree.Nodes, node)
	return int64(len(c.tree.Nodes)) - 1
}

// rightLeaning answers one of so many leaves, each within what is to the right of the one ahead of it.
func (c *chainMaker) rightLeaning(leaf string, op int64, leaves int) int64 {
	place := c.add(impl.Node{Kind: impl.NodeName, Name: leaf})
	for range leaves - 1 {
		place = c.add(impl.Node{Kind: impl.NodeTwo, Op: op, Kids: []int64{c.add(impl.Node{Kind: impl.NodeName, Name: leaf}), place}})
	}
	return place
}

// leftLeaning answers one that needs 2 registers, however many leaves it has.
func (c *chainMaker) leftLeaning(leaf string, op int64, leaves int) int64 {
	place := c.add(impl.Node{Kind: impl.NodeName, Name: leaf})
	for range leaves - 1 {
		place = c.add(impl.Node{Kind: impl.NodeTwo, Op: op, Kids: []int64{place, c.add(impl.Node{Kind: impl.NodeName, Name: leaf})}})
	}
	return place
}

// chainIn answers a program of one statement of a kind, of which one Kid is that chain.
func chainIn(statement string, lean func(c *chainMaker, leaf string, op int64, leaves int) int64, leaves int) (tree impl.Tree, kid int64) {
	c := &chainMaker{impl.Tree{Vars: []impl.Var{{Name: "n", Kind: 3, Type: 1}, {Name: "r", Kind: 3, Type: 1, Size: 3}, {Name: "f", Kind: 3, Type: 2}}}}
	leaf, op := "n", int64(impl.OpSub)
	if statement == "if" || statement == "bool" {
		leaf, op = "f", impl.OpXor
	}
	kid = lean(c, leaf, op, leaves)
	switch statement {
	case "set":
		c.add(impl.Node{Kind: impl.NodeSet, Name: "n", Kids: []int64{kid}})
	case "bool":
		c.add(impl.Node{Kind: impl.NodeSet, Name: "f", Kids: []int64{kid}})
	case "place":
		c.add(impl.Node{Kind: impl.NodePut, Name: "r", Kids: []int64{kid, c.add(impl.Node{Kind: impl.NodeNum})}})
	case "value":
		c.add(impl.Node{Kind: impl.NodePut, Name: "r", Kids: []int64{c.add(impl.Node{Kind: impl.NodeNum}), kid}})
	case "if":
		c.add(impl.Node{Kind: impl.NodeIf, Kids: []int64{kid}})
	}
	c.tree.Body = []int64{int64(len(c.tree.Nodes)) - 1}
	return c.tree, kid
}

// A statement's Kid is 19 deep at most, so that 19 registers are the most that it needs, and 20 where it is put; what would
// need 23, 24 or 25 is too deep already.
func TestTheGreatestNeeds(t *testing.T) {
	for _, statement := range []string{"set", "bool", "place", "value", "if"} {
		for leaves := 1; leaves <= 27; leaves++ {
			code := int64(impl.OK)
			if leaves > 19 {
				code = impl.ErrDeep
			}
			right, place := chainIn(statement, (*chainMaker).rightLeaning, leaves)
			left, other := chainIn(statement, (*chainMaker).leftLeaning, leaves)
			for _, tree := range []impl.Tree{right, left} {
				if got := checkRegsMade(t, tree); got.Code != code {
					t.Errorf("%d leaves in a %s have the code %d, want %d", leaves, statement, got.Code, code)
				}
			}
			if code != impl.OK {
				checkUnmade(t, right, code)
				checkUnmade(t, left, code)
				checkNeed(t, right, place, code, 0)
				checkNeed(t, left, other, code, 0)
				continue
			}
			checkNeed(t, right, place, impl.OK, int64(leaves))
			checkNeed(t, left, other, impl.OK, int64(min(2, leaves)))
			high := int64(leaves - 1)
			switch {
			case statement == "value":
				high++
			case statement == "place":
				high = max(1, high)
			}
			if got := highestReg(impl.CompileRegs(right).Words); got != high {
				t.Errorf("%d leaves in a %s have the register %d, want %d", leaves, statement, got, high)
			}
			checkAllScans(t, right, []int64{1, 2, 3, 4, 1}, nil)
			checkAllScans(t, left, []int64{1, 2, 3, 4, 1}, nil)
		}
	}
}

// regCodeOf answers a program of which the code for registers has so many words; a set of a number has 8, and each sign 3 more.
func regCodeOf(words int) string {
	signs := 3 * (words - 1) % 8
	return "var n:int;" + strings.Repeat("n:=1;", (words-1-3*signs)/8-1) + "n:=" + strings.Repeat("-", signs) + "1;"
}

func TestRegCodeOf400WordsAnd401(t *testing.T) {
	for words := 380; words <= 410; words++ {
		tree := program(t, regCodeOf(words))
		got := checkRegsMade(t, tree)
		if words > 400 {
			checkUnmade(t, tree, impl.ErrMany)
			// The words for the stack are fewer.
			if other := impl.CompileStack(tree); other.Code != impl.OK {
				t.Errorf("%d words for registers, for the stack: %v", words, other)
			}
			continue
		}
		if got.Code != impl.OK || len(got.Words) != words || impl.WordsFault(got.Words) != impl.OK {
			t.Errorf("code of %d words: %v", words, got)
		}
		if run := checkAllScans(t, tree, []int64{7}, nil); run.Code != impl.OK || run.Steps != got.Worst {
			t.Errorf("code of %d words: %v", words, run)
		}
	}
	// In each side of an if, and within a for.
	for _, around := range []struct {
		head, tail string
		more       int
	}{{"if 1 then ", "end;", 10}, {"if 0 then else ", "end;", 10}, {"for k := 1 to 2 do ", "end;", 43}, {"if 1 then if 1 then for k := 0 to 1 do ", "end;end;end;", 63}} {
		for _, words := range []int{399, 400, 401} {
			text := "var k:int;" + strings.Replace(regCodeOf(words-around.more), ";", ";"+around.head, 1) + around.tail
			tree := program(t, text)
			if got := checkRegsMade(t, tree); words <= 400 && (got.Code != impl.OK || len(got.Words) != words) {
				t.Errorf("%q: %d, %d words", text, got.Code, len(got.Words))
			}
			if words == 401 {
				checkUnmade(t, tree, impl.ErrMany)
			}
		}
	}
	// What is just short enough for the stack, and the most words that a tree may have.
	checkUnmade(t, program(t, codeOf(400)), impl.ErrMany)
	most := impl.Tree{Vars: []impl.Var{{Name: "n", Kind: impl.VarOwn, Type: impl.TypeInt}}}
	for at := range int64(200) {
		most.Nodes = append(most.Nodes, impl.Node{Kind: impl.NodeFor, Name: "n", Num: 1})
		most.Body = append(most.Body, at)
	}
	checkUnmade(t, most, impl.ErrMany)
}

// Calls are told ahead of what would be too long.
func TestCallsAreNotCompiledForRegs(t *testing.T) {
	for _, call := range []string{"ctu c(1,1,1);", "ton c(1,1);", "rtrig c(1);", "sr c(1,1);"} {
		for _, text := range []string{call, "var n:int; n := 1;" + call + "n := 2;", "if 1 then else " + call + "end;", regCodeOf(600) + call, regCodeOf(380) + call, regCodeOf(400) + call} {
			tree := program(t, text)
			if check := impl.CheckTree(tree); check.Code != impl.OK {
				t.Fatalf("%q: %v", text, check)
			}
			checkUnmade(t, tree, impl.ErrState)
			cells := zeros(t, tree)
			if got := checkRegScan(t, tree, []int64{impl.RsMark, 3, impl.RsEnd}, cells, nil, 2); got.Code != impl.OK || got.Steps != 2 || !slices.Equal(got.State.Cells, cells) {
				t.Errorf("other code for %q: %v", text, got)
			}
		}
	}
}

func TestRegCodeOfTreesWithACode(t *testing.T) {
	codes := treesWithCodes(t)
	for _, code := range []int64{impl.ErrForm, impl.ErrMany, impl.ErrRange, impl.ErrNone, impl.ErrText, impl.ErrTaken, impl.ErrType, impl.ErrDeep, impl.ErrState} {
		for _, tree := range codes[code] {
			checkUnmade(t, tree, code)
			// Ahead of all else that is wrong.
			for _, node := range append([]int64{2, 3}, oddNumbers...) {
				checkNeed(t, tree, node, code, 0)
			}
			for _, list := range [][]int64{nil, {0}, {-1}, make([]int64, 14), make([]int64, 61), sameWords(81, 65536)} {
				for _, budget := range []int64{-1, 5, 20001} {
					if scan := checkRegScan(t, tree, list, list, list, budget); !sameScan(scan, impl.ScanResult{Code: code}) {
						t.Errorf("ScanRegs = %v, want %d", scan, code)
					}
				}
			}
		}
		if len(codes[code]) == 0 {
			t.Errorf("no tree has the code %d", code)
		}
	}
}

// Nothing that CheckTree lets pass comes near the 20000 steps at which Worst would be too much.
func TestRegWorstOfTheGreatestBudgets(t *testing.T) {
	most := int64(0)
	for _, text := range []string{withCost(t, 2000), withCost(t, 1999), withCost(t, 1998), "var n:int; for n := 1 to 665 do end;", "var n:int; for n := 0 to 664 do end;", "var n:int; var k:int; for n := 1 to 30 do for k := 1 to 19 do end; end;"} {
		tree := program(t, text)
		got := checkRegsMade(t, tree)
		most = max(most, got.Worst)
		if run := checkAllScans(t, tree, zeros(t, tree), nil); run.Code != impl.OK || run.Steps != got.Worst {
			t.Errorf("%q, Worst %d: %v", text, got.Worst, run)
		}
	}
	if most < 7000 || most > 20000 {
		t.Errorf("the most steps are %d", most)
	}
	checkUnmade(t, program(t, withCost(t, 2001)), impl.ErrMany)
}
