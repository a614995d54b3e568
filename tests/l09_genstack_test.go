package tests

import (
	"slices"
	"strconv"
	"strings"
	"testing"

	"loop.example/g00251/impl"
)

// checkCode asks for the code of statements behind what is declared, its instructions with `;` between, and for its Worst.
// The cells: i 0, p 1, ri 2 and 3, o 4, b 5, n 6, k 7, f 8, rn 9 to 11, rb 12 and 13.
func checkCode(t *testing.T, statements string, worst int64, instructions string) impl.CodeResult {
	t.Helper()
	return checkCodeOf(t, program(t, declared+statements), worst, instructions)
}

func checkCodeOf(t *testing.T, tree impl.Tree, worst int64, instructions string) impl.CodeResult {
	t.Helper()
	got := checkCompiled(t, tree)
	text := impl.StackText(got.Words)
	told := strings.ReplaceAll(strings.TrimSuffix(text.Text, "\n"), "\n", "; ")
	if got.Code != impl.OK || text.Code != impl.OK || told != instructions || got.Worst != worst {
		t.Errorf("CompileStack(%s): code %d, Worst %d, %s\nwant Worst %d, %s", showTree(tree), got.Code, got.Worst, told, worst, instructions)
	}
	return got
}

// checkUncompiled asks that the tree has the code, and that nothing else is told.
func checkUncompiled(t *testing.T, tree impl.Tree, code int64) {
	t.Helper()
	if got := checkCompiled(t, tree); !sameCode(got, impl.CodeResult{Code: code}) {
		t.Errorf("CompileStack(%s) = %v, want the code %d", showTree(tree), got, code)
	}
}

// checkValueCode asks for the code of an expression that is an int, or of one that is a bool.
func checkValueCode(t *testing.T, expression string, steps int64, instructions string) {
	t.Helper()
	name, behind := "n", "; store 6; end"
	if impl.CheckTree(program(t, declared+"n := "+expression+";")).Code != impl.OK {
		name, behind = "f", "; bool; store 8; end"
		steps++
	}
	tree := program(t, declared+name+" := "+expression+";")
	mark := strconv.Itoa(len(tree.Nodes) - 1)
	checkCodeOf(t, tree, steps+3, "mark "+mark+"; "+instructions+behind)
}

func TestCodeOfNoStatements(t *testing.T) {
	for _, tree := range []impl.Tree{{}, program(t, declared), {Vars: []impl.Var{}, Nodes: []impl.Node{}, Body: []int64{}}} {
		checkCodeOf(t, tree, 1, "end")
		if got := impl.MarksOf(tree); !sameInts(got, impl.IntsResult{}) {
			t.Errorf("MarksOf no statements = %v", got)
		}
	}
}

func TestCodeOfEachExpression(t *testing.T) {
	checkValueCode(t, "0", 1, "push 0")
	checkValueCode(t, "1", 1, "push 1")
	checkValueCode(t, "65535", 1, "push 65535")
	checkValueCode(t, "true", 1, "push 1")
	checkValueCode(t, "i", 1, "load 0")
	checkValueCode(t, "p", 1, "load 1")
	checkValueCode(t, "o", 1, "load 4")
	checkValueCode(t, "k", 1, "load 7")
	checkValueCode(t, "f", 1, "load 8")
	checkValueCode(t, "ri[1]", 2, "push 1; loadx 2 2")
	checkValueCode(t, "rn[i]", 2, "load 0; loadx 9 3")
	checkValueCode(t, "rb[65535]", 2, "push 65535; loadx 12 2")
	checkValueCode(t, "rn[rn[rn[0]]]", 4, "push 0; loadx 9 3; loadx 9 3; loadx 9 3")
	checkValueCode(t, "-k", 2, "load 7; neg")
	checkValueCode(t, "- - 5", 3, "push 5; neg; neg")
	checkValueCode(t, "not p", 2, "load 1; not")
	checkValueCode(t, "not not rb[0]", 4, "push 0; loadx 12 2; not; not")
	checkValueCode(t, "-rn[-i]", 4, "load 0; neg; loadx 9 3; neg")
}

func TestCodeOfEachOp(t *testing.T) {
	for op, sign := range map[int]string{1: "+", 2: "-", 3: "*", 4: "/", 5: "mod", 9: "<", 10: "="} {
		checkValueCode(t, "i "+sign+" k", 3, "load 0; load 7; two "+strconv.Itoa(op))
		checkValueCode(t, "7 "+sign+" rn[k]", 4, "push 7; load 7; loadx 9 3; two "+strconv.Itoa(op))
	}
	for op, sign := range map[int]string{6: "and", 7: "or", 8: "xor", 10: "="} {
		checkValueCode(t, "p "+sign+" f", 3, "load 1; load 8; two "+strconv.Itoa(op))
		checkValueCode(t, "1 "+sign+" not f", 4, "push 1; load 8; not; two "+strconv.Itoa(op))
	}
	checkValueCode(t, "i > k", 3, "load 7; load 0; two 9")
	checkValueCode(t, "i <= k", 4, "load 7; load 0; two 9; not")
	checkValueCode(t, "i >= k", 4, "load 0; load 7; two 9; not")
	checkValueCode(t, "i <> k", 4, "load 0; load 7; two 10; not")
	checkValueCode(t, "i - k - 3", 5, "load 0; load 7; two 2; push 3; two 2")
	checkValueCode(t, "i - (k - 3)", 5, "load 0; load 7; push 3; two 2; two 2")
	checkValueCode(t, "(i + 1) * (k - 2) < n mod 3 or p", 13, "load 0; push 1; two 1; load 7; push 2; two 2; two 3; load 6; push 3; two 5; two 9; load 1; two 7")
}

func TestCodeOfSets(t *testing.T) {
	checkCode(t, "n := 5;", 4, "mark 1; push 5; store 6; end")
	checkCode(t, "o := i;", 4, "mark 1; load 0; store 4; end")
	checkCode(t, "f := p;", 5, "mark 1; load 1; bool; store 8; end")
	checkCode(t, "b := false;", 5, "mark 1; push 0; bool; store 5; end")
	checkCode(t, "rn[0] := i;", 5, "mark 2; push 0; load 0; storex 9 3; end")
	checkCode(t, "rn[i] := rn[2];", 6, "mark 3; load 0; push 2; loadx 9 3; storex 9 3; end")
	checkCode(t, "rb[1] := p;", 6, "mark 2; push 1; load 1; bool; storex 12 2; end")
	checkCode(t, "rb[k] := 1;", 6, "mark 2; load 7; push 1; bool; storex 12 2; end")
	checkCode(t, "n := 1; k := n; f := 0;", 11, "mark 1; push 1; store 6; mark 3; load 6; store 7; mark 5; push 0; bool; store 8; end")
}

// A row at the first cells and one at the last of all that there may be, of each size.
func TestCodeOfRows(t *testing.T) {
	for size := range int64(9) {
		if size == 0 {
			continue
		}
		between, number := "", strconv.Itoa(int(size))
		for i := range 60 - 2*size {
			if i%8 == 0 {
				between += "var x" + string(rune('a'+i/8)) + ":int[" + strconv.Itoa(int(min(8, 60-2*size-i))) + "]; "
			}
		}
		tree := program(t, "var a:int["+number+"]; "+between+"out z:bool["+number+"]; a[1] := a[2]; z[3] := z[4];")
		last := strconv.Itoa(int(60 - size))
		checkCodeOf(t, tree, 12, "mark 3; push 1; push 2; loadx 0 "+number+"; storex 0 "+number+"; mark 7; push 3; push 4; loadx "+last+" "+number+"; bool; storex "+last+" "+number+"; end")
		if cells := impl.CellsOf(tree).Value; cells != 60 {
			t.Errorf("%d cells", cells)
		}
	}
}

func TestCodeOfIfs(t *testing.T) {
	checkCode(t, "if p then n := 1; else k := 2; end;", 8, "mark 5; load 1; zero 14; mark 2; push 1; store 6; jump 20; mark 4; push 2; store 7; end")
	checkCode(t, "if p then n := 1; end;", 8, "mark 3; load 1; zero 14; mark 2; push 1; store 6; jump 14; end")
	checkCode(t, "if p then else k := 2; end;", 7, "mark 3; load 1; zero 8; jump 14; mark 2; push 2; store 7; end")
	checkCode(t, "if p then else end;", 5, "mark 1; load 1; zero 8; jump 8; end")
	checkCode(t, "if p then end; n := 1;", 8, "mark 1; load 1; zero 8; jump 8; mark 3; push 1; store 6; end")
	checkCode(t, "n := 1; if i < 3 then b := p; else end;", 14, "mark 1; push 1; store 6; mark 7; load 0; push 3; two 9; zero 25; mark 6; load 1; bool; store 5; jump 25; end")
	// An if within an if, in Then, in Else and in both.
	checkCode(t, "if p then if f then n := 1; end; end;", 12, "mark 5; load 1; zero 22; mark 4; load 8; zero 20; mark 3; push 1; store 6; jump 20; jump 22; end")
	checkCode(t, "if p then else if f then n := 1; end; end;", 11, "mark 5; load 1; zero 8; jump 22; mark 4; load 8; zero 22; mark 3; push 1; store 6; jump 22; end")
	checkCode(t, "if p then if f then end; else if b then end; end;", 9, "mark 5; load 1; zero 16; mark 2; load 8; zero 14; jump 14; jump 24; mark 4; load 5; zero 24; jump 24; end")
}

func TestCodeOfFors(t *testing.T) {
	const rounds = "push 3; load 6; two 9; not; zero 27; mark 1000; load 6; push 1; two 1; store 6; jump 6; end"
	checkCode(t, "for n := 1 to 3 do end;", 1+2+3*11+5+1, "mark 0; push 1; store 6; "+rounds)
	checkCode(t, "for n := 3 to 3 do end;", 1+2+11+5+1, "mark 0; push 3; store 6; "+rounds)
	checkCode(t, "for n := 4 to 3 do end;", 1+2+5+1, "mark 0; push 4; store 6; "+rounds)
	checkCode(t, "for n := 1000 to 3 do end;", 1+2+5+1, "mark 0; push 1000; store 6; "+rounds)
	checkCode(t, "for n := 0 to 3 do end;", 1+2+4*11+5+1, "mark 0; push 0; store 6; "+rounds)
	checkCode(t, "for o := 0 to 1 do k := k + o; end;", 1+2+2*16+5+1, "mark 4; push 0; store 4; push 1; load 4; two 9; not; zero 37; mark 1004; mark 3; load 7; load 4; two 1; store 7; load 4; push 1; two 1; store 4; jump 6; end")
	// What never goes round has its Then all the same.
	checkCode(t, "for n := 1 to 0 do k := 2; end; k := 3;", 8+4, "mark 2; push 1; store 6; push 0; load 6; two 9; not; zero 33; mark 1002; mark 1; push 2; store 7; load 6; push 1; two 1; store 6; jump 6; mark 4; push 3; store 7; end")
	// One within another, and behind a statement.
	checkCode(t, "k := 7; for n := 1 to 2 do for o := 1 to 3 do f := p; end; end;", 3+8+2*(11+8+3*(11+4))+1,
		"mark 1; push 7; store 7; mark 5; push 1; store 6; push 2; load 6; two 9; not; zero 67; mark 1005; "+
			"mark 4; push 1; store 4; push 3; load 4; two 9; not; zero 57; mark 1004; mark 3; load 1; bool; store 8; load 4; push 1; two 1; store 4; jump 29; "+
			"load 6; push 1; two 1; store 6; jump 12; end")
	// An if within a for, and a for within each side of an if.
	checkCode(t, "for n := 1 to 2 do if p then k := 1; end; end;", 8+2*(11+7)+1,
		"mark 4; push 1; store 6; push 2; load 6; two 9; not; zero 41; mark 1004; mark 3; load 1; zero 31; mark 2; push 1; store 7; jump 31; load 6; push 1; two 1; store 6; jump 6; end")
	checkCode(t, "if p then for n := 1 to 2 do end; else for k := 0 to 1 do end; end;", 3+8+2*11+1+1,
		"mark 3; load 1; zero 35; mark 1; push 1; store 6; push 2; load 6; two 9; not; zero 33; mark 1001; load 6; push 1; two 1; store 6; jump 12; jump 62; "+
			"mark 2; push 0; store 7; push 1; load 7; two 9; not; zero 62; mark 1002; load 7; push 1; two 1; store 7; jump 41; end")
}

// Num and Far at their edges; what a for costs bars it from going round from 0 to 1000.
func TestNumAndFarOfFors(t *testing.T) {
	for _, c := range []struct{ num, far, rounds int64 }{{0, 0, 1}, {1000, 1000, 1}, {1000, 0, 0}, {1000, 999, 0}, {999, 1000, 2}, {1, 0, 0}, {336, 1000, 665}, {0, 664, 665}} {
		text := "for n := " + strconv.Itoa(int(c.num)) + " to " + strconv.Itoa(int(c.far)) + " do end;"
		words := []int64{12, 0, 1, c.num, 3, 6, 1, c.far, 2, 6, 6, 9, 8, 11, 27, 12, 1000, 2, 6, 1, 1, 6, 1, 3, 6, 10, 6, 13}
		tree := program(t, declared+text)
		if got := checkCompiled(t, tree); !sameCode(got, impl.CodeResult{Words: words, Worst: 9 + 11*c.rounds}) {
			t.Errorf("%q: %v", text, got)
		}
		cells := zeros(t, tree)
		got := checkStackScan(t, tree, words, cells, []int64{0, 0}, 9+11*c.rounds)
		if got.Code != impl.OK || got.Steps != 9+11*c.rounds || got.State.Cells[6] != c.num+c.rounds {
			t.Errorf("%q: %v", text, got)
		}
	}
	for _, text := range []string{"for n := 0 to 1000 do end;", "for n := 0 to 665 do k := 1; end;"} {
		checkUncompiled(t, program(t, declared+text), impl.ErrMany)
	}
	checkUncompiled(t, program(t, declared+"for n := 1001 to 1000 do end;"), impl.ErrRange)
	checkUncompiled(t, program(t, declared+"for n := 65535 to 65535 do end;"), impl.ErrRange)
}

// All words, so that what is behind each zero and each jump is seen, in a program with each kind of it.
func TestWordsWordByWord(t *testing.T) {
	tree := program(t, "in p:bool; var n:int; var r:bool[2]; for n := 0 to 1 do if p then r[n] := p; else if r[0] then end; end; end; n := -n;")
	got := checkCompiled(t, tree)
	want := slices.Concat(
		[]int64{12, 8, 1, 0, 3, 1},
		[]int64{1, 1, 2, 1, 6, 9, 8, 11, 56, 12, 1008}, // 6: each round begins
		[]int64{12, 7, 2, 0, 11, 35},                   // 17: the if
		[]int64{12, 3, 2, 1, 2, 0, 9, 5, 2, 2, 10, 46}, // 23: its Then
		[]int64{12, 6, 1, 0, 4, 2, 2, 11, 46, 10, 46},  // 35: its Else, an if of which both sides are empty
		[]int64{2, 1, 1, 1, 6, 1, 3, 1, 10, 6},         // 46: behind it
		[]int64{12, 11, 2, 1, 7, 3, 1, 13})             // 56: behind the for
	if got.Code != impl.OK || !slices.Equal(got.Words, want) {
		t.Errorf("CompileStack(%s)\n= %v, want\n  %v", showTree(tree), got, want)
	}
}

// marksIn answers the words behind each mark of code that is written.
func marksIn(text string) []int64 {
	var marks []int64
	for line := range strings.Lines(text) {
		if number, holds := strings.CutPrefix(strings.TrimSpace(line), "mark "); holds {
			mark, _ := strconv.Atoi(number)
			marks = append(marks, int64(mark))
		}
	}
	return marks
}

// longTree answers one of 200 nodes of which each statement but the last one has many.
func longTree(last impl.Node) impl.Tree {
	tree := impl.Tree{Vars: []impl.Var{{Name: "n", Kind: impl.VarOwn, Type: impl.TypeInt}}}
	add := func(node impl.Node) int64 {
		tree.Nodes = append(tree.Nodes, node)
		return int64(len(tree.Nodes)) - 1
	}
	for left := 199; left > 0; {
		count := min(left, 19)
		left -= count
		place := add(impl.Node{Kind: impl.NodeNum})
		for range count - 2 {
			place = add(impl.Node{Kind: impl.NodeNeg, Kids: []int64{place}})
		}
		tree.Body = append(tree.Body, add(impl.Node{Kind: impl.NodeSet, Name: "n", Kids: []int64{place}}))
	}
	tree.Body = append(tree.Body, add(last))
	return tree
}

func TestMarksOfPlaces(t *testing.T) {
	for text, want := range map[string][]int64{
		"for n := 0 to 0 do end;": {0, 1000},
		"n := 1;":                 {1},
		"for n := 0 to 0 do end; for n := 1 to 0 do end;":                         {0, 1000, 1, 1001},
		"for n := 0 to 1 do for k := 0 to 1 do end; end;":                         {1, 1001, 0, 1000},
		"if p then n := 1; else n := 2; end; n := 3;":                             {5, 2, 4, 7},
		"if p then if b then n := 1; end; else for n := 0 to 0 do end; end;":      {6, 4, 3, 5, 1005},
		"rn[1] := 2; if f then rb[0] := p; end; for k := 5 to 4 do n := -n; end;": {2, 7, 6, 11, 1011, 10},
	} {
		tree := program(t, declared+text)
		if got := marksIn(impl.StackText(checkCompiled(t, tree).Words).Text); !slices.Equal(got, want) {
			t.Errorf("%q has the marks %v, want %v", text, got, want)
		}
		// Each place of a statement is one of them, and no other.
		slices.Sort(want)
		places := slices.DeleteFunc(want, func(mark int64) bool { return mark >= 1000 })
		if got := impl.MarksOf(tree); !sameInts(got, impl.IntsResult{List: places}) {
			t.Errorf("%q: MarksOf = %v, want %v", text, got, places)
		}
	}
	// The last place of all that there may be.
	tree := longTree(impl.Node{Kind: impl.NodeFor, Name: "n", Far: 1})
	marks := marksIn(impl.StackText(checkCompiled(t, tree).Words).Text)
	if len(tree.Nodes) != 200 || !slices.Equal(marks[len(marks)-3:], []int64{198, 199, 1199}) {
		t.Errorf("%d nodes have the marks %v", len(tree.Nodes), marks)
	}
	tree.Nodes[199] = impl.Node{Kind: impl.NodeFor, Name: "n", Num: 1}
	checkCompiled(t, tree)
	if marks := impl.MarksOf(tree).List; marks[0] != 18 || marks[len(marks)-1] != 199 {
		t.Errorf("MarksOf of 200 nodes = %v", marks)
	}
}

// Nodes stand in another order than statements: they are told in theirs, with calls, too.
func TestMarksOfInTheOrderOfNodes(t *testing.T) {
	tree := program(t, "var n:int; n := 1; for n := 0 to 1 do end; n := 2; sr s(1, 0); if 1 then n := 3; end;")
	slices.Reverse(tree.Body)
	checkCompiled(t, tree)
	if got := impl.MarksOf(tree); !sameInts(got, impl.IntsResult{List: []int64{1, 2, 4, 7, 10, 11}}) {
		t.Errorf("MarksOf = %v", got)
	}
	turned := impl.Tree{Vars: tree.Vars, Body: []int64{7, 6, 3, 5}, Nodes: []impl.Node{
		{Kind: impl.NodeNum, Num: 7}, {Kind: impl.NodeNum, Num: 8}, {Kind: impl.NodeName, Name: "n"}, {Kind: impl.NodeSet, Name: "n", Kids: []int64{0}},
		{Kind: impl.NodeNum, Num: 1}, {Kind: impl.NodeIf, Kids: []int64{4}}, {Kind: impl.NodeSet, Name: "n", Kids: []int64{2}}, {Kind: impl.NodeSet, Name: "n", Kids: []int64{1}}}}
	checkCodeOf(t, turned, 14, "mark 7; push 8; store 0; mark 6; load 0; store 0; mark 3; push 7; store 0; mark 5; push 1; zero 26; jump 26; end")
	if got := impl.MarksOf(turned); !sameInts(got, impl.IntsResult{List: []int64{3, 5, 6, 7}}) {
		t.Errorf("MarksOf = %v", got)
	}
	if got := impl.MarksOf(program(t, "ton t(1, 2);")); !sameInts(got, impl.IntsResult{List: []int64{2}}) {
		t.Errorf("MarksOf a call = %v", got)
	}
}

// codeOf answers a program of which the code has so many words; a set of a number has 6, and each sign 1 more.
func codeOf(words int) string {
	text := "var n:int;" + strings.Repeat("n:=1;", (words-7)/6)
	return text + "n:=" + strings.Repeat("-", (words-7)%6) + "1;"
}

func TestCodeOf400WordsAnd401(t *testing.T) {
	for words := 380; words <= 410; words++ {
		tree := program(t, codeOf(words))
		got := checkCompiled(t, tree)
		if words > 400 {
			checkUncompiled(t, tree, impl.ErrMany)
			continue
		}
		if got.Code != impl.OK || len(got.Words) != words || impl.WordsFault(got.Words) != impl.OK {
			t.Errorf("code of %d words: %v", words, got)
		}
		if run := checkStackScan(t, tree, got.Words, []int64{7}, nil, got.Worst); run.Code != impl.OK || run.Steps != got.Worst {
			t.Errorf("code of %d words: %v", words, run)
		}
	}
	// In each side of an if, and within a for.
	for _, around := range []struct {
		head, tail string
		more       int
	}{{"if 1 then ", "end;", 8}, {"if 0 then else ", "end;", 8}, {"for k := 1 to 2 do ", "end;", 27}, {"if 1 then if 1 then for k := 0 to 1 do ", "end;end;end;", 43}} {
		for _, words := range []int{400, 401} {
			text := "var k:int;" + strings.Replace(codeOf(words-around.more), ";", ";"+around.head, 1) + around.tail
			tree := program(t, text)
			if got := checkCompiled(t, tree); words == 400 && (got.Code != impl.OK || len(got.Words) != 400) {
				t.Errorf("%q: %d, %d words", text, got.Code, len(got.Words))
			}
			if words == 401 {
				checkUncompiled(t, tree, impl.ErrMany)
			}
		}
	}
	// The most words that a tree may have.
	most := impl.Tree{Vars: []impl.Var{{Name: "n", Kind: impl.VarOwn, Type: impl.TypeInt}}}
	for at := range int64(200) {
		most.Nodes = append(most.Nodes, impl.Node{Kind: impl.NodeFor, Name: "n", Num: 1})
		most.Body = append(most.Body, at)
	}
	checkUncompiled(t, most, impl.ErrMany)
}

// Calls are told ahead of what would be too long.
func TestCallsAreNotCompiled(t *testing.T) {
	for _, call := range []string{"ctu c(1,1,1);", "ton c(1,1);", "rtrig c(1);", "sr c(1,1);"} {
		for _, text := range []string{call, "var n:int; n := 1;" + call + "n := 2;", "if 1 then else " + call + "end;", codeOf(450) + call, codeOf(380) + call, codeOf(400) + call} {
			tree := program(t, text)
			if check := impl.CheckTree(tree); check.Code != impl.OK {
				t.Fatalf("%q: %v", text, check)
			}
			checkUncompiled(t, tree, impl.ErrState)
			cells := zeros(t, tree)
			if got := checkStackScan(t, tree, []int64{impl.AsMark, 3, impl.AsEnd}, cells, nil, 2); got.Code != impl.OK || got.Steps != 2 || !slices.Equal(got.State.Cells, cells) {
				t.Errorf("other code for %q: %v", text, got)
			}
		}
	}
}

// treesWithCodes answers a tree with each code that CheckTree may tell; one of them has calls, one would be too long.
func treesWithCodes(t *testing.T) map[int64][]impl.Tree {
	t.Helper()
	trees := map[int64][]impl.Tree{}
	for text, code := range map[string]int64{
		"n := 1 = 2; ": impl.ErrType, "y := 1; ": impl.ErrNone, "i := 1; ": impl.ErrState, "rn := 1; ": impl.ErrForm, "for n := 0 to 1001 do end; ": impl.ErrRange, "for n := 0 to 900 do end; ": impl.ErrMany,
		"sr c(1, 1); rtrig c(1); ": impl.ErrTaken, "sr abcdefgh(1, 1); ": impl.ErrText, "sr c(1); ": impl.ErrMany, "n := 7 or 1; sr c(1, 1); ": impl.ErrType,
	} {
		trees[code] = append(trees[code], program(t, declared+text), program(t, declared+text+strings.Repeat("n:=1;", 70)))
	}
	faulty := program(t, declared+"n := 1; sr c(1, 1);")
	faulty.Body = nil
	trees[impl.ErrForm] = append(trees[impl.ErrForm], faulty)
	faulty = copyTree(faulty)
	faulty.Vars[3].Kind = 4
	trees[impl.ErrRange] = append(trees[impl.ErrRange], faulty)
	faulty = copyTree(faulty)
	faulty.Vars[1].Name = "A"
	trees[impl.ErrText] = append(trees[impl.ErrText], faulty)
	trees[impl.ErrMany] = append(trees[impl.ErrMany], impl.Tree{Vars: make([]impl.Var, 25)}, impl.Tree{Nodes: make([]impl.Node, 201)}, program(t, "var a:int[8];var b:int[8];var c:int[8];var d:int[8];var e:int[8];var f:int[8];var g:int[8];var h:int[5];"))
	trees[impl.ErrDeep] = append(trees[impl.ErrDeep], chainOf(19))
	return trees
}

func TestStackCodeOfTreesWithACode(t *testing.T) {
	codes := treesWithCodes(t)
	for _, code := range []int64{impl.ErrForm, impl.ErrMany, impl.ErrRange, impl.ErrNone, impl.ErrText, impl.ErrTaken, impl.ErrType, impl.ErrDeep, impl.ErrState} {
		for _, tree := range codes[code] {
			if got := impl.CheckTree(tree).Code; got != code {
				t.Fatalf("CheckTree(%s) has the code %d, not %d", showTree(tree), got, code)
			}
			checkUncompiled(t, tree, code)
			if got := impl.MarksOf(tree); !sameInts(got, impl.IntsResult{Code: code}) {
				t.Errorf("MarksOf = %v, want %d", got, code)
			}
			// Ahead of all else that is wrong.
			for _, list := range [][]int64{nil, {0}, {-1}, make([]int64, 14), make([]int64, 61), sameWords(81, 65536)} {
				for _, budget := range []int64{-1, 5, 20001} {
					want := impl.IntsResult{Code: code}
					if scan := checkStackScan(t, tree, list, list, list, budget); !sameScan(scan, impl.ScanResult{Code: code}) {
						t.Errorf("ScanStack = %v, want %d", scan, code)
					}
					state := impl.State{Cells: list}
					if latch, outs := impl.LatchInputs(tree, state, list), impl.OutsOf(tree, state); !sameInts(latch, want) || !sameInts(outs, want) {
						t.Errorf("LatchInputs = %v, OutsOf = %v, want %d", latch, outs, code)
					}
				}
			}
		}
		if len(codes[code]) == 0 {
			t.Errorf("no tree has the code %d", code)
		}
	}
}

// checkWorst asks for the Worst of a program, and how many steps scans take with i 0, 1 and so on, on both machines.
func checkWorst(t *testing.T, statements string, worst int64, steps ...int64) {
	t.Helper()
	tree := program(t, "in i:int; out o:int; var n:int; var f:bool; "+statements)
	code := checkCompiled(t, tree)
	if code.Code != impl.OK || code.Worst != worst {
		t.Errorf("%q: code %d, Worst %d, want %d", statements, code.Code, code.Worst, worst)
	}
	for i, want := range steps {
		got := checkStackScan(t, tree, code.Words, zeros(t, tree), []int64{int64(i)}, code.Worst)
		if got.Code != impl.OK || got.Steps != want {
			t.Errorf("%q with %d: code %d, %d steps, want %d", statements, i, got.Code, got.Steps, want)
		}
		// On registers it is as many.
		if got := checkAllScans(t, tree, zeros(t, tree), []int64{int64(i)}); got.Steps != want {
			t.Errorf("%q with %d: %d steps on registers, want %d", statements, i, got.Steps, want)
		}
	}
	if regs := checkRegsMade(t, tree); regs.Code != impl.OK || regs.Worst != worst {
		t.Errorf("%q on registers: code %d, Worst %d, want %d", statements, regs.Code, regs.Worst, worst)
	}
}

func TestWorstOfIfs(t *testing.T) {
	// Ahead of both sides: mark, load, push, two and zero; behind them: end.
	const head = "if i = 0 then "
	checkWorst(t, head+"o := 1; else end;", 5+3+1+1, 10, 6)
	checkWorst(t, head+"else o := 1; end;", 5+3+1, 7, 9)
	checkWorst(t, head+"end;", 5+1+1, 7, 6)
	checkWorst(t, head+"o := 1; n := 1; else o := 1; end;", 5+6+1+1, 13, 9)
	checkWorst(t, head+"o := 1; else o := 1; n := 1; end;", 5+6+1, 10, 12)
	// The same on both sides, so that the jump alone makes Then the worse one.
	checkWorst(t, head+"o := 1; else o := 2; end;", 5+3+1+1, 10, 9)
	// One step more in Else, so that with the jump both are as bad.
	checkWorst(t, head+"o := 1; else o := -1; end;", 5+4+1, 10, 10)
	checkWorst(t, head+"f := 1; else o := - - -1; end;", 5+6+1, 11, 12)
	checkWorst(t, head+"f := 1; else o := - -1; end;", 5+5+1, 11, 11)
	checkWorst(t, head+"f := 1; else o := -1; end;", 5+5+1, 11, 10)
	checkWorst(t, head+"o := - -1; else o := 1; end; n := 2;", 5+6+3+1, 15, 12)
	// One within the other, where the worse side of one is not in the worse side of the other.
	checkWorst(t, head+"if i = 0 then else o := 1; end; else n := 1; end;", 5+5+3+1+1, 13, 9)
	checkWorst(t, head+"n := 1; else if i = 1 then o := 1; f := 1; else o := 2; end; end;", 5+5+8+1, 10, 19, 14)
	checkWorst(t, head+"o := 1; end; if i = 1 then o := 2; end;", 5+4+5+4+1, 15, 15, 11)
}

func TestWorstOfFors(t *testing.T) {
	checkWorst(t, "for n := 1 to 3 do end;", 8+33+1, 42)
	checkWorst(t, "for n := 3 to 1 do o := 1; end;", 8+1, 9)
	checkWorst(t, "for n := 2 to 2 do o := n; end;", 8+11+3+1, 23)
	// An if within a for, with each side the worse one, and both as bad.
	checkWorst(t, "for n := 1 to 4 do if i = 0 then o := 1; else end; end;", 8+4*(11+5+4)+1, 89, 73)
	checkWorst(t, "for n := 1 to 4 do if i = 0 then else o := 1; end; end;", 8+4*(11+5+3)+1, 77, 85)
	checkWorst(t, "for n := 1 to 4 do if i = 0 then o := 2; else o := 1; end; end;", 8+4*(11+5+4)+1, 89, 85)
	checkWorst(t, "for n := 1 to 4 do if i = 0 then o := 2; else o := -1; end; end;", 8+4*(11+5+4)+1, 89, 89)
	checkWorst(t, "for n := 1 to 4 do if i = 0 then o := 2; else o := - -1; end; end;", 8+4*(11+5+5)+1, 89, 93)
	checkWorst(t, "for n := 1 to 0 do if i = 0 then o := 2; else o := - -1; end; end;", 8+1, 9, 9)
	// A for on each side of an if.
	checkWorst(t, "if i = 0 then for n := 1 to 5 do end; else for n := 1 to 6 do end; end;", 5+8+66+1, 5+8+55+1+1, 5+8+66+1)
	checkWorst(t, "if i = 0 then for n := 1 to 5 do end; else for n := 1 to 5 do end; end;", 5+8+55+1+1, 5+8+55+1+1, 5+8+55+1)
	// Words count as they stand, steps as often as they are done.
	checkWorst(t, "for n := 0 to 1 do for o := 0 to 2 do f := n < o; end; end;", 8+2*(11+8+3*(11+6))+1, 149)
}

// Nothing that CheckTree lets pass comes near the 20000 steps at which Worst would be too much: a round costs 3 and
// takes 11 steps, and all else takes less of what it costs.
func TestWorstOfTheGreatestBudgets(t *testing.T) {
	most := int64(0)
	for _, text := range []string{withCost(t, 2000), withCost(t, 1999), withCost(t, 1998), "var n:int; for n := 1 to 665 do end;", "var n:int; for n := 0 to 664 do end;", "var n:int; var k:int; for n := 1 to 30 do for k := 1 to 19 do end; end;"} {
		tree := program(t, text)
		got := checkCompiled(t, tree)
		if budget := impl.CheckTree(tree).Budget; got.Code != impl.OK || 3*got.Worst > 11*budget {
			t.Errorf("%q of the budget %d: Worst %d", text, budget, got.Worst)
		}
		most = max(most, got.Worst)
		if run := checkStackScan(t, tree, got.Words, zeros(t, tree), nil, got.Worst); run.Code != impl.OK || run.Steps != got.Worst {
			t.Errorf("%q, Worst %d: %v", text, got.Worst, run)
		}
	}
	if most < 7000 || most > 20000 {
		t.Errorf("the most steps are %d", most)
	}
	checkUncompiled(t, program(t, withCost(t, 2001)), impl.ErrMany)
}
