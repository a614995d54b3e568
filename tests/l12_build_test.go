package tests

import (
	"cmp"
	"fmt"
	"slices"
	"strings"
	"testing"

	"loop.example/g00251/impl"
)

// checkShown asks what is built of a text: all but the code, as showBuild tells it, and the code of both channels.
func checkShown(t *testing.T, text, build, codeA, codeB string) {
	t.Helper()
	got := checkTextBuilt(t, text)
	oneLine := func(lines string) string { return strings.ReplaceAll(strings.TrimSuffix(lines, "\n"), "\n", "; ") }
	a, b := oneLine(impl.StackText(got.Build.CodeA).Text), oneLine(impl.RegsText(got.Build.CodeB).Text)
	if got.Code != impl.OK || got.At != 0 || got.Node != 0 || showBuild(got.Build) != build || a != codeA || b != codeB {
		t.Errorf("BuildText(%q): code %d at %d, node %d, %s\n%s\n%s\nwant %s\n%s\n%s", text, got.Code, got.At, got.Node, showBuild(got.Build), a, b, build, codeA, codeB)
	}
	checkBuild(t, got.Build)
}

func TestBuildsByHand(t *testing.T) {
	checkShown(t, "", "0 cells, in, out, 1 1", "end", "end")
	checkShown(t, "in p : bool; out u : bool; rtrig g(p); u := gq;", "5 cells, in 0b, out 1, 20 20",
		"mark 1; load 0; bool; store 4; mark 6; load 4; load 2; not; two 6; bool; store 3; mark 8; load 4; bool; store 2; mark 10; load 3; bool; store 1; end",
		"mark 1; load 0 0; bool 0; store 4 0; mark 6; load 0 4; load 1 2; not 1 1; two 0 0 1 6; bool 0; store 3 0; mark 8; load 0 4; bool 0; store 2 0; mark 10; load 0 3; bool 0; store 1 0; end")
	checkShown(t, "in a:int; out x:int; x := 7 / a;", "2 cells, in 0, out 1, 6 6", "mark 3; push 7; load 0; two 4; store 1; end", "mark 3; const 0 65528; load 1 0; two 0 0 1 4; store 1 0; end")
	// Rows that are inputs are none of the Ports, each cell of one that is an output is one of the Outs.
	checkShown(t, "in rp:bool[2]; in p:bool; var n:int; in i:int; out rb:bool[3]; out o:int; var k:bool; out b:bool; rb[i] := p;", "11 cells, in 2b 4, out 5 6 7 8 10, 6 6",
		"mark 2; load 4; load 2; bool; storex 5 3; end", "mark 2; load 0 4; load 1 2; bool 1; storex 0 1 5 3; end")
	checkShown(t, "out o:int; var n:int; for n := 1 to 3 do o := o + n; end;", "2 cells, in, out 0, 57 57",
		"mark 4; push 1; store 1; push 3; load 1; two 9; not; zero 37; mark 1004; mark 3; load 0; load 1; two 1; store 0; load 1; push 1; two 1; store 1; jump 6; end",
		"mark 4; const 0 65534; store 1 0; const 0 65532; load 1 1; two 0 0 1 9; not 0 0; zero 0 59; mark 1004; mark 3; load 0 0; load 1 1; two 0 0 1 1; store 0 0; load 0 1; const 1 65534; two 0 0 1 1; store 1 0; jump 8; end")
	// The cells of a block's own, and of what its Kids are kept in, are behind those that are declared.
	checkShown(t, "in i:int; in p:bool; out o:int; sr s(p, i < 1); if sq then o := i; end;", "6 cells, in 0 1b, out 2, 27 27",
		"mark 1; load 1; bool; store 4; mark 5; load 0; push 1; two 9; bool; store 5; mark 12; load 4; load 3; load 5; not; two 6; two 7; bool; store 3; mark 16; load 3; zero 48; mark 15; load 0; store 2; jump 48; end",
		"mark 1; load 0 1; bool 0; store 4 0; mark 5; load 0 0; const 1 65534; two 0 0 1 9; bool 0; store 5 0; mark 12; load 0 4; load 1 3; load 2 5; not 2 2; two 1 1 2 6; two 0 0 1 7; bool 0; store 3 0; mark 16; load 0 3; zero 0 75; mark 15; load 0 0; store 2 0; jump 75; end")
}

// What is declared tells Cells, Ports and Outs, of each kind, type and size.
func TestPortsAndOutsOfDeclarations(t *testing.T) {
	for text, want := range map[string]string{
		"in a:int;":                            "1 cells, in 0, out, 1 1",
		"in a:bool;":                           "1 cells, in 0b, out, 1 1",
		"out a:int;":                           "1 cells, in, out 0, 1 1",
		"out a:bool;":                          "1 cells, in, out 0, 1 1",
		"var a:int; var b:bool; var c:int[8];": "10 cells, in, out, 1 1",
		"in a:int[1];":                         "1 cells, in, out, 1 1",
		"in a:bool[8]; in b:bool;":             "9 cells, in 8b, out, 1 1",
		"out a:int[1]; out b:bool[3];":         "4 cells, in, out 0 1 2 3, 1 1",
		"out a:int; in b:int; out c:bool; in d:bool;":                                            "4 cells, in 1 3b, out 0 2, 1 1",
		"var a:int[3]; in b:int; var c:bool[2]; out d:int[2]; in e:bool; var f:int; out g:bool;": "11 cells, in 3 8b, out 6 7 10, 1 1",
	} {
		if got := checkTextBuilt(t, text); got.Code != impl.OK || showBuild(got.Build) != want {
			t.Errorf("BuildText(%q): code %d, %s, want %s", text, got.Code, showBuild(got.Build), want)
		}
	}
	// As many Ports and Outs as there may be: 24 variables of one cell each, and 60 cells in all.
	ports, outs := "", ""
	for i := range 24 {
		name := "v" + string(rune('a'+i))
		ports += fmt.Sprintf("in %s:%s;", name, []string{"int", "bool"}[i%2])
		outs += fmt.Sprintf("out %s:int[%d];", name, []int{3, 3, 2, 2}[i%4])
	}
	if got := checkTextBuilt(t, ports); got.Code != impl.OK || len(got.Build.Ports) != 24 || got.Build.Ports[23] != (impl.Port{Cell: 23, Bool: true}) {
		t.Errorf("24 Ports: code %d, %s", got.Code, showBuild(got.Build))
	}
	if got := checkTextBuilt(t, outs); got.Code != impl.OK || len(got.Build.Outs) != 60 || got.Build.Outs[59] != 59 {
		t.Errorf("60 Outs: code %d, %s", got.Code, showBuild(got.Build))
	}
}

// checkUnbuilt asks for the code, At and Node of a text, and that nothing else is told; and for the At of TreeOf.
func checkUnbuilt(t *testing.T, text string, code, at, node, treeAt int64) {
	t.Helper()
	if got := checkTextBuilt(t, text); !sameBuilt(got, impl.BuildResult{Code: code, At: at, Node: node}) {
		t.Errorf("BuildText(%q) = %+v, want %d at %d, node %d", text, got, code, at, node)
	}
	if got := impl.TreeOf(text); !sameTrees(got, impl.TreeResult{Code: code, At: treeAt}) {
		t.Errorf("TreeOf(%q) = %d at %d, %s; want %d at %d", text, got.Code, got.At, showTree(got.Tree), code, treeAt)
	}
}

func TestTextsThatAreNotRead(t *testing.T) {
	for _, c := range []struct {
		text     string
		code, at int64
	}{
		{"x := ;", impl.ErrText, 5}, {"x", impl.ErrText, 1}, {" x := 1", impl.ErrText, 7}, {"$", impl.ErrText, 0}, {"x := 007;", impl.ErrText, 5}, {"x := 65536;", impl.ErrText, 5}, {"x := 1; abcdefghi := 1;", impl.ErrText, 8},
		{"in a:int[0];", impl.ErrText, 9}, {"end", impl.ErrText, 0}, {"x := 1; \xff", impl.ErrText, 8}, {"x := " + strings.Repeat("-", 19) + "1;", impl.ErrDeep, 26}, {"x := " + strings.Repeat("(", 63) + "(1", impl.ErrDeep, 68},
		{declarations(24) + "var z:int;", impl.ErrMany, 24*12 + 9}, {strings.Repeat("x:=1;", 100) + "x:=1;", impl.ErrMany, 500},
	} {
		checkUnbuilt(t, c.text, c.code, c.at, -1, c.at)
	}
	long := strings.Repeat("x", 1201)
	checkUnbuilt(t, long, impl.ErrMany, impl.LexText(long).At, -1, impl.LexText(long).At)
}

// The Node is that of CheckTree, where that has a code, and TreeOf has it as its At.
func TestTextsThatMayNotBeRun(t *testing.T) {
	for text, want := range map[string][2]int64{
		"x := 1;": {impl.ErrNone, 1}, "var x:int; x := true + y;": {impl.ErrNone, 1}, "in a:int; a := 1;": {impl.ErrState, 1}, "var x:int; x := 1 < 2;": {impl.ErrType, 2}, "var x:int[2]; x := 1;": {impl.ErrForm, 1},
		"var x:int; var x:int;": {impl.ErrTaken, -1}, "rtrig abcdefgh(1);": {impl.ErrText, -1}, "sr s(1);": {impl.ErrMany, 1}, "var n:int; for n := 0 to 1001 do end;": {impl.ErrRange, 0}, "var n:int; for n := 0 to 900 do end;": {impl.ErrMany, -1},
		"var sq:bool; sr s(1,1);": {impl.ErrTaken, -1}, "rtrig g(1); y := 1;": {impl.ErrNone, 3},
		// Ahead of what could not be expanded, and of what is too long.
		"var ga:int; rtrig g(2);": {impl.ErrType, 0}, "var n:int;" + strings.Repeat("n:=1;", 70) + "n:=p;": {impl.ErrNone, 140},
	} {
		checkUnbuilt(t, text, want[0], 0, want[1], want[1])
		if check := impl.CheckTree(program(t, text)); check.Code != want[0] || check.Node != want[1] {
			t.Errorf("CheckTree(%q) = %v, want %v", text, check, want)
		}
	}
}

// What ExpandTree has no code for is built, what it has one for is not.
func TestTextsThatCannotBeExpanded(t *testing.T) {
	checkUnbuilt(t, "var ga:int; rtrig g(1);", impl.ErrTaken, 0, -1, -1)
	checkUnbuilt(t, "sr c(1,1); sr ca(1,1); var_ := 1;", impl.ErrNone, 0, 7, 7)
	calls := "ctu a(1,1,1); ctu b(1,1,1); ctu c(1,1,1); ctu d(1,1,1);"
	checkUnbuilt(t, calls+"sr e(1,1);", impl.ErrMany, 0, -1, -1)
	checkUnbuilt(t, withCost(t, 1973)+"ctu z(1,1,1);", impl.ErrMany, 0, -1, -1)
	checkUnbuilt(t, nestedCall(17, "rtrig g(1);"), impl.ErrDeep, 0, -1, -1)
	for _, text := range []string{"var gb:int; rtrig g(1);", "ton a(1,1); ton b(1,1);", withCost(t, 1960) + "ctu z(1,1,1);", nestedCall(16, "rtrig g(1);")} {
		got, made := checkTextBuilt(t, text), impl.TreeOf(text)
		if got.Code != impl.OK || made.Code != impl.OK || impl.HasCalls(made.Tree) || !sameBuild(impl.BuildTree(made.Tree).Build, got.Build) {
			t.Errorf("BuildText(%q) = %+v, TreeOf: %d at %d, %s", text, got, made.Code, made.At, showTree(made.Tree))
		}
	}
}

// A machine has 400 words of code; those for registers are more, so that they are too many first. TreeOf asks for no code.
func TestTextsThatAreTooLongForAMachine(t *testing.T) {
	for _, text := range []string{regCodeOf(401), regCodeOf(420), codeOf(400), codeOf(401), codeOf(450)} {
		tree := impl.TreeOf(text)
		if got := checkTextBuilt(t, text); !sameBuilt(got, impl.BuildResult{Code: impl.ErrMany, Node: -1}) || tree.Code != impl.OK || len(tree.Tree.Nodes) < 90 {
			t.Errorf("BuildText(%q) = %+v, TreeOf: %d at %d", text, got, tree.Code, tree.At)
		}
	}
	got := checkTextBuilt(t, regCodeOf(400))
	if got.Code != impl.OK || len(got.Build.CodeB) != 400 || len(got.Build.SumsB) != 50 {
		t.Errorf("code of 400 words: %+v", got)
	}
	// So are those of what comes to be too long by its calls.
	text := regCodeOf(380) + "rtrig g(1);"
	if got, made := checkTextBuilt(t, text), impl.TreeOf(text); !sameBuilt(got, impl.BuildResult{Code: impl.ErrMany, Node: -1}) || made.Code != impl.OK {
		t.Errorf("BuildText(%q) = %+v, TreeOf: %d at %d", text, got, made.Code, made.At)
	}
}

func TestBuildTreesWithACode(t *testing.T) {
	codes := treesWithCodes(t)
	for _, code := range []int64{impl.ErrForm, impl.ErrMany, impl.ErrRange, impl.ErrNone, impl.ErrText, impl.ErrTaken, impl.ErrType, impl.ErrDeep, impl.ErrState} {
		for _, tree := range codes[code] {
			want := impl.BuildResult{Code: code, Node: impl.CheckTree(tree).Node}
			if got := checkTreeBuilt(t, tree); !sameBuilt(got, want) {
				t.Errorf("BuildTree(%s) = %+v, want %+v", showTree(tree), got, want)
			}
		}
		if len(codes[code]) == 0 {
			t.Errorf("no tree has the code %d", code)
		}
	}
	for _, tree := range []impl.Tree{program(t, "var ga:int; rtrig g(1);"), program(t, withCost(t, 1973)+"ctu z(1,1,1);"), program(t, codeOf(401)), program(t, regCodeOf(401)), longTree(impl.Node{Kind: impl.NodeFor, Name: "n", Far: 1})} {
		if got := checkTreeBuilt(t, tree); impl.CheckTree(tree).Code != impl.OK || got.Code == impl.OK || !sameBuilt(got, impl.BuildResult{Code: got.Code, Node: -1}) {
			t.Errorf("BuildTree(%s) = %+v", showTree(tree), got)
		}
	}
	for _, tree := range []impl.Tree{{}, {Vars: []impl.Var{}, Nodes: []impl.Node{}, Body: []int64{}}} {
		want := impl.Build{CodeA: []int64{13}, CodeB: []int64{13}, SumsA: []int64{0xCCA2}, SumsB: []int64{0xCCA2}, BudgetA: 1, BudgetB: 1}
		if got := checkTreeBuilt(t, tree); !sameBuilt(got, impl.BuildResult{Build: want}) {
			t.Errorf("BuildTree of nothing = %+v", got)
		}
	}
}

// withCode answers a build that has such code, with its sums.
func withCode(b impl.Build, codeA, codeB []int64) impl.Build {
	b.CodeA, b.CodeB = slices.Clone(codeA), slices.Clone(codeB)
	b.SumsA, b.SumsB = sumsTold(codeA), sumsTold(codeB)
	return b
}

// rightBuild has something in every list; what its code does is nothing that a build asks for.
func rightBuild() impl.Build {
	b := impl.Build{Cells: 4, Ports: []impl.Port{{Cell: 0}, {Cell: 3, Bool: true}}, Outs: []int64{1, 2, 3}, BudgetA: 20000, BudgetB: 7}
	return withCode(b, []int64{1, 2, 3, 4, 5, 6, 7, 8, 65535}, mixedWords(17, 5))
}

// changed answers a copy, that shares nothing, with a change.
func changed(b impl.Build, change func(b *impl.Build)) impl.Build {
	b.Ports, b.Outs = slices.Clone(b.Ports), slices.Clone(b.Outs)
	b.CodeA, b.CodeB, b.SumsA, b.SumsB = slices.Clone(b.CodeA), slices.Clone(b.CodeB), slices.Clone(b.SumsA), slices.Clone(b.SumsB)
	change(&b)
	return b
}

func checkBuildFault(t *testing.T, b impl.Build, want int64) {
	t.Helper()
	if got := checkBuild(t, b); got != want {
		t.Errorf("BuildFault(%+v) = %d, want %d", b, got, want)
	}
	if want != impl.OK && !sameInts(impl.PackBuild(b), impl.IntsResult{Code: want}) {
		t.Errorf("PackBuild(%+v) = %v, want %d", b, impl.PackBuild(b), want)
	}
}

func TestNumbersOfBuilds(t *testing.T) {
	right := rightBuild()
	checkBuildFault(t, right, impl.OK)
	checkBuildFault(t, impl.Build{}, impl.OK)
	bare := impl.Build{Ports: []impl.Port{}, Outs: []int64{}, CodeA: []int64{}, CodeB: []int64{}, SumsA: []int64{}, SumsB: []int64{}}
	checkBuildFault(t, bare, impl.OK)
	for _, n := range append([]int64{79, 80, 81, 19999, 20000, 20001}, oddNumbers...) {
		checkBuildFault(t, impl.Build{Cells: n}, rangeUnless(n >= 0 && n <= 80))
		checkBuildFault(t, impl.Build{BudgetA: n}, rangeUnless(n >= 0 && n <= 20000))
		checkBuildFault(t, impl.Build{BudgetB: n}, rangeUnless(n >= 0 && n <= 20000))
		checkBuildFault(t, changed(right, func(b *impl.Build) { b.Cells = n }), rangeUnless(n >= 4 && n <= 80))
		checkBuildFault(t, changed(right, func(b *impl.Build) { b.BudgetA = n }), rangeUnless(n >= 0 && n <= 20000))
		checkBuildFault(t, changed(right, func(b *impl.Build) { b.BudgetB = n }), rangeUnless(n >= 0 && n <= 20000))
	}
}

// As many Ports and Outs as there may be, whether they are the same cells or not.
func TestHowManyPortsAndOuts(t *testing.T) {
	ports := func(count int) []impl.Port { return make([]impl.Port, count) }
	for _, cells := range []int64{1, 60, 80} {
		checkBuildFault(t, impl.Build{Cells: cells, Ports: ports(24), Outs: make([]int64, 60)}, impl.OK)
		checkBuildFault(t, impl.Build{Cells: cells, Ports: ports(25), Outs: make([]int64, 60)}, impl.ErrMany)
		checkBuildFault(t, impl.Build{Cells: cells, Ports: ports(24), Outs: make([]int64, 61)}, impl.ErrMany)
		checkBuildFault(t, impl.Build{Cells: cells, Ports: ports(25)}, impl.ErrMany)
		checkBuildFault(t, impl.Build{Cells: cells, Outs: make([]int64, 61)}, impl.ErrMany)
		checkBuildFault(t, impl.Build{Cells: cells, Ports: ports(2000), Outs: make([]int64, 2000)}, impl.ErrMany)
	}
	// Whichever is too many is told ahead of what is no cell.
	checkBuildFault(t, impl.Build{Ports: ports(25)}, impl.ErrMany)
	checkBuildFault(t, impl.Build{Ports: ports(1), Outs: make([]int64, 61)}, impl.ErrMany)
	checkBuildFault(t, impl.Build{Ports: ports(24), Outs: make([]int64, 60)}, impl.ErrRange)
}

func TestCellsOfPortsAndOuts(t *testing.T) {
	for _, cells := range []int64{0, 1, 2, 79, 80} {
		for _, place := range append([]int64{2, 77, 78, 79, 80, 81, 99, 100, 101}, oddNumbers...) {
			want := rangeUnless(place >= 0 && place < cells)
			for _, truth := range []bool{false, true} {
				checkBuildFault(t, impl.Build{Cells: cells, Ports: []impl.Port{{Cell: place, Bool: truth}}}, want)
				if cells > 0 {
					checkBuildFault(t, impl.Build{Cells: cells, Ports: []impl.Port{{}, {Cell: cells - 1}, {Cell: place, Bool: truth}}, Outs: []int64{0}}, want)
					checkBuildFault(t, impl.Build{Cells: cells, Ports: []impl.Port{{Cell: place, Bool: truth}, {}}, Outs: []int64{cells - 1}}, want)
				}
			}
			checkBuildFault(t, impl.Build{Cells: cells, Outs: []int64{place}}, want)
			if cells > 0 {
				checkBuildFault(t, impl.Build{Cells: cells, Outs: []int64{0, cells - 1, place}, Ports: make([]impl.Port, 24)}, want)
				checkBuildFault(t, impl.Build{Cells: cells, Outs: []int64{place, 0}}, want)
			}
		}
	}
}

func TestCodeOfBuilds(t *testing.T) {
	right := rightBuild()
	for _, count := range []int{0, 1, 7, 8, 9, 392, 393, 399, 400, 401, 402, 1000} {
		code, many := mixedWords(count, uint64(count)), codeIf(impl.ErrMany, count > 400)
		checkBuildFault(t, withCode(right, code, right.CodeB), many)
		checkBuildFault(t, withCode(right, right.CodeA, code), many)
		checkBuildFault(t, withCode(right, code, code), many)
		checkBuildFault(t, withCode(impl.Build{}, code, nil), many)
		for _, word := range oddNumbers {
			if count == 0 {
				continue
			}
			fault := cmp.Or(many, rangeUnless(!isNoWord(word)))
			checkBuildFault(t, withCode(right, withWord(code, count-1, word), nil), fault)
			checkBuildFault(t, withCode(right, nil, withWord(code, count/2, word)), fault)
		}
	}
	// Of CodeA all is asked ahead of CodeB.
	noWord, tooLong := []int64{1, -1}, make([]int64, 401)
	checkBuildFault(t, withCode(right, noWord, tooLong), impl.ErrRange)
	checkBuildFault(t, withCode(right, tooLong, noWord), impl.ErrMany)
}

// Each list of sums: one too few, one too many, none, that of the other code, and each of them turned by one bit.
func TestSumsOfBuilds(t *testing.T) {
	right := rightBuild()
	lists := []func(b *impl.Build) *[]int64{func(b *impl.Build) *[]int64 { return &b.SumsA }, func(b *impl.Build) *[]int64 { return &b.SumsB }}
	for i, list := range lists {
		sums := *list(&right)
		wrong := [][]int64{nil, sums[1:], sums[:len(sums)-1], append(slices.Clone(sums), 0), append(slices.Clone(sums), 65535), append([]int64{65535}, sums...), *lists[1-i](&right), make([]int64, 2000)}
		for at, sum := range sums {
			for bit := range 64 {
				wrong = append(wrong, withWord(sums, at, sum^1<<bit))
			}
			for _, n := range oddNumbers {
				if n != sum {
					wrong = append(wrong, withWord(sums, at, n))
				}
			}
		}
		turned := slices.Clone(sums)
		slices.Reverse(turned)
		for _, other := range append(wrong, turned) {
			checkBuildFault(t, changed(right, func(b *impl.Build) { *list(b) = other }), impl.ErrSum)
		}
		checkBuildFault(t, changed(impl.Build{}, func(b *impl.Build) { *list(b) = []int64{65535} }), impl.ErrSum)
	}
	for at := range right.CodeA {
		checkBuildFault(t, changed(right, func(b *impl.Build) { b.CodeA[at] ^= 1 }), impl.ErrSum)
	}
	for at := range right.CodeB {
		checkBuildFault(t, changed(right, func(b *impl.Build) { b.CodeB[at] ^= 1 << (at % 16) }), impl.ErrSum)
	}
}

// Of two faults the one is told that the document names first.
func TestTwoFaultsOfABuild(t *testing.T) {
	type hurt struct {
		rank   int
		code   int64
		change func(b *impl.Build)
	}
	hurts := []hurt{
		{0, impl.ErrRange, func(b *impl.Build) { b.Cells = 81 }}, {0, impl.ErrRange, func(b *impl.Build) { b.BudgetA = -1 }}, {0, impl.ErrRange, func(b *impl.Build) { b.BudgetB = 20001 }},
		{1, impl.ErrMany, func(b *impl.Build) { b.Ports = append(b.Ports, make([]impl.Port, 23)...) }}, {1, impl.ErrMany, func(b *impl.Build) { b.Outs = append(b.Outs, make([]int64, 58)...) }},
		{2, impl.ErrRange, func(b *impl.Build) { b.Ports[0].Cell = 80 }}, {2, impl.ErrRange, func(b *impl.Build) { b.Outs[2] = -1 }},
		{3, impl.ErrMany, func(b *impl.Build) { b.CodeA = append(b.CodeA, make([]int64, 392)...) }}, {4, impl.ErrRange, func(b *impl.Build) { b.CodeA[8] = 65536 }},
		{5, impl.ErrMany, func(b *impl.Build) { b.CodeB = append(b.CodeB, make([]int64, 384)...) }}, {6, impl.ErrRange, func(b *impl.Build) { b.CodeB[0] = -1 }},
		{7, impl.ErrSum, func(b *impl.Build) { b.SumsA = b.SumsA[1:] }}, {7, impl.ErrSum, func(b *impl.Build) { b.SumsB = append(b.SumsB, 1) }},
	}
	for _, one := range hurts {
		checkBuildFault(t, changed(rightBuild(), one.change), one.code)
		for _, other := range hurts {
			first := one
			if other.rank < one.rank {
				first = other
			}
			checkBuildFault(t, changed(changed(rightBuild(), one.change), other.change), first.code)
		}
	}
}
