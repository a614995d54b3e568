package tests

import (
	"math"
	"reflect"
	"slices"
	"strings"
	"testing"

	"loop.example/g00251/impl"
)

func TestExpandOfNoise(t *testing.T) {
	codes := map[int64]int{}
	for _, text := range slices.Concat(callTexts(2500, 1), fitTexts(2500, 3)) {
		codes[checkExpanded(t, program(t, text)).Code]++
	}
	m := &programMaker{state: 13}
	for range 300 {
		if tree := impl.ParseText(m.program()); tree.Code == impl.OK {
			codes[checkExpanded(t, tree.Tree).Code]++
		}
	}
	for _, code := range []int64{impl.OK, impl.ErrForm, impl.ErrMany, impl.ErrRange, impl.ErrNone, impl.ErrText, impl.ErrTaken, impl.ErrType, impl.ErrState} {
		if codes[code] < 10 {
			t.Errorf("just %d programs have the code %d: %v", codes[code], code, codes)
		}
	}
}

// The least and the greatest numbers in every field, and every count of lists.
func TestExpandOfRandomFields(t *testing.T) {
	m := &programMaker{state: 53}
	for range 4000 {
		checkExpanded(t, randomTree(m))
	}
	codes := map[int64]int{}
	for _, text := range callTexts(300, 5) {
		right := program(t, text)
		for range 4 {
			hurt := copyTree(right)
			hurtTree(m, &hurt)
			codes[checkExpanded(t, hurt).Code]++
		}
	}
	if codes[impl.OK] < 20 || codes[impl.ErrForm] < 200 {
		t.Errorf("codes of trees that were hurt: %v", codes)
	}
	for _, text := range []string{allKinds, "in p:bool; var n:int[3]; if p then ctu c(p,not p,n[1]); else sr s(cq,p); end; ton t(p,7); rtrig r(tq);"} {
		right := program(t, text)
		for at := range right.Nodes {
			for _, n := range append([]int64{2, 3, 4, 5, 11}, oddNumbers...) {
				checkExpanded(t, withNode(right, at, func(node *impl.Node) { node.Kind = n }))
				checkExpanded(t, withNode(right, at, func(node *impl.Node) { node.Op = n }))
				checkExpanded(t, withNode(right, at, func(node *impl.Node) { node.Num = n }))
				checkExpanded(t, withNode(right, at, func(node *impl.Node) { node.Far = n }))
				checkExpanded(t, withNode(right, at, func(node *impl.Node) { node.Kids = append(node.Kids, n) }))
				checkExpanded(t, withNode(right, at, func(node *impl.Node) { node.Then = append(node.Then, n) }))
				checkExpanded(t, withNode(right, at, func(node *impl.Node) { node.Else = []int64{n} }))
			}
			for _, name := range []string{"", "a", "abcdefg", "abcdefgh", "abcdefghi", "if", "A", "\xff"} {
				checkExpanded(t, withNode(right, at, func(node *impl.Node) { node.Name = name }))
			}
		}
		for _, n := range oddNumbers {
			other := copyTree(right)
			other.Body = append(other.Body, n)
			checkExpanded(t, other)
			for _, v := range []impl.Var{{Name: "z", Kind: n, Type: 1}, {Name: "z", Kind: 1, Type: n}, {Name: "z", Kind: 1, Type: 1, Size: n}} {
				other = copyTree(right)
				other.Vars = append(other.Vars, v)
				checkExpanded(t, other)
			}
		}
	}
	if got := impl.HasCalls(impl.Tree{Nodes: []impl.Node{{Kind: math.MinInt64}, {Kind: math.MaxInt64}}}); got {
		t.Error("there are no calls")
	}
}

// expandedPair is a program with calls, and the one that does the same without.
type expandedPair struct {
	told, made impl.Tree
}

func expandedPairs(t *testing.T, count int, seed uint64) []expandedPair {
	t.Helper()
	m := &programMaker{state: seed}
	var pairs []expandedPair
	for n, text := range callTexts(count, seed) {
		tree := program(t, text)
		if n%3 == 0 {
			tree = otherOrder(m, tree)
		}
		if made := impl.ExpandTree(tree); made.Code == impl.OK && impl.HasCalls(tree) {
			pairs = append(pairs, expandedPair{tree, made.Tree})
		}
	}
	if len(pairs) < count/2 {
		t.Errorf("just %d of %d programs have calls that are told by statements", len(pairs), count)
	}
	return pairs
}

// Promise 8: what is answered may be run and has no calls; the variables that were there are there still, ahead of
// the blocks' own, each with the cells that it had.
func TestExpandedTreesMayBeRun(t *testing.T) {
	for _, pair := range expandedPairs(t, 1200, 4) {
		told, made := pair.told, pair.made
		if check := checkAll(t, made); check.Code != impl.OK || impl.HasCalls(made) {
			t.Fatalf("%s came of %s: %v", showTree(made), showTree(told), check)
		}
		if len(made.Vars) < len(told.Vars) || !slices.Equal(made.Vars[:len(told.Vars)], told.Vars) {
			t.Fatalf("the variables %v came of %v", made.Vars, told.Vars)
		}
		own, temps := impl.OwnNames(told).Names, impl.TempNames(told).Names
		var more []string
		for _, v := range made.Vars[len(told.Vars):] {
			if v.Kind != impl.VarOwn || v.Size != 0 {
				t.Fatalf("%s: the declaration %v", showTree(told), v)
			}
			more = append(more, v.Name)
		}
		if !slices.Equal(more, slices.Concat(own, temps)) {
			t.Fatalf("%s: %q is declared, of own %q and temps %q", showTree(told), more, own, temps)
		}
		for _, name := range slices.Concat(cellNames(told), own) {
			if a, b := impl.CellOf(told, name), impl.CellOf(made, name); a != b || a.Code != impl.OK {
				t.Fatalf("%s: %q has the cell %v, and then %v", showTree(told), name, a, b)
			}
		}
		if cells := impl.CellsOf(made).Value - impl.CellsOf(told).Value; cells != int64(len(temps)) {
			t.Fatalf("%s: %d cells more, of %q", showTree(told), cells, temps)
		}
		// Of what has no calls nothing else comes.
		if again := impl.ExpandTree(made); again.Code == impl.OK && showTree(again.Tree) != showTree(made) {
			t.Fatalf("%s came of %s", showTree(again.Tree), showTree(made))
		}
	}
}

// Promise 8: a program whose blocks are told by statements has the outputs that it had, up to the same code.
func TestExpandedTreesHaveTheSameOutputs(t *testing.T) {
	m := &programMaker{state: 71}
	whys, middle := map[int64]int{}, 0
	for _, pair := range expandedPairs(t, 1500, 8) {
		list := m.scansFor(pair.told, 25)
		told, made := checkScans(t, pair.told, list), checkScans(t, pair.made, list)
		if told.Code != impl.OK || !sameScans(told, made) {
			t.Fatalf("%s with %v: %v; %s: %v", showTree(pair.told), list, told, showTree(pair.made), made)
		}
		whys[told.Why]++
		if told.Failed > 0 {
			middle++
		}
		// In the cells that both have, too.
		cells := len(cellNames(pair.told))
		one, other := stepsOf(t, pair.told, list), stepsOf(t, pair.made, list)
		for at := range one {
			if one[at].Code == impl.OK && !slices.Equal(one[at].State.Cells, other[at].State.Cells[:cells]) {
				t.Fatalf("%s: behind scan %d %v; %s: %v", showTree(pair.told), at, one[at], showTree(pair.made), other[at])
			}
		}
	}
	if whys[impl.OK] < 100 || whys[impl.ErrNone] < 100 || whys[impl.ErrRange] < 100 || middle < 100 {
		t.Errorf("runs that end by a code: %v, %d of them behind the first scan", whys, middle)
	}
}

// Each block from any words of its own, with any words given: where bools are 0 or 1, as all are in what is scanned.
func TestExpandedBlocksFromAnyState(t *testing.T) {
	const head = "in a:bool; in b:bool; in c:int; "
	for _, call := range []string{"ctu x(a,b,c);", "ton x(a,c);", "rtrig x(a);", "sr x(a,b);", "ctu x(not xq,xm and b,xv + c);", "ton x(a,xv - c);", "rtrig x(not xq);", "sr x(a xor xq,b);"} {
		told := program(t, head+call)
		made := checkExpanded(t, told).Tree
		names, more := cellNames(told), len(cellNames(made))
		m := &programMaker{state: 6}
		for range 2500 {
			begin := m.words(more)
			for at, name := range names {
				if typ, _, _ := readable(told, name); typ == impl.TypeBool {
					begin[at] %= 2
				}
			}
			inputs := m.words(3)
			one, other := impl.ScanTree(told, impl.State{Cells: begin[:len(names)]}, inputs), impl.ScanTree(made, impl.State{Cells: begin}, inputs)
			if one.Code != impl.OK || other.Code != impl.OK || !slices.Equal(one.State.Cells, other.State.Cells[:len(names)]) {
				t.Fatalf("%q from %v with %v: %v, and then %v", call, begin, inputs, one, other)
			}
		}
	}
}

// checkBoth asks what both programs put out, and where and why they end.
func checkBoth(t *testing.T, text string, list [][]int64, failed, why int64, want ...[]int64) {
	t.Helper()
	tree := program(t, text)
	made := checkExpanded(t, tree)
	wanted := impl.ScansResult{Failed: failed, Why: why, Outs: want}
	if told := checkScans(t, tree, list); !sameScans(told, wanted) {
		t.Errorf("RunScans(%q, %v) = %v; want %v", text, list, told, wanted)
	}
	if got := checkScans(t, made.Tree, list); made.Code != impl.OK || !sameScans(got, wanted) {
		t.Errorf("told by statements (code %d): RunScans(%q, %v) = %v; want %v", made.Code, text, list, got, wanted)
	}
}

func TestOutputsOfBothByHand(t *testing.T) {
	const counts = "in p:bool; in r:bool; out q:bool; out v:int; ctu c(p, r, 2); q := cq; v := cv;"
	checkBoth(t, counts, [][]int64{{1, 0}, {1, 0}, {0, 0}, {7, 0}, {0, 0}, {1, 0}, {1, 1}, {0, 0}, {1, 0}}, -1, 0, []int64{0, 1}, []int64{0, 1}, []int64{0, 1}, []int64{1, 2}, []int64{1, 2}, []int64{1, 3}, []int64{0, 0}, []int64{0, 0}, []int64{0, 1})
	checkBoth(t, "in p:bool; out q:bool; out v:int; ton c(p, 2); q := cq; v := cv;", [][]int64{{1}, {1}, {1}, {0}, {9}}, -1, 0, []int64{0, 1}, []int64{1, 2}, []int64{1, 2}, []int64{0, 0}, []int64{0, 1})
	checkBoth(t, "in p:bool; out q:bool; rtrig c(p); q := cq;", [][]int64{{0}, {1}, {2}, {0}, {0}, {3}, {1}}, -1, 0, []int64{0}, []int64{1}, []int64{0}, []int64{0}, []int64{0}, []int64{1}, []int64{0})
	checkBoth(t, "in s:bool; in r:bool; out q:bool; sr c(s, r); q := cq;", [][]int64{{0, 0}, {1, 0}, {0, 0}, {0, 1}, {0, 0}, {1, 1}, {0, 0}}, -1, 0, []int64{0}, []int64{1}, []int64{1}, []int64{0}, []int64{0}, []int64{1}, []int64{1})
	checkBoth(t, "in p : bool; out u : bool; rtrig g(p); u := gq;", [][]int64{{0}, {1}, {1}, {0}, {5}}, -1, 0, []int64{0}, []int64{1}, []int64{0}, []int64{0}, []int64{1})
	// Within an if, so that an edge is held over scans in which the block was not called.
	checkBoth(t, "in p:bool; in c:bool; out u:bool; if p then rtrig g(c); end; u := gq;", [][]int64{{1, 0}, {0, 1}, {1, 1}, {0, 0}, {1, 1}, {1, 0}, {1, 1}}, -1, 0, []int64{0}, []int64{0}, []int64{1}, []int64{1}, []int64{0}, []int64{0}, []int64{1})
	checkBoth(t, "in p:bool; in c:bool; out u:bool; if p then u := 1; else sr g(c,u); u := gq; end;", [][]int64{{0, 0}, {0, 1}, {0, 0}, {1, 0}, {0, 0}}, -1, 0, []int64{0}, []int64{1}, []int64{0}, []int64{1}, []int64{0})
	// Rows among the variables, of which an input that is one stays as it is.
	checkBoth(t, "in r:bool[2]; in p:bool; out s:int[2]; out f:bool[2]; ton t(p or r[1], 1); s[1] := tv; f[0] := tq;", [][]int64{{1}, {0}}, -1, 0, []int64{0, 1, 1, 0}, []int64{0, 0, 0, 0})
	// A code in a Kid, ahead of a call and behind it: of what was put out ahead nothing changes.
	const divides = "in a:int; out v:int; ctu c(1 / a = 1, 0, 9); v := cv;"
	checkBoth(t, divides, [][]int64{{1}, {2}, {1}, {0}, {1}}, 3, impl.ErrNone, []int64{1}, []int64{1}, []int64{2})
	checkBoth(t, "in a:int; out v:int; var r:int[2]; ton c(1, r[a]); v := cv + 1;", [][]int64{{1}, {0}, {2}}, 2, impl.ErrRange, []int64{1}, []int64{1})
	checkBoth(t, "in a:int; out v:int; sr c(1, 0); v := 6 / a; rtrig d(cq);", [][]int64{{1}, {6}, {0}}, 2, impl.ErrNone, []int64{6}, []int64{1})
	// Of two Kids with a code the first one is told.
	checkBoth(t, "in a:int; var r:bool[2]; sr c(r[a], 1 / (2 - a) = 1);", [][]int64{{1}, {2}}, 1, impl.ErrRange, nil)
	checkBoth(t, "in a:int; var r:bool[2]; sr c(1 / (2 - a) = 1, r[a]);", [][]int64{{1}, {2}}, 1, impl.ErrNone, nil)
}

// Of Nodes in another order the same comes out, too.
func TestOutputsOfOtherOrders(t *testing.T) {
	m := &programMaker{state: 83}
	turned := 0
	for _, text := range callTexts(250, 15) {
		tree := program(t, text)
		other := otherOrder(m, tree)
		one, made := checkExpanded(t, tree), checkExpanded(t, other)
		if one.Code != impl.OK || made.Code != impl.OK {
			continue
		}
		list := m.scansFor(tree, 15)
		if told, got := impl.RunScans(tree, list), impl.RunScans(made.Tree, list); !sameScans(told, got) {
			t.Fatalf("%s: %v; %s: %v", showTree(tree), told, showTree(other), got)
		}
		if !slices.Equal(impl.OwnNames(tree).Names, impl.OwnNames(other).Names) {
			turned++
		}
	}
	if turned < 30 {
		t.Errorf("just %d times calls stood in another order", turned)
	}
}

// What was given keeps every bound, and what comes of it does not.
func TestNodesThatComeToBeTooMany(t *testing.T) {
	const head = "var n:int; "
	for sets := range 97 {
		text := head + strings.Repeat("n:=1;", sets) + "ctu c(1,1,1);"
		got := checkExpanded(t, program(t, text))
		// A call has 4 nodes, and then 30.
		if nodes := 2*sets + 30; nodes > 200 && !sameTrees(got, impl.TreeResult{Code: impl.ErrMany, At: -1}) || got.Code == impl.OK && len(got.Tree.Nodes) != nodes {
			t.Errorf("%d sets: code %d at %d, %d nodes", sets, got.Code, got.At, len(got.Tree.Nodes))
		}
	}
	long := strings.Repeat("abcdefgh:=abcdefgh+abcdefgh;", 38)
	checkUnexpanded(t, "var abcdefgh:int;"+long, impl.ErrMany, -1)
	checkUnexpanded(t, "var abcdefgh:int; rtrig c(1);"+long, impl.ErrMany, -1)
}

// Promise 1: every function answers, and changes none of its arguments, nor what lies behind them.
func TestExpandChangesNoArgument(t *testing.T) {
	m := &programMaker{state: 59}
	texts := callTexts(700, 12)
	for i := range 1000 {
		tree := randomTree(m)
		if i%4 > 0 {
			tree = program(t, texts[i%len(texts)])
		}
		given, before := roomyTree(tree), roomyTree(tree)
		impl.HasCalls(given)
		impl.OwnNames(given)
		impl.TempNames(given)
		impl.ExpandTree(given)
		if !reflect.DeepEqual(wholeTree(given), wholeTree(before)) {
			t.Fatalf("the tree %s was changed", showTree(tree))
		}
	}
}

// listsOf answers where each list of a tree is.
func listsOf(t *impl.Tree) []*[]int64 {
	lists := []*[]int64{&t.Body}
	for i := range t.Nodes {
		node := &t.Nodes[i]
		lists = append(lists, &node.Kids, &node.Then, &node.Else)
	}
	return lists
}

// Promise 1: what is told is new memory, and no two lists of one answer share any.
func TestExpandedTreesAreNewMemory(t *testing.T) {
	texts := append(callTexts(200, 18), "", declared, "in p:bool; in r:int[3]; if p then r_ := 1; end;", "var a:int; a := 1;")
	for _, text := range texts {
		tree := program(t, text)
		given := showTree(tree)
		first, second := impl.ExpandTree(tree), impl.ExpandTree(tree)
		want := showTree(second.Tree)
		for i, list := range listsOf(&first.Tree) {
			overwrite(*list, int64(-1-i))
		}
		for i, list := range listsOf(&first.Tree) {
			for _, place := range (*list)[:cap(*list)] {
				if place != int64(-1-i) {
					t.Fatalf("%q: two lists of the tree share memory", text)
				}
			}
		}
		clear(first.Tree.Vars[:cap(first.Tree.Vars)])
		clear(first.Tree.Nodes[:cap(first.Tree.Nodes)])
		if showTree(tree) != given || showTree(second.Tree) != want || showTree(impl.ExpandTree(tree).Tree) != want {
			t.Fatalf("%q: a change to an answer is seen elsewhere", text)
		}
	}
}

func TestNamesOfCallsAreNewMemory(t *testing.T) {
	tree := program(t, strings.Clone("in p:bool; sr abc(p,p); ton abcd(abcq,1);"))
	given := map[string][]string{"own": impl.OwnNames(tree).Names, "temps": impl.TempNames(tree).Names}
	again := map[string][]string{"own": impl.OwnNames(tree).Names, "temps": impl.TempNames(tree).Names}
	want := map[string][]string{"own": {"abcq", "abcdv", "abcdq"}, "temps": {"abca", "abcb", "abcda", "abcdb"}}
	for key, names := range given {
		for i, name := range names {
			for _, node := range tree.Nodes {
				if node.Name != "" && sharesBytes(name, node.Name) || sharesBytes(name, again[key][i]) {
					t.Errorf("the name %q lies elsewhere", name)
				}
			}
		}
		clear(names[:cap(names)])
	}
	if !reflect.DeepEqual(again, want) || !slices.Equal(impl.OwnNames(tree).Names, want["own"]) || !slices.Equal(impl.TempNames(tree).Names, want["temps"]) {
		t.Errorf("a change to an answer is seen elsewhere: %v", again)
	}
	made := impl.ExpandTree(tree).Tree
	for _, v := range made.Vars {
		for _, node := range tree.Nodes {
			if node.Name != "" && sharesBytes(v.Name, node.Name) {
				t.Errorf("the name of %v lies within the tree that was given", v)
			}
		}
	}
}

// Promise 1: an answer hangs on the arguments alone, whatever was asked ahead.
func TestExpandHangsOnArgumentsAlone(t *testing.T) {
	type answers struct {
		calls      bool
		own, temps impl.NamesResult
		tree       impl.TreeResult
	}
	ask := func(tree impl.Tree) answers {
		return answers{impl.HasCalls(tree), impl.OwnNames(tree), impl.TempNames(tree), impl.ExpandTree(tree)}
	}
	texts := slices.Concat(callTexts(250, 22), fitTexts(100, 27))
	var told []answers
	for _, text := range texts {
		told = append(told, ask(program(t, text)))
	}
	for i, text := range slices.Backward(texts) {
		if got := ask(copyTree(program(t, strings.Clone(text)))); !reflect.DeepEqual(got, told[i]) {
			t.Fatalf("another answer of %q", text)
		}
	}
}
