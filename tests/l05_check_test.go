package tests

import (
	"reflect"
	"slices"
	"strconv"
	"strings"
	"testing"

	"loop.example/g00251/impl"
)

// declared is what stands ahead of the programs that are written by hand; w is a block with cells of its own.
const declared = "in i:int; in p:bool; in ri:int[2]; out o:int; out b:bool; var n:int; var k:int; var f:bool; var rn:int[3]; var rb:bool[2]; "

// program reads a text that is known to be a program.
func program(t *testing.T, text string) impl.Tree {
	t.Helper()
	read := impl.ParseText(text)
	if read.Code != impl.OK {
		t.Fatalf("ParseText(%q): code %d at %d", text, read.Code, read.At)
	}
	return read.Tree
}

// nodeShown answers the node as showNode shows it, and nothing where it is told that there is none.
func nodeShown(tree impl.Tree, node int64) string {
	if node < 0 || node >= int64(len(tree.Nodes)) {
		return ""
	}
	return showNode(tree.Nodes[node])
}

// checkTold asks that the program has the code, and that the node that is told is the one that is shown; "" where it is -1.
func checkTold(t *testing.T, text string, code int64, shown string) {
	t.Helper()
	tree := program(t, text)
	got := checkAll(t, tree)
	none := code != impl.OK && shown == "" && got.Node != -1
	if got.Code != code || code != impl.OK && nodeShown(tree, got.Node) != shown || none || code != impl.OK && got.Budget != 0 {
		t.Errorf("CheckTree(%q) = %v, that is %q; want the code %d, %q\n%s", text, got, nodeShown(tree, got.Node), code, shown, showTree(tree))
	}
}

func checkRuns(t *testing.T, text string) {
	t.Helper()
	checkTold(t, text, impl.OK, "")
	if got := impl.CheckTree(program(t, text)); got.Node != 0 || got.Budget < 1 {
		t.Errorf("CheckTree(%q) = %v", text, got)
	}
}

// checkType asks for the type of an expression by itself; a word is told of it: int, bool, or the node that is told with the code.
func checkType(t *testing.T, expression string, code int64, shown string) {
	t.Helper()
	tree := program(t, declared+"x := "+expression+"; ctu u(p,p,1); ton t(p,1); rtrig r(p); sr w(p,p);")
	set := slices.IndexFunc(tree.Nodes, func(node impl.Node) bool { return node.Kind == impl.NodeSet })
	got := impl.TypeOf(tree, tree.Nodes[set].Kids[0])
	want := impl.TypeResult{Type: int64(slices.Index([]string{"", "int", "bool"}, shown))}
	if code != impl.OK {
		want = impl.TypeResult{Code: code, Node: got.Node}
		if nodeShown(tree, got.Node) != shown {
			want.Node = -2
		}
	}
	if got != want {
		t.Errorf("TypeOf(%q) = %v, that is %q; want the code %d, %q", expression, got, nodeShown(tree, got.Node), code, shown)
	}
	checkAll(t, tree)
}

func TestTypesOfLeaves(t *testing.T) {
	for _, number := range []string{"0", "1", "2", "65535", "true", "false", "16#1"} {
		checkType(t, number, impl.OK, "int")
	}
	for _, name := range []string{"i", "o", "n", "k", "uv", "tv", "ri[0]", "rn[7]", "rn[n]"} {
		checkType(t, name, impl.OK, "int")
	}
	for _, name := range []string{"p", "b", "f", "um", "uq", "tq", "rm", "rq", "wq", "rb[0]", "rb[n]"} {
		checkType(t, name, impl.OK, "bool")
	}
	for _, name := range []string{"ri", "rn", "rb"} {
		checkType(t, name, impl.ErrForm, "name."+name)
	}
	for _, name := range []string{"y", "u", "t", "r", "w", "ua", "tm", "rv", "wv", "wm", "v", "m", "q", "uvv", "qu"} {
		checkType(t, name, impl.ErrNone, "name."+name)
	}
	item := func(name string) string {
		tree := program(t, declared+"x := "+name+"[0];")
		return showNode(tree.Nodes[1])
	}
	for _, name := range []string{"i", "o", "n", "p", "b", "f"} {
		checkType(t, name+"[0]", impl.ErrForm, item(name))
	}
	// One of a block's own is a name alone.
	for _, name := range []string{"y", "u", "uv", "um", "uq", "tv", "tq", "rm", "rq", "wq", "rnv"} {
		checkType(t, name+"[0]", impl.ErrNone, item(name))
	}
}

func TestTypesOfSigns(t *testing.T) {
	checkType(t, "-n", impl.OK, "int")
	checkType(t, "-1", impl.OK, "int")
	checkType(t, "-true", impl.OK, "int")
	checkType(t, "- - rn[1]", impl.OK, "int")
	checkType(t, "-p", impl.ErrType, "name.p")
	checkType(t, "-rb[1]", impl.ErrType, "item.rb(0)")
	checkType(t, "- not p", impl.ErrType, "not(0)")
	checkType(t, "not p", impl.OK, "bool")
	checkType(t, "not not rb[0]", impl.OK, "bool")
	checkType(t, "not n", impl.ErrType, "name.n")
	checkType(t, "not -n", impl.ErrType, "neg(0)")
	checkType(t, "not (n + 1)", impl.ErrType, "two.1(0,1)")
	checkType(t, "not 0", impl.OK, "bool")
	checkType(t, "not 1", impl.OK, "bool")
	checkType(t, "not true", impl.OK, "bool")
	checkType(t, "not 2", impl.ErrType, "num#2")
	checkType(t, "not 65535", impl.ErrType, "num#65535")
	checkType(t, "not -1", impl.ErrType, "neg(0)")
	checkType(t, "- y", impl.ErrNone, "name.y")
	checkType(t, "not rb", impl.ErrForm, "name.rb")
}

// Each op with numbers, ints and bools on either side.
func TestTypesOfEachOp(t *testing.T) {
	sides := []struct{ text, shown, fits string }{
		{"0", "num", "int bool"}, {"1", "num#1", "int bool"}, {"2", "num#2", "int"}, {"n", "name.n", "int"}, {"uv", "name.uv", "int"},
		{"p", "name.p", "bool"}, {"uq", "name.uq", "bool"},
	}
	for op, sign := range treeOps {
		wanted, told := "int", "int"
		if op+1 >= impl.OpAnd {
			told = "bool"
		}
		if op+1 >= impl.OpAnd && op+1 <= impl.OpXor {
			wanted = "bool"
		}
		for _, left := range sides {
			for _, right := range sides {
				text := left.text + " " + sign + " " + right.text
				leftFits, rightFits := strings.Contains(left.fits, wanted), strings.Contains(right.fits, wanted)
				if op+1 == impl.OpSame {
					leftFits, rightFits = sameFits(left.text, left.fits, right.fits)
				}
				switch {
				case !leftFits:
					checkType(t, text, impl.ErrType, left.shown)
				case !rightFits:
					checkType(t, text, impl.ErrType, right.shown)
				default:
					checkType(t, text, impl.OK, told)
				}
			}
		}
	}
}

// sameFits tells of `=` whether its sides fit.
func sameFits(left, leftFits, rightFits string) (bool, bool) {
	if strings.Contains("012", left) {
		// A number hangs on the right side: just a bool there makes it one.
		return rightFits != "bool" || strings.Contains(leftFits, "bool"), true
	}
	return true, strings.Contains(rightFits, leftFits)
}

func TestTypesOfSame(t *testing.T) {
	for _, right := range []string{"1 = 2", "0 = 1", "2 = 2", "n = 2", "2 = n", "1 = n", "n = k", "p = 1", "p = 0", "1 = p", "0 = p", "p = f", "true = p", "p = not p",
		"1 = not p", "(1 = 2) = p", "p = (1 = 2)", "1 = (2 = 3)", "(n = 1) = (k = 2)", "n = -1", "-1 = 1", "n <> 2", "p <> 1", "0 <> p"} {
		checkType(t, right, impl.OK, "bool")
	}
	checkType(t, "2 = p", impl.ErrType, "num#2")
	checkType(t, "p = 2", impl.ErrType, "num#2")
	checkType(t, "n = p", impl.ErrType, "name.p")
	checkType(t, "p = n", impl.ErrType, "name.n")
	checkType(t, "-1 = p", impl.ErrType, "name.p")
	checkType(t, "p = -1", impl.ErrType, "neg(1)")
	checkType(t, "7 = (1 = 1)", impl.ErrType, "num#7")
	checkType(t, "(1 = 1) = 7", impl.ErrType, "num#7")
	checkType(t, "(1 + 1) = p", impl.ErrType, "name.p")
	checkType(t, "p = (1 + 1)", impl.ErrType, "two.1(1,2)")
	checkType(t, "y = z", impl.ErrNone, "name.y")
	checkType(t, "n = y", impl.ErrNone, "name.y")
	checkType(t, "n <> p", impl.ErrType, "name.p")
}

// A number on the left is held against what the right side is, ahead of all that is met in the right side.
func TestNumberOnTheLeftOfSame(t *testing.T) {
	for _, right := range []string{"not n", "not y", "not rb", "(n and p)", "(y or z)", "(p xor 7)", "(p < n)", "(p + 1 < 3)", "(y < z)", "(n = p)", "(y = z)", "(2 = p)", "rb[p]", "rb[y]", "rb[rn]",
		"p", "uq", "not p", "(p and f)", "(1 < 2)", "rb[0]",
		// What its name stands for is bool, whether or not it may stand there.
		"rb", "p[0]", "p[y]", "uq[0]"} {
		checkType(t, "5 = "+right, impl.ErrType, "num#5")
		checkType(t, "5 <> "+right, impl.ErrType, "num#5")
		checkType(t, "2 = "+right, impl.ErrType, "num#2")
		checkType(t, "65535 = "+right, impl.ErrType, "num#65535")
	}
	// Of 0 and 1, that fit both, and where the right side is an int or stands for nothing, it is the right side that is told.
	for _, number := range []string{"0", "1", "true", "false"} {
		checkType(t, number+" = not 7", impl.ErrType, "num#7")
		checkType(t, number+" = not n", impl.ErrType, "name.n")
		checkType(t, number+" = rb[p]", impl.ErrType, "name.p")
		checkType(t, number+" = (p + 1 < 3)", impl.ErrType, "name.p")
		checkType(t, number+" = rb", impl.ErrForm, "name.rb")
	}
	for _, number := range []string{"0", "1", "2", "5", "65535"} {
		checkType(t, number+" = y", impl.ErrNone, "name.y")
		checkType(t, number+" = y[z]", impl.ErrNone, shownItem(t, "y[z]"))
		checkType(t, number+" = (p + 1)", impl.ErrType, "name.p")
		checkType(t, number+" = (y mod 0)", impl.ErrNone, "name.y")
		checkType(t, number+" = -p", impl.ErrType, "name.p")
		checkType(t, number+" = rn", impl.ErrForm, "name.rn")
		checkType(t, number+" = rn[p]", impl.ErrType, "name.p")
	}
	// A number within brackets is one; one behind a sign is none.
	checkType(t, "(5) = not n", impl.ErrType, "num#5")
	checkType(t, "-5 = not n", impl.ErrType, "name.n")
	checkType(t, "-5 = not p", impl.ErrType, "not(2)")
}

// shownItem answers the item as it is shown where one node stands ahead of its kid.
func shownItem(t *testing.T, item string) string {
	tree := program(t, "x := 1 = "+item+";")
	return showNode(tree.Nodes[2])
}

// The same of a whole program: the statement tells what its kid tells.
func TestNumberOnTheLeftOfSameInStatements(t *testing.T) {
	for _, statement := range []string{"f := %;", "rb[0] := %;", "if % then end;", "rtrig r(%);", "sr w(p, not %);", "f := not (p and %);"} {
		checkTold(t, declared+strings.Replace(statement, "%", "(5 = (not 7))", 1), impl.ErrType, "num#5")
		checkTold(t, declared+strings.Replace(statement, "%", "(3 <> (7 and p))", 1), impl.ErrType, "num#3")
		checkTold(t, declared+strings.Replace(statement, "%", "(1 = (not 7))", 1), impl.ErrType, "num#7")
		checkTold(t, declared+strings.Replace(statement, "%", "(5 = (p + 1))", 1), impl.ErrType, "name.p")
		checkTold(t, declared+strings.Replace(statement, "%", "(5 = zz)", 1), impl.ErrNone, "name.zz")
	}
}

// Which node is told where several do not fit.
func TestWhichNodeIsTold(t *testing.T) {
	checkType(t, "p + f", impl.ErrType, "name.p")
	checkType(t, "n and k", impl.ErrType, "name.n")
	checkType(t, "1 + p", impl.ErrType, "name.p")
	checkType(t, "p < f", impl.ErrType, "name.p")
	checkType(t, "f > p", impl.ErrType, "name.p")
	checkType(t, "2 and 3", impl.ErrType, "num#2")
	checkType(t, "1 and 3", impl.ErrType, "num#3")
	// The name of an item is asked ahead of its kid, and its type behind it.
	checkType(t, "y[p]", impl.ErrNone, "item.y(0)")
	checkType(t, "y[z]", impl.ErrNone, "item.y(0)")
	checkType(t, "n[p]", impl.ErrForm, "item.n(0)")
	checkType(t, "n[rn]", impl.ErrForm, "item.n(0)")
	checkType(t, "rn[p]", impl.ErrType, "name.p")
	checkType(t, "rn[rb[0]]", impl.ErrType, "item.rb(0)")
	checkType(t, "rn[rn]", impl.ErrForm, "name.rn")
	checkType(t, "rn[y]", impl.ErrNone, "name.y")
	checkType(t, "rn[y[z]]", impl.ErrNone, "item.y(0)")
	checkType(t, "not rn[y]", impl.ErrNone, "name.y")
	checkType(t, "not rn[p]", impl.ErrType, "name.p")
	checkType(t, "not rn[n]", impl.ErrType, "item.rn(0)")
	// What is within ahead of that in which it is.
	checkType(t, "not (p + 1)", impl.ErrType, "name.p")
	checkType(t, "-(n and p)", impl.ErrType, "name.n")
	checkType(t, "(p + 1) and f", impl.ErrType, "name.p")
	checkType(t, "(n + 1) and y", impl.ErrType, "two.1(0,1)")
	checkType(t, "(n + y) and z", impl.ErrNone, "name.y")
	// The left kid is asked to its end ahead of the right one.
	checkType(t, "p + y", impl.ErrType, "name.p")
	checkType(t, "p + (f + 1)", impl.ErrType, "name.p")
	checkType(t, "n + (f + y)", impl.ErrType, "name.f")
	checkType(t, "n and (f + 1)", impl.ErrType, "name.n")
	checkType(t, "y + z", impl.ErrNone, "name.y")
	checkType(t, "rn + y", impl.ErrForm, "name.rn")
	checkType(t, "y + rn", impl.ErrNone, "name.y")
	checkType(t, "y + p", impl.ErrNone, "name.y")
	checkType(t, "(1 < 2) < p", impl.ErrType, "two.9(0,1)")
}

func TestTypeOfNoExpression(t *testing.T) {
	tree := program(t, declared+"n := 1; rn[0] := 2; if p then end; for k := 0 to 1 do end; rtrig r(p);")
	for at, node := range tree.Nodes {
		got := impl.TypeOf(tree, int64(at))
		if node.Kind >= impl.NodeSet && got != (impl.TypeResult{Code: impl.ErrRange, Node: -1}) || node.Kind < impl.NodeSet && got.Code != impl.OK {
			t.Errorf("TypeOf of %s = %v", showNode(node), got)
		}
	}
	for _, at := range append([]int64{int64(len(tree.Nodes))}, oddNumbers...) {
		if at >= 0 && at < int64(len(tree.Nodes)) {
			continue
		}
		if got := impl.TypeOf(tree, at); got != (impl.TypeResult{Code: impl.ErrRange, Node: -1}) {
			t.Errorf("TypeOf at %d = %v", at, got)
		}
		if got := impl.CostOf(tree, at); got != (impl.IntResult{Code: impl.ErrRange}) {
			t.Errorf("CostOf at %d = %v", at, got)
		}
	}
	checkAll(t, tree)
	if got := impl.TypeOf(impl.Tree{}, 0); got != (impl.TypeResult{Code: impl.ErrRange, Node: -1}) {
		t.Errorf("TypeOf of nothing = %v", got)
	}
}

// A tree with a fault: its code alone, whatever is asked.
func TestTreesWithAFault(t *testing.T) {
	right := program(t, declared+"n := 1; rtrig r(p);")
	faulty := map[int64]func(tree *impl.Tree){
		impl.ErrMany:  func(tree *impl.Tree) { tree.Vars = slices.Repeat(tree.Vars, 3) },
		impl.ErrText:  func(tree *impl.Tree) { tree.Vars[0].Name = "if" },
		impl.ErrRange: func(tree *impl.Tree) { tree.Vars[0].Size = 9 },
		impl.ErrForm:  func(tree *impl.Tree) { tree.Body = nil },
		impl.ErrDeep:  func(tree *impl.Tree) { *tree = chainOf(19) },
	}
	for code, change := range faulty {
		tree := copyTree(right)
		change(&tree)
		checkAll(t, tree)
		if got := impl.CheckTree(tree); got != (impl.CheckResult{Code: code, Node: -1}) {
			t.Errorf("fault %d: CheckTree %v", code, got)
		}
		for _, at := range []int64{-1, 0, 1, 99} {
			if got := impl.TypeOf(tree, at); got != (impl.TypeResult{Code: code, Node: -1}) {
				t.Errorf("fault %d: TypeOf %v", code, got)
			}
			if got := impl.CostOf(tree, at); got != (impl.IntResult{Code: code}) {
				t.Errorf("fault %d: CostOf %v", code, got)
			}
		}
		for _, kind := range []int64{0, 1, 4} {
			if got := impl.NamesOf(tree, kind); got.Code != code || len(got.Names) != 0 {
				t.Errorf("fault %d: NamesOf %v", code, got)
			}
		}
		if impl.CellsOf(tree) != (impl.IntResult{Code: code}) || impl.CellOf(tree, "n") != (impl.IntResult{Code: code}) || impl.CellOf(tree, "") != (impl.IntResult{Code: code}) {
			t.Errorf("fault %d: CellsOf %v, CellOf %v", code, impl.CellsOf(tree), impl.CellOf(tree, "n"))
		}
	}
}

func TestNamesThatAreTaken(t *testing.T) {
	for _, text := range []string{"var a:int; var a:int;", "in a:int; out a:bool;", "var a:int[2]; var b:int; var a:bool;", "sr s(1,1); sr s(1,1);", "ctu s(1,1,1); rtrig s(1);", "rtrig s(1); ton s(1,1);",
		"var sq:bool; sr s(1,1);", "var sv:int[3]; ton s(1,1);", "in sm:bool; rtrig s(1);", "out sv:bool; ctu s(1,1,1);", "var sm:int; ctu s(1,1,1);", "var sq:int; ctu s(1,1,1);", "in sq:bool; ton s(1,1);",
		"out sq:bool; rtrig s(1);", "var a:int; x := 1; if 1 then sr s(1,1); else sr s(1,1); end;", "if 1 then rtrig a(1); end; for y := 0 to 1 do ton a(1,1); end;",
		// Ahead of a name that is too long, wherever it stands.
		"sr abcdefgh(1,1); sr s(1,1); sr s(1,1);", "var a:int; var a:int; sr abcdefgh(1,1);", "sr abcdefgh(1,1); ton abcdefgh(1,1);",
		// Ahead of all that is told of statements.
		"var a:int; var a:int; y := z; sr s(1);"} {
		checkTold(t, text, impl.ErrTaken, "")
	}
	for _, text := range []string{"var s:int; sr s(1,1);", "var sa:int; var sm:int; sr s(1,1);", "var sm:int; ton s(1,1);", "var sv:int; rtrig s(1);", "sr s(1,1); sr sq(1,1);", "ctu a(1,1,1); ctu av(1,1,1); ctu avm(1,1,1);",
		"var a:int; var b:int; var aa:int;", "sr a(1,1); rtrig b(1); ton c(1,1); ctu d(1,1,1);"} {
		checkRuns(t, text)
	}
}

func TestOwnNamesThatAreTooLong(t *testing.T) {
	for _, call := range []string{"ctu %(1,1,1);", "ton %(1,1);", "rtrig %(1);", "sr %(1,1);"} {
		checkTold(t, strings.Replace(call, "%", "abcdefgh", 1), impl.ErrText, "")
		checkTold(t, "y := z;"+strings.Replace(call, "%", "abcdefgh", 1)+"sr s(2);", impl.ErrText, "")
		checkRuns(t, strings.Replace(call, "%", "abcdefg", 1))
		tree := program(t, strings.Replace(call, "%", "abcdefgh", 1))
		if got := impl.CellOf(tree, "abcdefghq"); got != (impl.IntResult{Value: impl.CellsOf(tree).Value - 1}) {
			t.Errorf("%q: CellOf of what is no name = %v", call, got)
		}
	}
}

func TestWhatIsSet(t *testing.T) {
	calls := "ctu u(p,p,1); ton t(p,1); rtrig r(p); sr w(p,p);"
	for _, right := range []string{"o := 1;", "b := 1;", "b := p;", "n := i;", "f := not f;", "k := rn[1];", "f := uq; n := uv; f := tq; n := tv; f := rm; f := wq;", "rn[0] := 1;", "rb[n] := p;", "rb[0] := 1;", "rn[i] := ri[0];", "o := o; b := b;"} {
		checkRuns(t, declared+right+calls)
	}
	for _, name := range []string{"y", "u", "uv", "um", "uq", "tv", "tq", "rm", "rq", "wq"} {
		checkTold(t, declared+name+" := 1;"+calls, impl.ErrNone, "set."+name+"(0)")
		checkTold(t, declared+name+" := y;"+calls, impl.ErrNone, "set."+name+"(0)")
		checkTold(t, declared+name+"[0] := 1;"+calls, impl.ErrNone, "put."+name+"(0,1)")
		checkTold(t, declared+name+"[y] := y;"+calls, impl.ErrNone, "put."+name+"(0,1)")
		checkTold(t, declared+"for "+name+" := 0 to 1 do end;"+calls, impl.ErrNone, "for."+name+"..1")
	}
	for _, name := range []string{"ri", "rn", "rb"} {
		checkTold(t, declared+name+" := 1;", impl.ErrForm, "set."+name+"(0)")
		checkTold(t, declared+name+" := y;", impl.ErrForm, "set."+name+"(0)")
		checkTold(t, declared+name+" := "+name+";", impl.ErrForm, "set."+name+"(0)")
	}
	for _, name := range []string{"i", "p", "o", "b", "n", "f"} {
		checkTold(t, declared+name+"[0] := 1;", impl.ErrForm, "put."+name+"(0,1)")
		checkTold(t, declared+name+"[p] := y;", impl.ErrForm, "put."+name+"(0,1)")
	}
	checkTold(t, declared+"i := 1;", impl.ErrState, "set.i(0)")
	checkTold(t, declared+"p := 1;", impl.ErrState, "set.p(0)")
	checkTold(t, declared+"i := p;", impl.ErrState, "set.i(0)")
	checkTold(t, declared+"i := y;", impl.ErrState, "set.i(0)")
	checkTold(t, declared+"ri[0] := 1;", impl.ErrState, "put.ri(0,1)")
	checkTold(t, declared+"ri[p] := 1;", impl.ErrState, "put.ri(0,1)")
}

func TestTypesOfWhatIsSet(t *testing.T) {
	checkTold(t, declared+"n := p;", impl.ErrType, "name.p")
	checkTold(t, declared+"b := n;", impl.ErrType, "name.n")
	checkTold(t, declared+"b := 2;", impl.ErrType, "num#2")
	checkTold(t, declared+"b := -1;", impl.ErrType, "neg(0)")
	checkTold(t, declared+"n := 1 < 2;", impl.ErrType, "two.9(0,1)")
	checkTold(t, declared+"n := not 1;", impl.ErrType, "not(0)")
	checkTold(t, declared+"n := rn;", impl.ErrForm, "name.rn")
	checkTold(t, declared+"n := y;", impl.ErrNone, "name.y")
	checkTold(t, declared+"rn[p] := 1;", impl.ErrType, "name.p")
	checkTold(t, declared+"rn[p] := f;", impl.ErrType, "name.p")
	checkTold(t, declared+"rn[p] := y;", impl.ErrType, "name.p")
	checkTold(t, declared+"rn[y] := p;", impl.ErrNone, "name.y")
	checkTold(t, declared+"rn[0] := p;", impl.ErrType, "name.p")
	checkTold(t, declared+"rb[0] := n;", impl.ErrType, "name.n")
	checkTold(t, declared+"rb[1] := 2;", impl.ErrType, "num#2")
	checkTold(t, declared+"rb[f] := 2;", impl.ErrType, "name.f")
	checkRuns(t, declared+"rb[2] := 1; rn[true] := false; n := true;")
}

func TestWhatIsChosen(t *testing.T) {
	for _, right := range []string{"p", "1", "0", "true", "n = 1", "n < 1", "not p", "rb[0]"} {
		checkRuns(t, declared+"if "+right+" then n := 1; else n := 2; end;")
	}
	checkTold(t, declared+"if n then end;", impl.ErrType, "name.n")
	checkTold(t, declared+"if 2 then end;", impl.ErrType, "num#2")
	checkTold(t, declared+"if -1 then end;", impl.ErrType, "neg(0)")
	checkTold(t, declared+"if rb then end;", impl.ErrForm, "name.rb")
	checkTold(t, declared+"if y then end;", impl.ErrNone, "name.y")
	// The kid, then Then, then Else, then what stands behind.
	checkTold(t, declared+"if n then i := 1; else ri := 2; end; y := 3;", impl.ErrType, "name.n")
	checkTold(t, declared+"if p then i := 1; else ri := 2; end; y := 3;", impl.ErrState, "set.i(1)")
	checkTold(t, declared+"if p then n := 1; else ri := 2; end; y := 3;", impl.ErrForm, "set.ri(3)")
	checkTold(t, declared+"if p then n := 1; else n := 2; end; y := 3;", impl.ErrNone, "set.y(6)")
	checkTold(t, declared+"if p then if n then i := 1; end; else y := 1; end;", impl.ErrType, "name.n")
	checkTold(t, declared+"if p then n := 1; n := f; else i := 1; end;", impl.ErrType, "name.f")
	checkTold(t, declared+"n := f; if y then end;", impl.ErrType, "name.f")
	checkTold(t, declared+"for n := 0 to 1 do y := 1; end; for n := 0 to 1001 do end;", impl.ErrNone, "set.y(0)")
	checkTold(t, declared+"for n := 0 to 1001 do y := 1; end;", impl.ErrRange, "for.n..1001then(1)")
	checkTold(t, declared+"if p then for n := 0 to 1 do n := 1; end; else sr w(1); end;", impl.ErrState, "set.n(1)")
	checkTold(t, declared+"sr w(1); if n then end;", impl.ErrMany, "call.4.w(0)")
}

// The order of statements is that of Body and of lists, not that of Nodes.
func TestStatementsInOtherOrders(t *testing.T) {
	tree := program(t, declared+"n := p; y := 1; if p then i := 1; ri := 2; else f := n; o := f; end;")
	for _, c := range []struct {
		change func(tree *impl.Tree)
		code   int64
		shown  string
	}{
		{func(tree *impl.Tree) {}, impl.ErrType, "name.p"},
		{func(tree *impl.Tree) { tree.Body = []int64{3, 1, 13} }, impl.ErrNone, "set.y(2)"},
		{func(tree *impl.Tree) { slices.Reverse(tree.Body) }, impl.ErrState, "set.i(5)"},
		{func(tree *impl.Tree) { slices.Reverse(tree.Body); slices.Reverse(tree.Nodes[13].Then) }, impl.ErrForm, "set.ri(7)"},
		{func(tree *impl.Tree) {
			slices.Reverse(tree.Body)
			tree.Nodes[13].Then, tree.Nodes[13].Else = tree.Nodes[13].Else, tree.Nodes[13].Then
		}, impl.ErrType, "name.n"},
	} {
		other := copyTree(tree)
		c.change(&other)
		got := checkAll(t, other)
		if got.Code != c.code || nodeShown(other, got.Node) != c.shown {
			t.Errorf("%s: %v, that is %q; want %d, %q", showTree(other), got, nodeShown(other, got.Node), c.code, c.shown)
		}
	}
}

func TestLoops(t *testing.T) {
	for _, right := range []string{"for n := 0 to 1 do end;", "for o := 1 to 0 do end;", "for k := 0 to 3 do rn[k] := k; end;", "for n := 0 to 1 do k := n; end; n := 1;", "for n := 0 to 1 do end; for n := 0 to 1 do end;",
		"for n := 0 to 1 do for k := 0 to 1 do o := n; end; k := 1; end; n := 2;", "for n := 1000 to 1000 do end;", "for n := 1000 to 0 do end;", "if p then n := 1; else for n := 0 to 1 do end; n := 2; end;",
		"for n := 0 to 1 do if p then k := 1; end; end;", "for n := 0 to 1 do rn[n] := n; rb[0] := p; end;"} {
		checkRuns(t, declared+right)
	}
	checkTold(t, declared+"for rn := 0 to 1 do end;", impl.ErrForm, "for.rn..1")
	checkTold(t, declared+"for ri := 0 to 1 do end;", impl.ErrForm, "for.ri..1")
	checkTold(t, declared+"for rb := 0 to 1001 do end;", impl.ErrForm, "for.rb..1001")
	checkTold(t, declared+"for i := 0 to 1 do end;", impl.ErrState, "for.i..1")
	checkTold(t, declared+"for p := 0 to 1 do end;", impl.ErrState, "for.p..1")
	checkTold(t, declared+"for i := 1001 to 1 do end;", impl.ErrState, "for.i#1001..1")
	checkTold(t, declared+"for f := 0 to 1 do end;", impl.ErrType, "for.f..1")
	checkTold(t, declared+"for b := 0 to 1001 do end;", impl.ErrType, "for.b..1001")
	checkTold(t, declared+"for n := 0 to 1 do for n := 2 to 3 do end; end;", impl.ErrState, "for.n#2..3")
	checkTold(t, declared+"for n := 0 to 1 do for k := 0 to 1 do for n := 2 to 3 do end; end; end;", impl.ErrState, "for.n#2..3")
	checkTold(t, declared+"for n := 0 to 1 do if p then else for n := 2 to 3000 do end; end; end;", impl.ErrState, "for.n#2..3000")
	checkTold(t, declared+"for n := 1 to 0 do n := 5; end;", impl.ErrState, "set.n(0)")
	checkTold(t, declared+"for n := 0 to 1 do if p then n := 5; end; end;", impl.ErrState, "set.n(1)")
	checkTold(t, declared+"for n := 0 to 1 do if p then k := 1; else n := y; end; end;", impl.ErrState, "set.n(3)")
	checkTold(t, declared+"for n := 0 to 1 do for k := 0 to 1 do n := 5; end; end;", impl.ErrState, "set.n(0)")
	checkTold(t, declared+"for n := 0 to 1 do for k := 0 to 1 do end; k := 1; n := 5; end;", impl.ErrState, "set.n(3)")
	for _, bounds := range []string{"1001 to 0", "0 to 1001", "1001 to 1001", "1001 to 1000", "65535 to 0", "0 to 65535", "1000 to 1001"} {
		tree := program(t, declared+"for n := "+bounds+" do y := 1; end;")
		if got := checkAll(t, tree); got != (impl.CheckResult{Code: impl.ErrRange, Node: 2}) {
			t.Errorf("for %s: %v", bounds, got)
		}
	}
	for _, name := range []string{"y", "zz"} {
		checkTold(t, declared+"for "+name+" := 0 to 1001 do end;", impl.ErrNone, "for."+name+"..1001")
	}
}

func TestCalls(t *testing.T) {
	for _, right := range []string{"ctu u(p,f,n);", "ctu u(1,0,5);", "ctu u(uq,not um,uv);", "ton t(p,i);", "ton t(not tq,tv);", "rtrig r(p);", "rtrig r(rq);", "sr w(p,f);", "sr w(1,0);", "if p then ton t(p,1); else sr w(p,p); end;",
		"for n := 0 to 1 do end; ton t(p,1);", "if p then for n := 0 to 1 do end; ton t(p,1); end;"} {
		checkRuns(t, declared+right)
	}
	wants := []string{"ctu", "ton", "rtrig", "sr"}
	for op, block := range wants {
		for kids := 1; kids <= 3; kids++ {
			// What is given is wrong, too: how many there are is asked first.
			text := declared + block + " u(" + strings.Repeat("y,", kids-1) + "y);"
			tree := program(t, text)
			want := impl.CheckResult{Code: impl.ErrMany, Node: int64(kids)}
			if kids == len(givenLetters[op+1]) {
				want = impl.CheckResult{Code: impl.ErrNone, Node: 0}
			}
			if got := checkAll(t, tree); got != want {
				t.Errorf("%q: %v, want %v", text, got, want)
			}
		}
	}
	checkTold(t, declared+"ctu u(n,p,1);", impl.ErrType, "name.n")
	checkTold(t, declared+"ctu u(p,n,1);", impl.ErrType, "name.n")
	checkTold(t, declared+"ctu u(p,f,b);", impl.ErrType, "name.b")
	checkTold(t, declared+"ctu u(2,3,b);", impl.ErrType, "num#2")
	checkTold(t, declared+"ctu u(p,3,y);", impl.ErrType, "num#3")
	checkTold(t, declared+"ton t(n,1);", impl.ErrType, "name.n")
	checkTold(t, declared+"ton t(p,f);", impl.ErrType, "name.f")
	checkTold(t, declared+"rtrig r(n);", impl.ErrType, "name.n")
	checkTold(t, declared+"rtrig r(2);", impl.ErrType, "num#2")
	checkTold(t, declared+"sr w(n,1);", impl.ErrType, "name.n")
	checkTold(t, declared+"sr w(1,n);", impl.ErrType, "name.n")
	checkTold(t, declared+"sr w(rb,y);", impl.ErrForm, "name.rb")
	for _, around := range []string{"for n := 0 to 1 do %end;", "for n := 1 to 0 do if p then %end; end;", "for n := 0 to 1 do if p then else %end; end;", "if p then for n := 0 to 1 do %end; end;", "for n := 0 to 1 do for k := 0 to 1 do end; %end;"} {
		checkTold(t, declared+strings.Replace(around, "%", "rtrig r(2);", 1), impl.ErrMany, "call.3.r("+kidOfCall(t, around)+")")
	}
}

// kidOfCall answers the place of the one kid of the call that stands there.
func kidOfCall(t *testing.T, around string) string {
	tree := program(t, declared+strings.Replace(around, "%", "rtrig r(2);", 1))
	at := slices.IndexFunc(tree.Nodes, func(node impl.Node) bool { return node.Kind == impl.NodeCall })
	return strconv.FormatInt(tree.Nodes[at].Kids[0], 10)
}

func TestBudgets(t *testing.T) {
	for _, c := range []struct {
		text   string
		budget int64
	}{
		{"", 1}, {"var n:int;", 1}, {"var n:int; n := 1;", 3}, {"var n:int; n := 1; n := n + 1;", 7}, {"rtrig r(1);", 15}, {"ctu u(1,1,1);", 17}, {"ton t(1,1); sr s(1,1);", 31},
		{"var n:int; if 1 then n := 1; else n := 2 + 3; end;", 7}, {"var n:int; for n := 1 to 0 do end;", 4}, {"var n:int; for n := 1 to 499 do end;", 1501}, {"var n:int; for n := 1 to 664 do end; for n := 1 to 0 do end;", 1999},
		{"var n:int; var k:int; for n := 1 to 332 do if 1 then else end; k := 1; end;", 1 + 3 + 332*7}, {"var n:int; var k:int; for n := 1 to 19 do for k := 1 to 32 do end; end;", 1 + 3 + 19*(3+3+32*3)},
	} {
		want := impl.CheckResult{Budget: c.budget}
		if c.budget > 2000 {
			want = impl.CheckResult{Code: impl.ErrMany, Node: -1}
		}
		if got := checkAll(t, program(t, c.text)); got != want {
			t.Errorf("%q: %v, want %v", c.text, got, want)
		}
	}
}

// withCost answers a program of that budget.
func withCost(t *testing.T, budget int64) string {
	t.Helper()
	text := "var n:int; "
	left := budget - 1
	// A for costs 3, and 3 each round; a set 2, and a sign 1.
	rounds := (left - 12) / 3
	text += "for n := 1 to " + strconv.FormatInt(rounds, 10) + " do end; "
	left -= 3 + 3*rounds
	for left > 3 {
		text += "n := 1; "
		left -= 2
	}
	if left == 3 {
		return text + "n := -1;"
	}
	return text + "n := 1;"
}

func TestBudget2000And2001(t *testing.T) {
	for budget := int64(1985); budget <= 2010; budget++ {
		text := withCost(t, budget)
		want := impl.CheckResult{Budget: budget}
		if budget > 2000 {
			want = impl.CheckResult{Code: impl.ErrMany, Node: -1}
		}
		if got := checkAll(t, program(t, text)); got != want {
			t.Errorf("%q of the budget %d: %v", text, budget, got)
		}
	}
	// What is told of statements is told ahead of it, and of names.
	checkTold(t, withCost(t, 2001)+"n := p;", impl.ErrNone, nodeOfLast(t, withCost(t, 2001)+"n := p;", impl.NodeName))
	checkTold(t, withCost(t, 2001)+"ton n(1,1); sr n(1,1);", impl.ErrTaken, "")
	checkTold(t, withCost(t, 2001)+"ton abcdefgh(1,1);", impl.ErrText, "")
}

func nodeOfLast(t *testing.T, text string, kind int64) string {
	tree := program(t, text)
	shown := ""
	for _, node := range tree.Nodes {
		if node.Kind == kind {
			shown = showNode(node)
		}
	}
	return shown
}

// 60 cells and 61: of rows, of variables and of blocks' own.
func TestCells60And61(t *testing.T) {
	rows := "var a:int[8]; var b:int[8]; var c:bool[8]; in d:int[8]; out e:int[8]; var f:int[8]; var g:int[8]; "
	for _, c := range []struct {
		text  string
		cells int64
	}{
		{"", 0}, {"var a:int;", 1}, {"var a:int[1];", 1}, {"var a:int[8];", 8}, {rows, 56}, {rows + "var h:int[4];", 60}, {rows + "var h:int[5];", 61},
		{rows + "var h:int; var i:bool; var j:int; var k:int;", 60}, {rows + "var h:int; var i:bool; var j:int; var k:int; var l:bool;", 61},
		{rows + "ctu u(1,1,1); sr w(1,1);", 60}, {rows + "ton u(1,1); rtrig w(1);", 60}, {rows + "var h:int; ctu u(1,1,1);", 60}, {rows + "var h:int; ton u(1,1); rtrig w(1);", 61}, {rows + "ctu u(1,1,1); ton w(1,1);", 61}, {rows + "ctu u(1,1,1); sr w(1,1); sr z(1,1);", 61},
	} {
		tree := program(t, c.text)
		got := checkAll(t, tree)
		if cells := impl.CellsOf(tree); cells != (impl.IntResult{Value: c.cells}) {
			t.Errorf("CellsOf(%q) = %v, want %d", c.text, cells, c.cells)
		}
		if c.cells > 60 && got != (impl.CheckResult{Code: impl.ErrMany, Node: -1}) || c.cells <= 60 && (got.Code != impl.OK || got.Budget < 1) {
			t.Errorf("%q of %d cells: %v", c.text, c.cells, got)
		}
	}
	checkTold(t, rows+"var h:int[5]; h[0] := 0 and 1;", impl.ErrType, "two.6(1,2)")
	checkTold(t, rows+"var h:int[5]; h := 2;", impl.ErrForm, "set.h(0)")
}

func TestCostOfEachKind(t *testing.T) {
	tree := program(t, declared+"n := -rn[1 + k]; rn[n] := not 1; if p then n := 1; k := 2; else n := 3; end; if p then n := 1; else n := - 3; k := - 4; end; if p then end; ctu u(1,n,-3); rtrig r(p);")
	wants := map[string]int64{"num#1": 1, "name.k": 1, "two.1(0,1)": 3, "item.rn(2)": 4, "neg(3)": 5, "set.n(4)": 6, "not(7)": 2, "put.rn(6,8)": 4,
		"if(10)then(12,14)else(16)": 6, "if(18)then(20)else(23,26)": 8, "if(28)": 2, "call.1.u(30,31,33)": 17, "call.3.r(35)": 14}
	for at, node := range tree.Nodes {
		if want, holds := wants[showNode(node)]; holds {
			if got := impl.CostOf(tree, int64(at)); got != (impl.IntResult{Value: want}) {
				t.Errorf("CostOf of %s = %v, want %d", showNode(node), got, want)
			}
			delete(wants, showNode(node))
		}
	}
	if len(wants) > 0 {
		t.Errorf("nodes that are not there: %v of %s", wants, showTree(tree))
	}
	checkAll(t, tree)
}

func TestCostOfLoops(t *testing.T) {
	for _, c := range []struct {
		text string
		cost int64
	}{
		{"for n := 1 to 0 do n := 1; end;", 3}, {"for n := 65535 to 0 do n := 1; end;", 3}, {"for n := 0 to 0 do end;", 6}, {"for n := 5 to 5 do k := 1; end;", 8}, {"for n := 0 to 1 do k := 1; end;", 13}, {"for n := 0 to 9 do end;", 33},
		{"for n := 0 to 65535 do end;", 100000}, {"for n := 1 to 33332 do end;", 99999}, {"for n := 1 to 33333 do end;", 100000},
		{"for n := 0 to 9 do for k := 0 to 9 do end; end;", 3 + 10*(3+33)}, {"for n := 0 to 9 do for k := 0 to 9 do for o := 0 to 9 do end; end; end;", 3 + 10*(3+3+10*(3+33))},
		{"for n := 0 to 99 do for k := 0 to 99 do for o := 0 to 99 do end; end; end;", 100000},
		{"for n := 1 to 0 do for k := 0 to 65535 do end; end;", 3}, {"for n := 0 to 0 do for k := 1 to 33331 do end; end;", 100000}, {"for n := 0 to 0 do for k := 1 to 33330 do end; end;", 99999},
		{"if 1 then for n := 0 to 65535 do end; else for n := 0 to 65535 do end; end;", 100000}, {"for n := 0 to 9 do if p then k := 1; else rn[0] := 1; end; end;", 3 + 10*(3+2+3)},
		{strings.Repeat("for n := 0 to 65535 do ", 18) + strings.Repeat("end;", 18), 100000}, {"for n := 0 to 65535 do " + strings.Repeat("for n:=0to 65535do end;", 35) + "end;", 100000},
	} {
		tree := program(t, declared+c.text)
		if got := impl.CostOf(tree, int64(len(tree.Nodes)-1)); got != (impl.IntResult{Value: c.cost}) {
			t.Errorf("CostOf of %q = %v, want %d", c.text, got, c.cost)
		}
		if c.cost != costOf(tree, int64(len(tree.Nodes)-1)) {
			t.Errorf("%q: the second way tells %d", c.text, costOf(tree, int64(len(tree.Nodes)-1)))
		}
	}
}

func TestCellOfEachVariable(t *testing.T) {
	tree := program(t, "in a:int[3]; out bb:bool; var c:int[8]; var d:bool[1]; in e:int; x := 1; sr w(1,1); if 1 then ton t(1,1); end; ctu u(1,1,1); rtrig r(1);")
	wants := map[string]int64{"a": 0, "bb": 3, "c": 4, "d": 12, "e": 13, "wq": 14, "tv": 15, "tq": 16, "uv": 17, "um": 18, "uq": 19, "rm": 20, "rq": 21}
	for name, want := range wants {
		if got := impl.CellOf(tree, name); got != (impl.IntResult{Value: want}) {
			t.Errorf("CellOf(%q) = %v, want %d", name, got, want)
		}
	}
	for _, name := range []string{"", "x", "w", "t", "u", "r", "wv", "wm", "tm", "rv", "A", "aa", "a ", "q", "ctu", "\x00"} {
		if got := impl.CellOf(tree, name); got != (impl.IntResult{Code: impl.ErrNone}) {
			t.Errorf("CellOf(%q) = %v, want ErrNone", name, got)
		}
	}
	if got := impl.CellsOf(tree); got != (impl.IntResult{Value: 22}) {
		t.Errorf("CellsOf = %v", got)
	}
	// The order of cells is that of Nodes, not that in which the calls are run.
	turned := copyTree(tree)
	slices.Reverse(turned.Body)
	for name, want := range wants {
		if got := impl.CellOf(turned, name); got != (impl.IntResult{Value: want}) {
			t.Errorf("turned: CellOf(%q) = %v, want %d", name, got, want)
		}
	}
	checkAll(t, tree)
	checkAll(t, turned)
	if got := impl.CellOf(impl.Tree{}, "a"); got != (impl.IntResult{Code: impl.ErrNone}) {
		t.Errorf("CellOf of nothing = %v", got)
	}
}

// Of several of one name the first one is taken, though such a program may not be run.
func TestFirstOfOneName(t *testing.T) {
	tree := program(t, "var a:int; var b:bool; var a:bool[2]; var wq:int[2]; sr w(1,1); rtrig w(1); x := a; y := wq; z := wm;")
	for name, want := range map[string]int64{"a": 0, "b": 1, "wq": 4, "wm": 7} {
		if got := impl.CellOf(tree, name); got != (impl.IntResult{Value: want}) {
			t.Errorf("CellOf(%q) = %v, want %d", name, got, want)
		}
	}
	for at, node := range tree.Nodes {
		got := impl.TypeOf(tree, int64(at))
		if node.Name == "a" && got != (impl.TypeResult{Type: impl.TypeInt}) || node.Name == "wq" && got != (impl.TypeResult{Code: impl.ErrForm, Node: int64(at)}) || node.Name == "wm" && got != (impl.TypeResult{Type: impl.TypeBool}) {
			t.Errorf("TypeOf of %s = %v", showNode(node), got)
		}
	}
	checkTold(t, "var a:int; var b:bool; var a:bool[2]; a := 1;", impl.ErrTaken, "")
	checkAll(t, tree)
}

func TestNamesOfEachKind(t *testing.T) {
	tree := program(t, "in a:int; out bb:bool; var c:int[8]; in d:bool[1]; var e:int; in a:int; sr w(1,1);")
	for kind, want := range map[int64][]string{impl.VarIn: {"a", "d", "a"}, impl.VarOut: {"bb"}, impl.VarOwn: {"c", "e"}} {
		if got := impl.NamesOf(tree, kind); got.Code != impl.OK || !slices.Equal(got.Names, want) {
			t.Errorf("NamesOf(%d) = %v, want %v", kind, got, want)
		}
		if got := impl.NamesOf(impl.Tree{}, kind); got.Code != impl.OK || len(got.Names) != 0 {
			t.Errorf("NamesOf of nothing = %v", got)
		}
	}
	for _, kind := range []int64{0, 4, -1, 11} {
		if got := impl.NamesOf(tree, kind); got.Code != impl.ErrRange || len(got.Names) != 0 {
			t.Errorf("NamesOf(%d) = %v", kind, got)
		}
	}
	checkAll(t, tree)
}

func TestCheckNumbers(t *testing.T) {
	if impl.MaxBudget != 2000 {
		t.Error("MaxBudget is another number")
	}
	if got := impl.CheckTree(impl.Tree{}); got != (impl.CheckResult{Budget: 1}) {
		t.Errorf("CheckTree of nothing = %v", got)
	}
}

// fitTexts are programs as a maker tells them, right ones and wrong ones.
func fitTexts(count int, seed uint64) []string {
	var texts []string
	for n := range count {
		m := &fitMaker{programMaker: programMaker{state: seed + uint64(n)*7919}, wrongs: []int{0, 15, 40, 100}[n%4]}
		text := m.program()
		if impl.ParseText(text).Code == impl.OK {
			texts = append(texts, text)
		}
	}
	return texts
}

func TestCheckOfNoise(t *testing.T) {
	codes := map[int64]int{}
	for _, text := range fitTexts(2500, 1) {
		codes[checkAll(t, program(t, text)).Code]++
	}
	m := &programMaker{state: 11}
	for range 300 {
		if tree := impl.ParseText(m.program()); tree.Code == impl.OK {
			codes[checkAll(t, tree.Tree).Code]++
		}
	}
	for _, code := range []int64{impl.OK, impl.ErrForm, impl.ErrMany, impl.ErrRange, impl.ErrNone, impl.ErrText, impl.ErrTaken, impl.ErrType, impl.ErrState} {
		if codes[code] < 20 {
			t.Errorf("just %d programs have the code %d: %v", codes[code], code, codes)
		}
	}
}

// What a maker tells without a fault may be run, as long as it does not take too much.
func TestWhatFitsMayBeRun(t *testing.T) {
	right := 0
	for n := range 1000 {
		m := &fitMaker{programMaker: programMaker{state: uint64(n) * 104729}}
		text := m.program()
		tree := impl.ParseText(text)
		if tree.Code != impl.OK {
			continue
		}
		got := impl.CheckTree(tree.Tree)
		if got.Code != impl.OK && (got != impl.CheckResult{Code: impl.ErrMany, Node: -1}) {
			t.Fatalf("%q: %v, that is %q", text, got, nodeShown(tree.Tree, got.Node))
		}
		if got.Code == impl.OK {
			right++
		}
	}
	if right < 300 {
		t.Errorf("just %d may be run", right)
	}
}

// The least and the greatest numbers in every field, and every count of lists.
func TestCheckOfRandomFields(t *testing.T) {
	m := &programMaker{state: 41}
	for range 5000 {
		checkAll(t, randomTree(m))
	}
	codes := map[int64]int{}
	for _, text := range fitTexts(400, 5) {
		right := program(t, text)
		for range 4 {
			hurt := copyTree(right)
			hurtTree(m, &hurt)
			codes[checkAll(t, hurt).Code]++
		}
	}
	if codes[impl.OK] < 20 || codes[impl.ErrForm] < 200 {
		t.Errorf("codes of trees that were hurt: %v", codes)
	}
	right := program(t, allKinds)
	for at := range right.Nodes {
		for _, n := range oddNumbers {
			checkAll(t, withNode(right, at, func(node *impl.Node) { node.Kind = n }))
			checkAll(t, withNode(right, at, func(node *impl.Node) { node.Op = n }))
			checkAll(t, withNode(right, at, func(node *impl.Node) { node.Num = n }))
			checkAll(t, withNode(right, at, func(node *impl.Node) { node.Far = n }))
			checkAll(t, withNode(right, at, func(node *impl.Node) { node.Kids = append(node.Kids, n) }))
		}
	}
}

// programsThatRun are for the promises: each of them may be run.
func programsThatRun(t *testing.T) []impl.Tree {
	trees := []impl.Tree{{}, program(t, "in p : bool; out x : int; var r : int[3]; x := r[1] + 2; if p then x := 3; end; rtrig g(p);"), program(t, withCost(t, 2000)), program(t, declared)}
	for _, text := range fitTexts(2000, 77) {
		tree := program(t, text)
		if impl.CheckTree(tree).Code == impl.OK {
			trees = append(trees, tree)
		}
	}
	if len(trees) < 500 {
		t.Errorf("just %d programs may be run", len(trees))
	}
	return trees
}

// Promise 6: each expression has a type.
func TestEachExpressionHasAType(t *testing.T) {
	for _, tree := range programsThatRun(t) {
		for at, node := range tree.Nodes {
			got := impl.TypeOf(tree, int64(at))
			if node.Kind >= impl.NodeSet {
				continue
			}
			if got.Code != impl.OK || got.Node != 0 || got.Type != impl.TypeInt && got.Type != impl.TypeBool || got.Type != plainType(tree, int64(at)) {
				t.Fatalf("TypeOf(%s, %d) = %v", showTree(tree), at, got)
			}
		}
	}
}

// Promise 6: the budget is all costs.
func TestBudgetIsAllCosts(t *testing.T) {
	for _, tree := range programsThatRun(t) {
		whole := int64(1)
		for _, place := range tree.Body {
			whole += impl.CostOf(tree, place).Value
		}
		if got := impl.CheckTree(tree); got != (impl.CheckResult{Budget: whole}) || whole > 2000 {
			t.Fatalf("CheckTree(%s) = %v, all costs are %d", showTree(tree), got, whole)
		}
	}
}

// Promise 6: no two variables have a cell in common, and there is none that no variable has.
func TestNoCellIsInCommon(t *testing.T) {
	for _, tree := range programsThatRun(t) {
		whose := make([]string, impl.CellsOf(tree).Value)
		take := func(name string, size int64) {
			first := impl.CellOf(tree, name)
			for cell := first.Value; cell < first.Value+size; cell++ {
				if first.Code != impl.OK || cell < 0 || cell >= int64(len(whose)) || whose[cell] != "" {
					t.Fatalf("%s: %q has the cells from %v of %v", showTree(tree), name, first, whose)
				}
				whose[cell] = name
			}
		}
		for _, v := range tree.Vars {
			take(v.Name, max(1, v.Size))
		}
		for _, name := range ownNames(tree) {
			take(name, 1)
		}
		if slices.Contains(whose, "") || len(whose) > 60 {
			t.Fatalf("%s: %q", showTree(tree), whose)
		}
	}
}

// Promise 1: every function answers, and changes none of its arguments, nor what lies behind them.
func TestCheckChangesNoArgument(t *testing.T) {
	m := &programMaker{state: 19}
	texts := fitTexts(1000, 8)
	for i := range 1000 {
		tree := randomTree(m)
		if i%2 == 0 {
			tree = program(t, texts[i%len(texts)])
		}
		given, before := roomyTree(tree), roomyTree(tree)
		impl.CheckTree(given)
		impl.CellsOf(given)
		for at := range int64(len(tree.Nodes) + 2) {
			impl.TypeOf(given, at-1)
			impl.CostOf(given, at-1)
		}
		for kind := range int64(5) {
			impl.NamesOf(given, kind)
		}
		for _, name := range namesToAsk(tree) {
			impl.CellOf(given, name)
		}
		if !reflect.DeepEqual(wholeTree(given), wholeTree(before)) {
			t.Fatalf("the tree %s was changed", showTree(tree))
		}
	}
}

// Promise 1: the names that are told are new memory.
func TestNamesAreNewMemory(t *testing.T) {
	tree := program(t, "in abc:int; in d:bool; out e:int; in abcd:int[2];")
	first, second := impl.NamesOf(tree, impl.VarIn), impl.NamesOf(tree, impl.VarIn)
	for i, name := range first.Names {
		for _, v := range tree.Vars {
			if sharesBytes(name, v.Name) {
				t.Errorf("the name %q lies within the tree", name)
			}
		}
		if sharesBytes(name, second.Names[i]) {
			t.Errorf("the name %q lies within another answer", name)
		}
	}
	clear(first.Names[:cap(first.Names)])
	if want := []string{"abc", "d", "abcd"}; !slices.Equal(second.Names, want) || !slices.Equal(impl.NamesOf(tree, impl.VarIn).Names, want) || tree.Vars[0].Name != "abc" {
		t.Error("a change to an answer is seen elsewhere")
	}
}

// Promise 1: an answer hangs on the arguments alone, whatever was asked ahead.
func TestCheckHangsOnArgumentsAlone(t *testing.T) {
	texts := fitTexts(400, 21)
	type answers struct {
		check impl.CheckResult
		cells impl.IntResult
		types []impl.TypeResult
		costs []impl.IntResult
		names []impl.NamesResult
		first []impl.IntResult
	}
	ask := func(tree impl.Tree) answers {
		all := answers{check: impl.CheckTree(tree), cells: impl.CellsOf(tree)}
		for at := range tree.Nodes {
			all.types = append(all.types, impl.TypeOf(tree, int64(at)))
			all.costs = append(all.costs, impl.CostOf(tree, int64(at)))
		}
		for kind := range int64(5) {
			all.names = append(all.names, impl.NamesOf(tree, kind))
		}
		for _, name := range namesToAsk(tree) {
			all.first = append(all.first, impl.CellOf(tree, name))
		}
		return all
	}
	var told []answers
	for _, text := range texts {
		told = append(told, ask(program(t, text)))
	}
	for i, text := range slices.Backward(texts) {
		if got := ask(copyTree(program(t, strings.Clone(text)))); !reflect.DeepEqual(got, told[i]) {
			t.Fatalf("another answer of %q", text)
		}
	}
}
