package tests

import (
	"slices"
	"strings"
	"testing"

	"loop.example/g00251/impl"
)

// checkLines asks which lines FormatTree writes of what is answered, behind those of the declarations that were given.
func checkLines(t *testing.T, text string, want ...string) impl.Tree {
	t.Helper()
	tree := program(t, text)
	got := checkExpanded(t, tree)
	if got.Code != impl.OK || got.At != 0 || impl.HasCalls(got.Tree) {
		t.Errorf("ExpandTree(%q): code %d at %d", text, got.Code, got.At)
	}
	head := ""
	for line := range strings.Lines(impl.FormatTree(tree).Text) {
		if lineOfVar.MatchString(line) {
			head += line
		}
	}
	if written := impl.FormatTree(got.Tree).Text; written != head+strings.Join(want, " ;\n")+strings.Repeat(" ;\n", min(1, len(want))) {
		t.Errorf("ExpandTree(%q) is written\n%swant\n%s%s", text, written, head, strings.Join(want, " ;\n"))
	}
	return got.Tree
}

// checkUnexpanded asks for a code and its At, and for no tree.
func checkUnexpanded(t *testing.T, text string, code, at int64) {
	t.Helper()
	got := checkExpanded(t, program(t, text))
	if !sameTrees(got, impl.TreeResult{Code: code, At: at}) {
		t.Errorf("ExpandTree(%q): code %d at %d, %s; want %d at %d", text, got.Code, got.At, showTree(got.Tree), code, at)
	}
}

func checkTemps(t *testing.T, text string, own, temps string) {
	t.Helper()
	tree := program(t, text)
	checkExpanded(t, tree)
	if got := impl.OwnNames(tree); got.Code != impl.OK || strings.Join(got.Names, " ") != own {
		t.Errorf("OwnNames(%q) = %v, want %q", text, got, own)
	}
	if got := impl.TempNames(tree); got.Code != impl.OK || strings.Join(got.Names, " ") != temps {
		t.Errorf("TempNames(%q) = %v, want %q", text, got, temps)
	}
}

func TestEachBlockAsStatements(t *testing.T) {
	const head = "in p:bool; in r:bool; in n:int; "
	checkLines(t, head+"ctu c(p,r,n);", "var cv : int", "var cm : bool", "var cq : bool", "var ca : bool", "var cb : bool", "var cc : int",
		"ca := p", "cb := r", "cc := n", "if cb then\ncv := 0", "else\nif ( ( ca and ( not cm ) ) and ( cv < 32767 ) ) then\ncv := ( cv + 1 )", "end", "end", "cm := ca", "cq := ( not ( cv < cc ) )")
	checkLines(t, head+"ton c(p,n);", "var cv : int", "var cq : bool", "var ca : bool", "var cb : int",
		"ca := p", "cb := n", "if ( not ca ) then\ncv := 0", "else\nif ( cv < cb ) then\ncv := ( cv + 1 )", "end", "end", "cq := ( ca and ( not ( cv < cb ) ) )")
	checkLines(t, head+"rtrig c(p);", "var cm : bool", "var cq : bool", "var ca : bool", "ca := p", "cq := ( ca and ( not cm ) )", "cm := ca")
	checkLines(t, head+"sr c(p,r);", "var cq : bool", "var ca : bool", "var cb : bool", "ca := p", "cb := r", "cq := ( ca or ( cq and ( not cb ) ) )")
}

// What is answered is read as it was written: its Nodes are in the order of what they say.
func TestNodesOfABlock(t *testing.T) {
	tree := checkLines(t, "in p:bool; rtrig g(p);", "var gm : bool", "var gq : bool", "var ga : bool", "ga := p", "gq := ( ga and ( not gm ) )", "gm := ga")
	want := "p:1,2,0 gm:3,2,0 gq:3,2,0 ga:3,2,0 0=name.p 1=set.ga(0) 2=name.ga 3=name.gm 4=not(3) 5=two.6(2,4) 6=set.gq(5) 7=name.ga 8=set.gm(7) body(1,6,8)"
	if got := showTree(tree); got != want {
		t.Errorf("%s, want %s", got, want)
	}
}

func TestTreesWithoutCalls(t *testing.T) {
	for _, text := range []string{"", declared, "x := 1;", "in a:int; out x:int; x := 7 / a;", declared + "n := -1; rn[n] := 2; if p then o := 3; else f := not f; end; for k := 0 to 1 do rb[k] := p; end;", withCost(t, 2000), strings.Repeat("x:=1;", 20)} {
		tree := program(t, text)
		got := checkExpanded(t, tree)
		if impl.HasCalls(tree) || got.Code != codeIf(impl.ErrNone, strings.HasPrefix(text, "x")) {
			t.Errorf("%q: %v", text, got)
		}
		if got.Code == impl.OK && showTree(got.Tree) != showTree(tree) {
			t.Errorf("ExpandTree(%q) = %s, want %s", text, showTree(got.Tree), showTree(tree))
		}
		if names := impl.OwnNames(tree); names.Code != got.Code || len(names.Names) != 0 {
			t.Errorf("OwnNames(%q) = %v", text, names)
		}
		if names := impl.TempNames(tree); names.Code != got.Code || len(names.Names) != 0 {
			t.Errorf("TempNames(%q) = %v", text, names)
		}
	}
	// It is read again all the same, so that its Nodes are in the order of what is written.
	tree := program(t, "var x:int; var y:int; x := 1; y := x - 2;")
	tree.Body = []int64{5, 1}
	if got := checkExpanded(t, tree); got.Code != impl.OK || showTree(got.Tree) != showTree(program(t, "var x:int; var y:int; y := x - 2; x := 1;")) {
		t.Errorf("turned: %s", showTree(got.Tree))
	}
	if got := checkExpanded(t, program(t, "var n:int; var b:bool; b := n > 1;")); showTree(got.Tree) != showTree(program(t, "var n:int; var b:bool; b := 1 < n;")) {
		t.Errorf("sides: %s", showTree(got.Tree))
	}
	if got := checkExpanded(t, impl.Tree{}); got.Code != impl.OK || showTree(got.Tree) != "" {
		t.Errorf("nothing: %v", got)
	}
}

// HasCalls asks for no code: one node of that Kind is enough, whatever else is wrong.
func TestHasCalls(t *testing.T) {
	for _, c := range []struct {
		tree impl.Tree
		want bool
	}{
		{impl.Tree{}, false}, {program(t, declared), false}, {program(t, allKinds), true}, {program(t, "rtrig g(1);"), true}, {program(t, "if 1 then if 0 then else sr s(1,0); end; end;"), true},
		{program(t, "sr s(1);"), true}, {program(t, "sr s(y,y);"), true}, {program(t, "sr s(1,1); ton s(1,1);"), true}, {program(t, "for n := 0 to 1 do rtrig g(1); end;"), true},
		{impl.Tree{Nodes: []impl.Node{{Kind: 11}}}, true}, {impl.Tree{Nodes: []impl.Node{{Kind: 11, Op: 99, Name: "A"}}}, true}, {impl.Tree{Nodes: append(make([]impl.Node, 300), impl.Node{Kind: 11})}, true},
		{impl.Tree{Nodes: make([]impl.Node, 300)}, false}, {impl.Tree{Vars: make([]impl.Var, 30), Nodes: []impl.Node{{Kind: 11}}, Body: []int64{-1}}, true}, {impl.Tree{Nodes: []impl.Node{{Op: 4, Name: "s", Kids: []int64{0, 1}}}}, false},
	} {
		if got := impl.HasCalls(c.tree); got != c.want {
			t.Errorf("HasCalls(%s) = %v", showTree(c.tree), got)
		}
	}
	for _, kind := range append([]int64{1, 2, 3, 4, 5, 6, 7, 8, 9, 10, 12}, oddNumbers...) {
		if impl.HasCalls(impl.Tree{Nodes: []impl.Node{{Kind: kind}}}) {
			t.Errorf("a node of the Kind %d is a call", kind)
		}
	}
}

// Each code of CheckTree is told by all that ask for it, ExpandTree's At its Node.
func TestExpandTreesWithACode(t *testing.T) {
	for text, want := range map[string]impl.CheckResult{
		"var a:int; var a:int;": {Code: impl.ErrTaken, Node: -1}, "sr s(1,1); sr s(1,1);": {Code: impl.ErrTaken, Node: -1}, "var sq:int; sr s(1,1);": {Code: impl.ErrTaken, Node: -1}, "rtrig abcdefgh(1);": {Code: impl.ErrText, Node: -1},
		"y := 1; sr s(1,1);": {Code: impl.ErrNone, Node: 1}, "sr s(1,1); var_ := 1;": {Code: impl.ErrNone, Node: 4}, "sr s(1,y);": {Code: impl.ErrNone, Node: 1}, "sr s(1,1); sq := 1;": {Code: impl.ErrNone, Node: 4}, "sr s(1,sa);": {Code: impl.ErrNone, Node: 1},
		"in i:int; rtrig g(1); i := 1;": {Code: impl.ErrState, Node: 3}, "var n:int; rtrig g(1); n := 1 < 2;": {Code: impl.ErrType, Node: 4}, "ctu c(1,2,3);": {Code: impl.ErrType, Node: 1}, "rtrig g(1); var_ := 1 + true;": {Code: impl.ErrNone, Node: 5},
		"var n:int; for n := 0 to 1001 do end; sr s(1,1);": {Code: impl.ErrRange, Node: 0}, "var n:int; sr s(1,1); n[0] := 1;": {Code: impl.ErrForm, Node: 5}, "sr s(1);": {Code: impl.ErrMany, Node: 1}, "ctu c(1,1,1); ton d(1,1,1);": {Code: impl.ErrMany, Node: 7},
		"var n:int; for n := 0 to 1 do rtrig g(1); end;": {Code: impl.ErrMany, Node: 1}, withCost(t, 1989) + "rtrig g(0 = 1);": {Code: impl.ErrMany, Node: -1},
		"var a:int[8];var b:int[8];var c:int[8];var d:int[8];var e:int[8];var f:int[8];var g:int[8];var h:int[3]; rtrig z(1);": {Code: impl.ErrMany, Node: -1},
		// The code of CheckTree is asked ahead of names that are taken.
		"var ca:int; rtrig c(2);": {Code: impl.ErrType, Node: 0}, "var ca:int; var cq:bool; rtrig c(2);": {Code: impl.ErrTaken, Node: -1},
	} {
		tree := program(t, text)
		if got := impl.CheckTree(tree); got != want {
			t.Errorf("CheckTree(%q) = %v, want %v", text, got, want)
		}
		checkNoNames(t, tree, want)
	}
	faulty := program(t, "var n:int; n := 1; sr s(1,1);")
	faulty.Body = nil
	checkNoNames(t, faulty, impl.CheckResult{Code: impl.ErrForm, Node: -1})
	faulty.Vars[0].Size = 9
	checkNoNames(t, faulty, impl.CheckResult{Code: impl.ErrRange, Node: -1})
	faulty.Vars[0].Name = "A"
	checkNoNames(t, faulty, impl.CheckResult{Code: impl.ErrText, Node: -1})
	checkNoNames(t, impl.Tree{Vars: make([]impl.Var, 25)}, impl.CheckResult{Code: impl.ErrMany, Node: -1})
	deep := program(t, strings.Repeat("if 1 then ", 18)+"rtrig g(1);"+strings.Repeat("end;", 18))
	deep.Nodes = append(deep.Nodes, impl.Node{Kind: impl.NodeNum}, impl.Node{Kind: impl.NodeIf, Kids: []int64{int64(len(deep.Nodes))}, Then: deep.Body})
	deep.Body = []int64{int64(len(deep.Nodes)) - 1}
	checkNoNames(t, deep, impl.CheckResult{Code: impl.ErrDeep, Node: -1})
}

func checkNoNames(t *testing.T, tree impl.Tree, want impl.CheckResult) {
	t.Helper()
	if got := checkExpanded(t, tree); !sameTrees(got, impl.TreeResult{Code: want.Code, At: want.Node}) {
		t.Errorf("ExpandTree(%s): code %d at %d, %s; want %v", showTree(tree), got.Code, got.At, showTree(got.Tree), want)
	}
	if own, temps := impl.OwnNames(tree), impl.TempNames(tree); own.Code != want.Code || temps.Code != want.Code || len(own.Names) != 0 || len(temps.Names) != 0 {
		t.Errorf("%s: OwnNames %v, TempNames %v; want %v", showTree(tree), own, temps, want)
	}
}

func TestNamesOfCalls(t *testing.T) {
	checkTemps(t, "ctu c(1,1,1);", "cv cm cq", "ca cb cc")
	checkTemps(t, "ton c(1,1);", "cv cq", "ca cb")
	checkTemps(t, "rtrig c(1);", "cm cq", "ca")
	checkTemps(t, "sr c(1,1);", "cq", "ca cb")
	checkTemps(t, "sr z(1,1); rtrig y(1); ton b(1,1); ctu a(1,1,1);", "zq ym yq bv bq av am aq", "za zb ya ba bb aa ab ac")
	checkTemps(t, "if 1 then sr z(1,1); rtrig y(1); else sr abcdefg(1,1); end; if 0 then else sr _(1,1); end;", "zq ym yq abcdefgq _q", "za zb ya abcdefga abcdefgb _a _b")
	// In the order of Nodes, whatever the order of statements is.
	tree := program(t, "sr z(1,1); rtrig y(1); ton b(1,1);")
	slices.Reverse(tree.Body)
	got := checkExpanded(t, tree)
	want := program(t, "var zq:bool; var ym:bool; var yq:bool; var bv:int; var bq:bool; var za:bool; var zb:bool; var ya:bool; var ba:bool; var bb:int; ba := 1; bb := 1; if not ba then bv := 0; else if bv < bb then bv := bv + 1; end; end; "+
		"bq := ba and not (bv < bb); ya := 1; yq := ya and not ym; ym := ya; za := 1; zb := 1; zq := za or zq and not zb;")
	if names := impl.TempNames(tree).Names; showTree(got.Tree) != showTree(want) || !slices.Equal(names, []string{"za", "zb", "ya", "ba", "bb"}) {
		t.Errorf("from the last to the first: %q, %s", names, showTree(got.Tree))
	}
}

// A call of 8 letters has a name of its own that is none; one of 7 has none that is none, whatever its letters are,
// as no word ends with a, b or c.
func TestTempNamesThatAreLong(t *testing.T) {
	for _, call := range []string{"ctu %(1,1,1);", "ton %(1,1);", "rtrig %(1);", "sr %(1,1);"} {
		for _, name := range []string{"a", "_", "abcdef", "abcdefg", "_______", "zzzzzzz"} {
			if got := checkExpanded(t, program(t, strings.Replace(call, "%", name, 1))); got.Code != impl.OK {
				t.Errorf("%q, %q: %v", call, name, got)
			}
		}
		for _, name := range []string{"abcdefgh", "________"} {
			checkUnexpanded(t, strings.Replace(call, "%", name, 1), impl.ErrText, -1)
		}
		for _, word := range allWords {
			name := word[:len(word)-1]
			if impl.IsName(name) {
				checkExpands(t, strings.Replace(call, "%", name, 1))
			}
		}
	}
	for _, word := range allWords {
		if strings.ContainsAny(word[len(word)-1:], "abcvmq") {
			t.Errorf("the name of a call and a letter may be the word %q", word)
		}
	}
}

func checkExpands(t *testing.T, text string) {
	t.Helper()
	if got := checkExpanded(t, program(t, text)); got.Code != impl.OK || impl.HasCalls(got.Tree) {
		t.Errorf("ExpandTree(%q): code %d at %d", text, got.Code, got.At)
	}
}

func TestTempNamesThatAreTaken(t *testing.T) {
	calls := map[string]string{"ctu c(1,1,1);": "abc", "ton c(1,1);": "ab", "rtrig c(1);": "a", "sr c(1,1);": "ab"}
	for call, letters := range calls {
		for _, letter := range []string{"a", "b", "c", "d"} {
			for _, declaration := range []string{"var c%:int;", "in c%:bool;", "out c%:int;", "var c%:bool[2];", "in x:int; in c%:int[8]; var y:bool;"} {
				text := strings.Replace(declaration, "%", letter, 1) + call
				if strings.Contains(letters, letter) {
					checkUnexpanded(t, text, impl.ErrTaken, -1)
				} else {
					checkExpands(t, text)
				}
			}
		}
	}
	// Names of calls are no names of variables; no two calls have one of these in common.
	checkTemps(t, "ctu c(1,1,1); sr ca(1,1);", "cv cm cq caq", "ca cb cc caa cab")
	checkExpands(t, "ctu c(1,1,1); sr ca(1,1);")
	checkExpands(t, "sr ca(1,1); ctu c(1,1,1);")
	checkExpands(t, "sr a(1,1); sr aa(1,1); sr aaa(1,1); sr aaaa(1,1);")
	checkExpands(t, "var c:int; var d:int; ctu c(1,1,d); d := cv;")
	checkUnexpanded(t, "var caa:int; sr c(1,1); sr ca(1,1);", impl.ErrTaken, -1)
	checkUnexpanded(t, "var cc:int; sr d(1,1); ctu c(1,1,1);", impl.ErrTaken, -1)
	// It is told ahead of what ParseText would tell, and of what CheckTree would.
	checkUnexpanded(t, "var ca:int;"+declarations(23)+"ctu c(1,1,1);", impl.ErrTaken, -1)
	checkUnexpanded(t, withCost(t, 1973)+"ctu z(1,1,1);", impl.ErrMany, -1)
	checkUnexpanded(t, "var za:int;"+withCost(t, 1973)+"ctu z(1,1,1);", impl.ErrTaken, -1)
	checkUnexpanded(t, "var ga:int;"+nestedCall(17, "rtrig g(1);"), impl.ErrTaken, -1)
}

// declarations answers so many, of names of two letters that begin with v.
func declarations(count int) string {
	text := ""
	for i := range count {
		text += "var v" + string(rune('a'+i)) + ":int; "
	}
	return text
}

func nestedCall(deep int, call string) string {
	return strings.Repeat("if 1 then ", deep) + call + strings.Repeat("end;", deep)
}

func TestCallsOfOneBlock(t *testing.T) {
	checkLines(t, "in p:bool; rtrig a(p); rtrig b(aq); rtrig c(bq);", "var am : bool", "var aq : bool", "var bm : bool", "var bq : bool", "var cm : bool", "var cq : bool", "var aa : bool", "var ba : bool", "var ca : bool",
		"aa := p", "aq := ( aa and ( not am ) )", "am := aa", "ba := aq", "bq := ( ba and ( not bm ) )", "bm := ba", "ca := bq", "cq := ( ca and ( not cm ) )", "cm := ca")
	checkLines(t, "sr x(0,1); sr y(xq,0);", "var xq : bool", "var yq : bool", "var xa : bool", "var xb : bool", "var ya : bool", "var yb : bool",
		"xa := 0", "xb := 1", "xq := ( xa or ( xq and ( not xb ) ) )", "ya := xq", "yb := 0", "yq := ( ya or ( yq and ( not yb ) ) )")
	// As many as there may be: of a ctu 6 variables come to be, of a ton 4.
	checkExpands(t, "ctu a(1,1,1); ctu b(1,1,1); ctu c(1,1,1); ctu d(1,1,1);")
	checkUnexpanded(t, "ctu a(1,1,1); ctu b(1,1,1); ctu c(1,1,1); ctu d(1,1,1); sr e(1,1);", impl.ErrMany, -1)
	checkExpands(t, "ton a(1,1); ton b(1,1); ton c(1,1); ton d(1,1); ton e(1,1); ton f(1,1);")
	checkUnexpanded(t, "ton a(1,1); ton b(1,1); ton c(1,1); ton d(1,1); ton e(1,1); ton f(1,1); ton g(1,1);", impl.ErrMany, -1)
}

func TestCallsWithinIf(t *testing.T) {
	const head = "in p:bool; out x:int; "
	names := []string{"var sq : bool", "var gm : bool", "var gq : bool", "var sa : bool", "var sb : bool", "var ga : bool"}
	sr := []string{"sa := p", "sb := 0", "sq := ( sa or ( sq and ( not sb ) ) )"}
	rtrig := []string{"ga := sq", "gq := ( ga and ( not gm ) )", "gm := ga"}
	joined := func(lists ...[]string) []string { return slices.Concat(lists...) }
	after := func(word string, lines []string) []string {
		return append([]string{word + "\n" + lines[0]}, lines[1:]...)
	}
	end := []string{"end"}
	checkLines(t, head+"if p then sr s(p,0); rtrig g(sq); end;", joined(names, after("if p then", sr), rtrig, end)...)
	checkLines(t, head+"if p then sr s(p,0); else rtrig g(sq); end;", joined(names, after("if p then", sr), after("else", rtrig), end)...)
	checkLines(t, head+"if p then else sr s(p,0); rtrig g(sq); end;", joined(names, after("if p then\nelse", sr), rtrig, end)...)
	checkLines(t, head+"sr s(p,0); x := 1; rtrig g(sq);", joined(names, sr, []string{"x := 1"}, rtrig)...)
	checkLines(t, head+"x := 1; sr s(p,0); rtrig g(sq); x := 2;", joined(names, []string{"x := 1"}, sr, rtrig, []string{"x := 2"})...)
	checkLines(t, head+"if p then x := 1; sr s(p,0); x := 2; else if sq then rtrig g(sq); end; x := 3; end;",
		joined(names, []string{"if p then\nx := 1"}, sr, []string{"x := 2"}, after("else\nif sq then", rtrig), end, []string{"x := 3"}, end)...)
	checkLines(t, head+"var i:int; for i := 0 to 3 do x := i; end; sr s(p,0); rtrig g(sq);", joined(names, []string{"for i := 0 to 3 do\nx := i", "end"}, sr, rtrig)...)
}

// Kids are written within brackets as FormatTree writes them.
func TestKidsOfEachKind(t *testing.T) {
	const head = "in i:int; in p:bool; var n:int; var f:bool; var rn:int[3]; var rb:bool[2]; "
	for given, written := range map[string]string{
		"p": "p", "0": "0", "1": "1", "true": "1", "false": "0", "16#1": "1", "rb[1]": "rb [ 1 ]", "rb[rn[i]]": "rb [ rn [ i ] ]", "not p": "( not p )", "not not f": "( not ( not f ) )",
		"p and f": "( p and f )", "p or f": "( p or f )", "p xor f": "( p xor f )", "i < n": "( i < n )", "i = n": "( i = n )", "p = f": "( p = f )", "1 = p": "( 1 = p )",
		"i > n": "( n < i )", "i <= n": "( not ( n < i ) )", "i >= n": "( not ( i < n ) )", "i <> n": "( not ( i = n ) )", "p or f and not p": "( p or ( f and ( not p ) ) )", "(p or f) and p": "( ( p or f ) and p )",
		"sq": "sq", "not sq": "( not sq )", "sq = rb[n + 1]": "( sq = rb [ ( n + 1 ) ] )",
	} {
		checkLines(t, head+"sr s("+given+",p);", "var sq : bool", "var sa : bool", "var sb : bool", "sa := "+written, "sb := p", "sq := ( sa or ( sq and ( not sb ) ) )")
		checkLines(t, head+"sr s(f,"+given+");", "var sq : bool", "var sa : bool", "var sb : bool", "sa := f", "sb := "+written, "sq := ( sa or ( sq and ( not sb ) ) )")
	}
	for given, written := range map[string]string{
		"i": "i", "0": "0", "65535": "65535", "16#FF": "255", "true": "1", "tv": "tv", "rn[2]": "rn [ 2 ]", "rn[-n]": "rn [ ( - n ) ]", "-i": "( - i )", "- -1": "( - ( - 1 ) )",
		"i + n": "( i + n )", "i - n": "( i - n )", "i * n": "( i * n )", "i / n": "( i / n )", "i mod n": "( i mod n )", "i + n * 2": "( i + ( n * 2 ) )", "(i + n) * 2": "( ( i + n ) * 2 )", "i - n - 1": "( ( i - n ) - 1 )", "tv + 1": "( tv + 1 )",
	} {
		checkLines(t, head+"ton t(p,"+given+");", "var tv : int", "var tq : bool", "var ta : bool", "var tb : int", "ta := p", "tb := "+written,
			"if ( not ta ) then\ntv := 0", "else\nif ( tv < tb ) then\ntv := ( tv + 1 )", "end", "end", "tq := ( ta and ( not ( tv < tb ) ) )")
	}
}

// All Kids are kept ahead of what is done to the block's own, so that these are what they were.
func TestKidsThatNameTheBlocksOwn(t *testing.T) {
	tree := checkLines(t, "out x:int; out y:bool; ctu c(not cq, cm, cv + 1); x := cv; y := cq;", "var cv : int", "var cm : bool", "var cq : bool", "var ca : bool", "var cb : bool", "var cc : int",
		"ca := ( not cq )", "cb := cm", "cc := ( cv + 1 )", "if cb then\ncv := 0", "else\nif ( ( ca and ( not cm ) ) and ( cv < 32767 ) ) then\ncv := ( cv + 1 )", "end", "end", "cm := ca", "cq := ( not ( cv < cc ) )", "x := cv", "y := cq")
	if got := checkScans(t, tree, make([][]int64, 3)); !sameScans(got, impl.ScansResult{Failed: -1, Outs: [][]int64{{1, 1}, {0, 0}, {1, 1}}}) {
		t.Errorf("scans: %v", got)
	}
}

// The types of what comes to be are those of the block, whatever the Kids are.
func TestTypesOfDeclarations(t *testing.T) {
	got := checkExpanded(t, program(t, "in a:int[2]; out bb:bool; var z:int; ctu c(1,0,1); if 1 then ton t(1,1); end; rtrig r(0); sr s(1,1);"))
	const want = "a:1,1,2 bb:2,2,0 z:3,1,0 cv:3,1,0 cm:3,2,0 cq:3,2,0 tv:3,1,0 tq:3,2,0 rm:3,2,0 rq:3,2,0 sq:3,2,0 ca:3,2,0 cb:3,2,0 cc:3,1,0 ta:3,2,0 tb:3,1,0 ra:3,2,0 sa:3,2,0 sb:3,2,0"
	if shown := showTree(impl.Tree{Vars: got.Tree.Vars}); got.Code != impl.OK || shown != want {
		t.Errorf("code %d, %s; want %s", got.Code, shown, want)
	}
}

func TestDeclarations24And25AsStatements(t *testing.T) {
	for call, more := range map[string]int{"": 0, "ctu c(1,1,1);": 6, "ton c(1,1);": 4, "rtrig c(1);": 3, "sr c(1,1);": 3, "ctu c(1,1,1); rtrig d(1);": 9, "if 1 then sr c(1,1); else ton d(1,1); end;": 7} {
		got := checkExpanded(t, program(t, declarations(24-more)+call))
		if got.Code != impl.OK || len(got.Tree.Vars) != 24 {
			t.Errorf("%q: %d variables, code %d", call, len(got.Tree.Vars), got.Code)
		}
		if more > 0 {
			checkUnexpanded(t, declarations(25-more)+call, impl.ErrMany, -1)
			checkUnexpanded(t, declarations(24)+call, impl.ErrMany, -1)
		}
	}
}

// What it costs and how many cells it takes is asked of the new tree: of some blocks it is more than it was.
func TestBudgetsAsStatements(t *testing.T) {
	for call, more := range map[string][2]int64{"ctu c(1,1,1);": {16, 28}, "ton c(1,1);": {15, 22}, "rtrig c(1);": {14, 9}, "sr c(1,1);": {15, 11}, "ctu c(1,1,1); sr d(1,1);": {31, 39}} {
		for budget := int64(1940); budget <= 1996; budget++ {
			text := withCost(t, budget) + call
			got := checkExpanded(t, program(t, text))
			if code := codeIf(impl.ErrMany, budget+more[0] > 2000 || budget+more[1] > 2000); got.Code != code || got.At != -min(1, code) {
				t.Errorf("%q of the budget %d: code %d at %d", call, budget, got.Code, got.At)
			}
			if check := impl.CheckTree(got.Tree); got.Code == impl.OK && check != (impl.CheckResult{Budget: budget + more[1]}) {
				t.Errorf("%q of the budget %d: %v", call, budget, check)
			}
		}
	}
}

func TestCells60And61AsStatements(t *testing.T) {
	const rows = "var va:int[8]; var vb:bool[8]; in vc:int[8]; out vd:int[8]; var ve:int[8]; var vf:int[8]; "
	for call, cells := range map[string]int64{"ctu c(1,1,1);": 6, "ton c(1,1);": 4, "rtrig c(1);": 3, "sr c(1,1);": 3} {
		for size := range int64(8) {
			text := rows + "var vg:int[" + string(rune('1'+size)) + "]; " + "var vh:bool;" + call
			got := checkExpanded(t, program(t, text))
			whole := 48 + size + 2 + cells
			if code := codeIf(impl.ErrMany, whole > 60); got.Code != code || got.At != -min(1, code) {
				t.Errorf("%q of %d cells: code %d at %d", text, whole, got.Code, got.At)
			}
			if got.Code == impl.OK && impl.CellsOf(got.Tree).Value != whole {
				t.Errorf("%q: %v cells, want %d", text, impl.CellsOf(got.Tree), whole)
			}
		}
	}
}

func TestDepth20And21AsStatements(t *testing.T) {
	for call, depth := range map[string]int{"ctu c(1,1,1);": 6, "ton c(1,1);": 5, "rtrig c(1);": 4, "sr c(1,1);": 5, "rtrig c(not not not not not not 1);": 8} {
		for deep := range 19 {
			text := nestedCall(deep, call)
			if impl.ParseText(text).Code != impl.OK {
				continue
			}
			got := checkExpanded(t, program(t, text))
			if code := codeIf(impl.ErrDeep, deep+depth > 20); got.Code != code || got.At != -min(1, code) {
				t.Errorf("%q %d deep: code %d at %d", call, deep, got.Code, got.At)
			}
			if got.Code == impl.OK && deepest(got.Tree) != int64(deep+depth) {
				t.Errorf("%q %d deep: %d", call, deep, deepest(got.Tree))
			}
		}
	}
}

func tokensOf(text string) int {
	return len(eachToken.FindAllString(text, -1))
}

// A text of just as many tokens as there may be, and of one more; it is far from too long, and of no more than 200 nodes.
func TestTokens400And401AsStatements(t *testing.T) {
	seen := map[int64]bool{}
	for _, call := range []string{"", "ctu c(1,1,1);", "ton c(1,1);", "rtrig c(1);", "sr c(1,1);"} {
		for tokens := 395; tokens <= 405; tokens++ {
			tree := program(t, textOfTokens(t, call, tokens))
			text := expandedText(tree)
			if tokensOf(text) != tokens || len(text) >= 1200 {
				t.Fatalf("%d tokens, %d bytes, want %d", tokensOf(text), len(text), tokens)
			}
			got := checkExpanded(t, tree)
			if code := codeIf(impl.ErrMany, tokens > 400); got.Code != code || got.At != -min(1, code) {
				t.Errorf("%q of %d tokens: code %d at %d", call, tokens, got.Code, got.At)
			}
			seen[got.Code] = true
		}
	}
	if len(seen) != 2 {
		t.Errorf("codes: %v", seen)
	}
}

// textOfTokens answers a program that has so many tokens, told by statements: a set has 4, and a sign is 3 more.
func textOfTokens(t *testing.T, call string, tokens int) string {
	text := "var n:int; " + call + strings.Repeat("n := -----1; ", 10)
	left := tokens - tokensOf(expandedText(program(t, text)))
	signs := (4 - left%4) % 4
	return text + strings.Repeat("n := -1; ", signs) + strings.Repeat("n := 1; ", (left-7*signs)/4)
}

// A text of just as many bytes as there may be, and of one more.
func TestBytes1200And1201AsStatements(t *testing.T) {
	for _, call := range []string{"", "ctu abcdefg(1,1,1);", "ton abcdefg(1,1);", "rtrig abcdefg(1);", "sr abcdefg(1,1);", "sr abcdefg(1,not (n < n)); ctu b(n=1,0,n);"} {
		for bytes := 1195; bytes <= 1205; bytes++ {
			text := textOfBytes(t, call, bytes)
			tree := program(t, text)
			if whole := expandedText(tree); len(whole) != bytes || tokensOf(whole) > 400 {
				t.Fatalf("%q: %d bytes, want %d, %d tokens", text, len(whole), bytes, tokensOf(whole))
			}
			got := checkExpanded(t, tree)
			if code := codeIf(impl.ErrMany, bytes > 1200); got.Code != code || got.At != -min(1, code) {
				t.Errorf("%q of %d bytes: code %d at %d", call, bytes, got.Code, got.At)
			}
		}
	}
}

// textOfBytes answers a program that has so many bytes, told by statements: a set has 16, and each more of its digits is one more.
func textOfBytes(t *testing.T, call string, bytes int) string {
	text := "var n:int; var abcdefgh:int; " + call
	left := bytes - len(expandedText(program(t, text)))
	text += strings.Repeat("abcdefgh := 1; ", left/16-4)
	for i := range 4 {
		text += "abcdefgh := 1" + strings.Repeat("0", (left%16+i)/4) + "; "
	}
	return text
}
