package tests

import (
	"reflect"
	"strconv"
	"strings"
	"testing"

	"loop.example/g00251/impl"
)

// checkParsed holds what is read against the second way to it.
func checkParsed(t *testing.T, text string) impl.TreeResult {
	t.Helper()
	got, want := impl.ParseText(text), parsed(text)
	if got.Code != want.Code || got.At != want.At || showTree(got.Tree) != showTree(want.Tree) {
		t.Fatalf("ParseText(%q) = code %d at %d: %s\nwant code %d at %d: %s",
			text, got.Code, got.At, showTree(got.Tree), want.Code, want.At, showTree(want.Tree))
	}
	return got
}

// checkTree holds what is read against a tree that is written by hand, as showTree shows it.
func checkTree(t *testing.T, text string, want string) {
	t.Helper()
	got := checkParsed(t, text)
	if got.Code != impl.OK || got.At != 0 || showTree(got.Tree) != want {
		t.Errorf("ParseText(%q) = code %d at %d: %s\nwant %s", text, got.Code, got.At, showTree(got.Tree), want)
	}
}

// checkExpression is checkTree of an expression that is set to x.
func checkExpression(t *testing.T, text string, want string) {
	t.Helper()
	nodes := strings.Fields(want)
	last := strconv.Itoa(len(nodes) - 1)
	checkTree(t, "x := "+text+";", want+" "+strconv.Itoa(len(nodes))+"=set.x("+last+") body("+strconv.Itoa(len(nodes))+")")
}

// checkUnread is told the place of the fault by ^, which is taken out of the text.
func checkUnread(t *testing.T, text string, code int64) {
	t.Helper()
	at := strings.IndexByte(text, '^')
	text = text[:at] + text[at+1:]
	checkUnreadAt(t, text, code, at)
}

func checkUnreadAt(t *testing.T, text string, code int64, at int) {
	t.Helper()
	got := checkParsed(t, text)
	if got.Code != code || got.At != int64(at) || !reflect.DeepEqual(got.Tree, impl.Tree{}) {
		t.Errorf("ParseText(%q) = code %d at %d: %s\nwant the code %d at %d and no tree", text, got.Code, got.At, showTree(got.Tree), code, at)
	}
}

func TestTreeNumbers(t *testing.T) {
	kinds := []int64{impl.NodeNum, impl.NodeName, impl.NodeItem, impl.NodeNeg, impl.NodeNot, impl.NodeTwo, impl.NodeSet, impl.NodePut, impl.NodeIf, impl.NodeFor, impl.NodeCall}
	for i, kind := range kinds {
		if kind != int64(i)+1 {
			t.Errorf("kind %d has the number %d", i+1, kind)
		}
	}
	if impl.VarIn != 1 || impl.VarOut != 2 || impl.VarOwn != 3 || impl.TypeInt != 1 || impl.TypeBool != 2 {
		t.Error("a kind or a type of variables has another number")
	}
	if impl.BlockCtu != 1 || impl.BlockTon != 2 || impl.BlockRtrig != 3 || impl.BlockSr != 4 || impl.MaxVars != 24 || impl.MaxNodes != 200 {
		t.Error("a block, MaxVars or MaxNodes is another number")
	}
}

func TestNoProgram(t *testing.T) {
	for _, text := range []string{"", " ", "\n", " \n\n  ", strings.Repeat(" ", 1200)} {
		got := impl.ParseText(text)
		if got.Code != impl.OK || got.At != 0 || len(got.Tree.Vars)+len(got.Tree.Nodes)+len(got.Tree.Body) != 0 {
			t.Errorf("ParseText(%q) = %v", text, got)
		}
		checkTree(t, text, "")
	}
	if got := impl.FormatTree(impl.Tree{}); got != (impl.TextResult{}) {
		t.Errorf("a tree of nothing is written %v", got)
	}
}

func TestDeclarationsAlone(t *testing.T) {
	checkTree(t, "in a : int ;", "a:1,1,0")
	checkTree(t, "out b:bool;", "b:2,2,0")
	checkTree(t, "var c:int[3];in d:bool[8];", "c:3,1,3 d:1,2,8")
	for k, kind := range []string{"in", "out", "var"} {
		for y, typ := range []string{"int", "bool"} {
			for size, row := range []string{"", "[1]", "[2]", "[3]", "[4]", "[5]", "[6]", "[7]", "[8]"} {
				want := "x_y:" + strconv.Itoa(k+1) + "," + strconv.Itoa(y+1) + "," + strconv.Itoa(size)
				checkTree(t, kind+" x_y : "+typ+row+";", want)
				checkTree(t, "\n"+kind+" x_y:"+typ+" "+row+" ;\n", want)
			}
			for _, size := range []string{"0", "9", "10", "65535", "16#0", "16#9", "16#FFFF", "true", "a", "-1", "(1)", "[1]", "]"} {
				checkUnread(t, kind+" x : "+typ+" [ ^"+size+" ] ;", impl.ErrText)
			}
		}
	}
	checkTree(t, "in a:int[16#8]; in a:int[16#0001];", "a:1,1,8 a:1,1,1")
}

func TestDeclarationsThatAreWrong(t *testing.T) {
	for _, text := range []string{"in ^", "in ^;", "in ^in : int;", "in ^5 : int;", "in a ^int;", "in a ^:= int;", "in a^, b : int;", "in a : ^", "in a : ^;", "in a : ^a;",
		"in a : ^true;", "in a : ^in;", "in a : int ^", "in a : int ^:;", "in a : int ^in b : int;", "in a : int [^", "in a : int[^]", "in a : int [2^",
		"in a : int [2^, 3];", "in a : int[2] ^", "in a : int[2] ^[2];", "in a : int [2^;", "in a : int ^:= 5;", "in a : bool ^and;", "^int a : in;", "^bool;", "^;",
		"in a : int;^;", "var ^: int;", "out ^[2];", "x := 1; ^var a : int;", "in a : int; a := 1; ^in b : int;", "if a then ^var b : int; end;"} {
		checkUnread(t, text, impl.ErrText)
	}
}

func TestDeclarations24And25(t *testing.T) {
	full := strings.Repeat("var a:int;", 24)
	if got := checkParsed(t, full); got.Code != impl.OK || len(got.Tree.Vars) != 24 {
		t.Fatalf("24 declarations: code %d at %d, %d", got.Code, got.At, len(got.Tree.Vars))
	}
	for _, last := range []string{"var b:int^;", "in b:bool[8]^;", "out bcd : int\n\n ^;x := ", "var b:int^; var c", "var b:int^;)", "var b:int ^; var c:int; var"} {
		checkUnread(t, full+last, impl.ErrMany)
	}
	// A declaration that is not read to its end is no 25th.
	checkUnread(t, full+"var b:int^", impl.ErrText)
	checkUnread(t, full+"var b:int[^9];", impl.ErrText)
	checkUnread(t, full+"^5", impl.ErrText)
	checkTree(t, full+"x:=1;", strings.Repeat("a:3,1,0 ", 24)+"0=num#1 1=set.x(0) body(1)")
}

func TestEachStatement(t *testing.T) {
	checkTree(t, "x := 5;", "0=num#5 1=set.x(0) body(1)")
	checkTree(t, "x[y] := z;", "0=name.y 1=name.z 2=put.x(0,1) body(2)")
	checkTree(t, "x[1+2] := 3;", "0=num#1 1=num#2 2=two.1(0,1) 3=num#3 4=put.x(2,3) body(4)")
	checkTree(t, "if a then end;", "0=name.a 1=if(0) body(1)")
	checkTree(t, "if a then else end;", "0=name.a 1=if(0) body(1)")
	checkTree(t, "if a then x := 1; end;", "0=name.a 1=num#1 2=set.x(1) 3=if(0)then(2) body(3)")
	checkTree(t, "if a then else x := 1; end;", "0=name.a 1=num#1 2=set.x(1) 3=if(0)else(2) body(3)")
	checkTree(t, "for i := 1 to 3 do end;", "0=for.i#1..3 body(0)")
	checkTree(t, "for i := 65535 to 16#0 do x := i; end;", "0=name.i 1=set.x(0) 2=for.i#65535then(1) body(2)")
	checkTree(t, "for i := 0 to 16#FF do x:=1; x:=2; end;", "0=num#1 1=set.x(0) 2=num#2 3=set.x(2) 4=for.i..255then(1,3) body(4)")
	checkTree(t, "ctu c(a);", "0=name.a 1=call.1.c(0) body(1)")
	checkTree(t, "ton t(a, 5);", "0=name.a 1=num#5 2=call.2.t(0,1) body(2)")
	checkTree(t, "rtrig r(a,b,7);", "0=name.a 1=name.b 2=num#7 3=call.3.r(0,1,2) body(3)")
	checkTree(t, "sr s ( not a , b or c ) ;", "0=name.a 1=not(0) 2=name.b 3=name.c 4=two.7(2,3) 5=call.4.s(1,4) body(5)")
	for op, block := range []string{"ctu", "ton", "rtrig", "sr"} {
		for more, list := range []string{"1", "1,2", "1,2,3"} {
			got := checkParsed(t, block+" x("+list+");").Tree
			if node := got.Nodes[more+1]; node.Op != int64(op)+1 || node.Kind != impl.NodeCall || len(node.Kids) != more+1 {
				t.Errorf("%s of %s: %s", block, list, showTree(got))
			}
		}
	}
}

func TestStatementsWithinStatements(t *testing.T) {
	checkTree(t, "if a then x:=1; y:=2; else z:=3; x:=4; end; y:=5;",
		"0=name.a 1=num#1 2=set.x(1) 3=num#2 4=set.y(3) 5=num#3 6=set.z(5) 7=num#4 8=set.x(7) 9=if(0)then(2,4)else(6,8) 10=num#5 11=set.y(10) body(9,11)")
	checkTree(t, "if a then if b then x:=1; end; else if c then else x:=2; end; end;",
		"0=name.a 1=name.b 2=num#1 3=set.x(2) 4=if(1)then(3) 5=name.c 6=num#2 7=set.x(6) 8=if(5)else(7) 9=if(0)then(4)else(8) body(9)")
	checkTree(t, "for i := 1 to 2 do for k := 3 to 4 do x[i] := k; end; sr s(a); end;",
		"0=name.i 1=name.k 2=put.x(0,1) 3=for.k#3..4then(2) 4=name.a 5=call.4.s(4) 6=for.i#1..2then(3,5) body(6)")
	checkTree(t, "if not a then for i := 0 to 1 do end; end;", "0=name.a 1=not(0) 2=for.i..1 3=if(1)then(2) body(3)")
}

func TestStatementsThatAreWrong(t *testing.T) {
	for _, text := range []string{"x ^", "x ^;", "x ^= 5;", "x ^: = 5;", "x := ^", "x := ^;", "x := 5 ^", "x := 5 ^y", "x := 5;^;", "^5 := x;", "^true := 1;", "^(x) := 1;", "^-x := 1;",
		"^:= 1;", "x[^] := 1;", "x[1 ^:= 2;", "x[1] ^;", "x[1] ^= 2;", "x[1]^[2] := 3;", "x[1] := ^;", "x ^( 1 );", "x := 1 ^:= 2;", "x := y[^];", "x := y[1^;", "x := y[1]^[2];", "x := y ^(1);",
		"if ^then end;", "if a ^end;", "if a ^x := 1; end;", "if a then ^", "if a then ^;", "if a then x := 1 ^end;", "if a then x := 1; ^", "if a then end ^", "if a then end ^x := 1;",
		"if a then else ^else end;", "if a then else end^]", "if a then x := 1; else ^then", "if a ^do end;", "if x ^:= 1;", "^else", "^end;", "^then", "x := 1; ^end;", "^to", "^do", "^not", "^and",
		"for ^", "for ^1 := 0 to 2 do end;", "for i ^= 0 to 2 do end;", "for i := ^x to 2 do end;", "for i := ^-1 to 2 do end;", "for i := ^true to 2 do end;", "for i := 0 ^+ 1 to 2 do end;",
		"for i := 0 ^, 2 do end;", "for i := 0 to ^x do end;", "for i := 0 to ^(1) do end;", "for i := 0 to 1 ^then end;", "for i := 0 to 1 ^x := 1;", "for i := 0 to 1 do x := 1; ^else end;",
		"for i := 0 to 1 do ^", "for i := 0 to 1 do end ^", "for i^[1] := 0 to 1 do end;", "for ^for := 0 to 1 do end;",
		"ctu ^(a);", "ctu ^if(a);", "ctu c ^a;", "ctu c(^);", "ctu c(a ^", "ctu c(a, ^", "ctu c(a, ^);", "ctu c(a,b,c^,d);", "sr c(a,b,c ^;", "ctu c(a) ^", "ctu c(a) ^:= 1;", "ctu c ^:= 5;",
		"ctu c(^,a);", "ton t^[1](a);", "ton ^ton(a);", "rtrig r(a ^b);"} {
		checkUnread(t, text, impl.ErrText)
	}
}

func TestEachExpression(t *testing.T) {
	checkExpression(t, "7", "0=num#7")
	checkExpression(t, "16#FFFF", "0=num#65535")
	checkExpression(t, "0", "0=num")
	checkExpression(t, "true", "0=num#1")
	checkExpression(t, "false", "0=num")
	checkExpression(t, "abcdefgh", "0=name.abcdefgh")
	checkExpression(t, "a[i]", "0=name.i 1=item.a(0)")
	checkExpression(t, "a[b[c]]", "0=name.c 1=item.b(0) 2=item.a(1)")
	checkExpression(t, "a[i+1]*2", "0=name.i 1=num#1 2=two.1(0,1) 3=item.a(2) 4=num#2 5=two.3(3,4)")
	checkExpression(t, "-a", "0=name.a 1=neg(0)")
	checkExpression(t, "- - 1", "0=num#1 1=neg(0) 2=neg(1)")
	checkExpression(t, "not not a", "0=name.a 1=not(0) 2=not(1)")
	checkExpression(t, "-not-1", "0=num#1 1=neg(0) 2=not(1) 3=neg(2)")
	checkExpression(t, "(((a)))", "0=name.a")
	checkExpression(t, "-(-(a))", "0=name.a 1=neg(0) 2=neg(1)")
	for i, sign := range treeOps {
		checkExpression(t, "a "+sign+" b", "0=name.a 1=name.b 2=two."+strconv.Itoa(i+1)+"(0,1)")
	}
}

func TestExpressionsThatAreWrong(t *testing.T) {
	for _, text := range []string{"x := (^);", "x := (a^;", "x := a^);", "x := a ^b;", "x := a + ^;", "x := a + ^+ b;", "x := ^+ a;", "x := ^* a;", "x := a * ^/ b;", "x := - ^;", "x := not ^;",
		"x := not ^= a;", "x := - ^mod a;", "x := a ^not b;", "x := a and ^or b;", "x := a or ^", "x := ^if;", "x := ^int;", "x := a ^true;", "x := ^:= a;", "x := 1 ^2;", "x := (a ^:= b);",
		"x := (a^, b);", "x := ((a)^;", "x := a[1^);", "x := (a^];", "x := ^[a];", "x := a < ^< b;", "x := a = ^= b;", "x := a < ^> b;", "x := a > ^= b;", "x := a ^! b;", "x := 1^[1];", "x := true^[1];", "x := (a)^[1];"} {
		checkUnread(t, text, impl.ErrText)
	}
}

// What binds looser stands further out, whichever of both stands ahead.
func TestWhatBinds(t *testing.T) {
	levels := [][]string{{"or"}, {"xor"}, {"and"}, {"=", "<", "<>", ">", "<=", ">="}, {"+", "-"}, {"*", "/", "mod"}}
	for i, loose := range levels {
		for _, tight := range levels[i+1:] {
			for _, l := range loose {
				for _, k := range tight {
					sameMeaning(t, "a "+l+" b "+k+" c", "a "+l+" ( b "+k+" c )")
					sameMeaning(t, "a "+k+" b "+l+" c", "( a "+k+" b ) "+l+" c")
					sameMeaning(t, "a "+k+" b "+l+" c "+k+" d", "( a "+k+" b ) "+l+" ( c "+k+" d )")
				}
			}
		}
		for _, l := range loose {
			sameMeaning(t, "- a "+l+" b", "(- a) "+l+" b")
			sameMeaning(t, "not a "+l+" b", "(not a) "+l+" b")
			sameMeaning(t, "a "+l+" - b", "a "+l+" (- b)")
			sameMeaning(t, "a "+l+" not b", "a "+l+" (not b)")
			sameMeaning(t, "- a[i "+l+" k]", "- ( a[(i "+l+" k)] )")
		}
	}
	checkExpression(t, "a or b xor c and d = e + f * -g",
		"0=name.a 1=name.b 2=name.c 3=name.d 4=name.e 5=name.f 6=name.g 7=neg(6) 8=two.3(5,7) 9=two.1(4,8) 10=two.10(3,9) 11=two.6(2,10) 12=two.8(1,11) 13=two.7(0,12)")
	checkExpression(t, "a mod b - c < d and e xor f or g",
		"0=name.a 1=name.b 2=two.5(0,1) 3=name.c 4=two.2(2,3) 5=name.d 6=two.9(4,5) 7=name.e 8=two.6(6,7) 9=name.f 10=two.8(8,9) 11=name.g 12=two.7(10,11)")
}

func sameMeaning(t *testing.T, a, b string) {
	t.Helper()
	first, second := checkParsed(t, "x := "+a+";"), checkParsed(t, "x := "+b+";")
	if first.Code != impl.OK || second.Code != impl.OK || showTree(first.Tree) != showTree(second.Tree) {
		t.Errorf("%q is %d %s\n%q is %d %s", a, first.Code, showTree(first.Tree), b, second.Code, showTree(second.Tree))
	}
}

func TestWhatLeansToTheLeft(t *testing.T) {
	for _, level := range [][]string{{"or"}, {"xor"}, {"and"}, {"+", "-"}, {"*", "/", "mod"}} {
		for _, k := range level {
			for _, l := range level {
				sameMeaning(t, "a "+k+" b "+l+" c", "(a "+k+" b) "+l+" c")
				sameMeaning(t, "a "+k+" b "+l+" c "+k+" d", "((a "+k+" b) "+l+" c) "+k+" d")
				one, other := impl.ParseText("x := a "+k+" b "+l+" c;"), impl.ParseText("x := a "+k+" (b "+l+" c);")
				if showTree(one.Tree) == showTree(other.Tree) {
					t.Errorf("a %s b %s c leans to the right", k, l)
				}
			}
		}
	}
	checkExpression(t, "1-2-3", "0=num#1 1=num#2 2=two.2(0,1) 3=num#3 4=two.2(2,3)")
	checkExpression(t, "8/4*2", "0=num#8 1=num#4 2=two.4(0,1) 3=num#2 4=two.3(2,3)")
}

// Those that are made of others have their Kids changed, or not behind them, or both.
func TestComparisons(t *testing.T) {
	checkExpression(t, "a = b", "0=name.a 1=name.b 2=two.10(0,1)")
	checkExpression(t, "a < b", "0=name.a 1=name.b 2=two.9(0,1)")
	checkExpression(t, "a <> b", "0=name.a 1=name.b 2=two.10(0,1) 3=not(2)")
	checkExpression(t, "a > b", "0=name.a 1=name.b 2=two.9(1,0)")
	checkExpression(t, "a <= b", "0=name.a 1=name.b 2=two.9(1,0) 3=not(2)")
	checkExpression(t, "a >= b", "0=name.a 1=name.b 2=two.9(0,1) 3=not(2)")
	checkExpression(t, "-a >= 1+b", "0=name.a 1=neg(0) 2=num#1 3=name.b 4=two.1(2,3) 5=two.9(1,4) 6=not(5)")
	checkExpression(t, "-a <= 1+b", "0=name.a 1=neg(0) 2=num#1 3=name.b 4=two.1(2,3) 5=two.9(4,1) 6=not(5)")
	checkExpression(t, "not a > b", "0=name.a 1=not(0) 2=name.b 3=two.9(2,1)")
	checkExpression(t, "(a > b) <> (c <= d)",
		"0=name.a 1=name.b 2=two.9(1,0) 3=name.c 4=name.d 5=two.9(4,3) 6=not(5) 7=two.10(2,6) 8=not(7)")
	checkExpression(t, "a > b and c >= d", "0=name.a 1=name.b 2=two.9(1,0) 3=name.c 4=name.d 5=two.9(3,4) 6=not(5) 7=two.6(2,6)")
}

func TestTwoComparisonsInARow(t *testing.T) {
	signs := []string{"=", "<", "<>", ">", "<=", ">="}
	for _, k := range signs {
		for _, l := range signs {
			checkUnread(t, "x := a "+k+" b ^"+l+" c;", impl.ErrText)
			checkUnread(t, "x := a + b "+k+" b * c ^"+l+" c;", impl.ErrText)
			checkUnread(t, "x := not a "+k+" b ^"+l, impl.ErrText)
			for _, right := range []string{"x := (a " + k + " b) " + l + " c;", "x := a " + k + " (b " + l + " c);", "x := a " + k + " b and c " + l + " d;"} {
				if got := checkParsed(t, right); got.Code != impl.OK {
					t.Errorf("ParseText(%q): code %d at %d", right, got.Code, got.At)
				}
			}
		}
	}
}

// fullOf answers statements of so many nodes in few tokens; it knows 2 nodes and more.
func fullOf(nodes int) string {
	text := ""
	if nodes%2 == 1 {
		text += "x:=-a;"
		nodes -= 3
	}
	for nodes > 0 {
		count := min(nodes, 38)
		text += "x:=" + strings.Repeat("a+", count/2-1) + "a;"
		nodes -= count
	}
	return text
}

func TestNodes200And201(t *testing.T) {
	for nodes := 2; nodes <= 200; nodes++ {
		if got := checkParsed(t, fullOf(nodes)); got.Code != impl.OK || len(got.Tree.Nodes) != nodes {
			t.Fatalf("%q: code %d at %d, %d nodes, not %d", fullOf(nodes), got.Code, got.At, len(got.Tree.Nodes), nodes)
		}
	}
	// The mark stands ahead of the last token of the last node; ahead of it are so many nodes.
	for _, c := range []struct {
		nodes int
		text  string
	}{
		{0, "x := ^5;"}, {0, "x := ^a;"}, {0, "x := ^true;"}, {0, "x := ^false ;"}, {1, "x := 5 ^;"}, {1, "x := a[1 ^];"}, {1, "x := a [ ( 1 ) ^] ;"}, {2, "x := a[1] ^;"},
		{1, "x := - ^a;"}, {1, "x := -(a^);"}, {1, "x := not ^a ;"}, {2, "x := - - ^a;"}, {1, "x := -((a)^);"}, {2, "x := -a[1^];"}, {3, "x := -a[1]^;"},
		{2, "x := a + ^b;"}, {2, "x := a + (b^);"}, {1, "x := a + ^b * c;"}, {3, "x := a + b * ^c;"}, {4, "x := a + b * ^c;"}, {2, "x := a * ^b + c;"}, {3, "x := a * b + ^c;"},
		{2, "x := a + ^b - c;"}, {4, "x := a + b - ^c;"}, {5, "x := a + b - c ^;"}, {2, "x := (a + ^b);"}, {3, "x := (a + b) ^;"},
		{2, "x := a = ^b;"}, {2, "x := a <> ^b;"}, {3, "x := a <> ^b;"}, {4, "x := a <> b^;"}, {2, "x := a > ^b;"}, {3, "x := a > b^;"}, {3, "x := a <= ^b;"}, {3, "x := a >= (b^);"},
		{2, "x[1] := 2 ^;"}, {1, "if a then end ^;"}, {3, "if a then x := 1; end ^;"}, {3, "if a then x := 1; else end ^;"}, {2, "if a then x := 1 ^; else end;"},
		{0, "for i := 0 to 1 do end ^;"}, {2, "for i := 0 to 1 do x := 1; end^;"}, {1, "for i := 0 to 1 do x := 1^; end;"}, {1, "ctu c(a) ^;"}, {2, "ton t(a,b)^;"}, {3, "sr s(a,b,c) ^;"},
		{2, "ctu c(a,b,^c);"}, {0, "ctu c(^a,b,c);"},
	} {
		checkUnread(t, fullOf(200-c.nodes)+c.text, impl.ErrMany)
		text := strings.Replace(c.text, "^", "", 1)
		if got := checkParsed(t, fullOf(120)+text); got.Code != impl.OK {
			t.Fatalf("%q: code %d at %d", c.text, got.Code, got.At)
		}
	}
}

// Of two faults the one is told that stands further ahead.
func TestNodes201AndOtherFaults(t *testing.T) {
	checkUnread(t, fullOf(200)+"x := ^5 );", impl.ErrMany)
	checkUnread(t, fullOf(200)+"x := ^a )", impl.ErrMany)
	checkUnread(t, fullOf(200)+"x := ^;", impl.ErrText)
	checkUnread(t, fullOf(200)+"x ^)", impl.ErrText)
	checkUnread(t, fullOf(200)+"if ^a", impl.ErrMany)
	checkUnread(t, fullOf(200)+"x := a[^", impl.ErrText)
	checkUnread(t, fullOf(200)+"x := a[^b", impl.ErrMany)
	checkUnread(t, fullOf(200)+"^end", impl.ErrText)
	checkUnread(t, fullOf(199)+"x := 1 ^", impl.ErrText)
	checkUnread(t, fullOf(199)+"x := 1 ^;)", impl.ErrMany)
	checkUnread(t, fullOf(199)+"x := a + ^b )", impl.ErrMany)
	checkUnread(t, "x ^); "+fullOf(190)+fullOf(20), impl.ErrText)
}

// A statement that is one piece of its own, and 62 or 63 brackets: 64 and 65 pieces within one another.
func TestPiecesByBrackets(t *testing.T) {
	for _, leaf := range []string{"1", "a", "true", "a[1]", "- 1", "not a"} {
		inner := strings.Count(leaf, "[") + strings.Count(leaf, " ")
		open, end := strings.Repeat("(", 62-inner), strings.Repeat(")", 62-inner)
		if got := checkParsed(t, "x:="+open+leaf+end+";"); got.Code != impl.OK || got.At != 0 {
			t.Errorf("64 pieces, %s the last: code %d at %d", leaf, got.Code, got.At)
		}
	}
	open := strings.Repeat("(", 62)
	for _, leaf := range []string{"(^1)", "(^a)", "(^true)", "(^false)", "(^a[1])", "(^-1)", "(^not a)", "(^(1))", "(^(", "(^a[", "-^1", "not ^a", "a[^1]", "a[^(1)]", "-^-1", "- ^a[1]", "(^1", "(^a ) )", "(^1 := 5"} {
		checkUnread(t, "x:="+open+leaf+strings.Repeat(")", 62)+";", impl.ErrDeep)
	}
	// What stands beside it is within as many.
	checkUnread(t, "x:="+open+"1+(^1))", impl.ErrDeep)
	checkUnread(t, "x:="+strings.Repeat("(", 61)+"1+((^1)))", impl.ErrDeep)
	if got := checkParsed(t, "x:="+open+"1+1+a*b"+strings.Repeat(")", 62)+";"); got.Code != impl.OK {
		t.Errorf("pieces side by side: code %d at %d", got.Code, got.At)
	}
	// A token that no piece begins with is no piece, however deep it stands.
	checkUnread(t, "x:="+open+"(^)", impl.ErrText)
	checkUnread(t, "x:="+open+"(^", impl.ErrText)
	checkUnread(t, "x:="+open+"-^=", impl.ErrText)
	checkUnread(t, "x:="+open+"(^then", impl.ErrText)
	checkUnread(t, "x[1]:="+open+"(^1))", impl.ErrDeep)
	checkUnread(t, "x["+open+"(^1", impl.ErrDeep)
	checkUnread(t, "ctu c(1,"+open+"(^1", impl.ErrDeep)
	checkUnread(t, "if "+open+"(^1", impl.ErrDeep)
}

// The pieces that are at their end are around none behind them.
func TestPiecesThatAreAtTheirEnd(t *testing.T) {
	deep := "x:=" + strings.Repeat("(", 62) + "1" + strings.Repeat(")", 62) + ";"
	if got := checkParsed(t, deep+deep); got.Code != impl.OK {
		t.Errorf("two deep ones: code %d at %d", got.Code, got.At)
	}
	half := strings.Repeat("(", 30)
	checkUnread(t, "if "+half+"a"+strings.Repeat(")", 30)+" then x:="+half+half+"((^1", impl.ErrDeep)
	checkUnread(t, "if a then else x[-"+half+"1"+strings.Repeat(")", 30)+"]:="+half+half+"((^1", impl.ErrDeep)
	checkUnread(t, "x:=a["+half+"1"+strings.Repeat(")", 30)+"]+"+half+half+"(((^1", impl.ErrDeep)
	checkUnread(t, "ton t(("+half+"1"+strings.Repeat(")", 30)+"),"+half+half+"(((^1", impl.ErrDeep)
	checkUnread(t, "x:="+strings.Repeat("(-", 31)+"1"+strings.Repeat(")", 31)+"+"+half+half+"(((^1", impl.ErrDeep)
}

func TestPiecesBySigns(t *testing.T) {
	for _, signs := range [][]string{{"- "}, {"not "}, {"- ", "not "}, {"not\n", "-"}, {"-", "-", "not "}} {
		text := "x:=" + signsOf(signs, 62) + "1;"
		checkUnreadAt(t, text, impl.ErrDeep, len(text))
		deep := "x:=" + signsOf(signs, 63)
		checkUnread(t, deep+"^1;", impl.ErrDeep)
		checkUnread(t, deep+"^a", impl.ErrDeep)
		checkUnread(t, deep+"^- 1;", impl.ErrDeep)
		checkUnread(t, deep+"^not", impl.ErrDeep)
		checkUnread(t, deep+"^;", impl.ErrText)
		checkUnread(t, deep[:len(deep)-1]+" ^", impl.ErrText)
	}
}

func signsOf(signs []string, count int) string {
	text := ""
	for i := range count {
		text += signs[i%len(signs)]
	}
	return text
}

func TestPiecesByIfAndFor(t *testing.T) {
	ifs, ends := strings.Repeat("if a then ", 63), strings.Repeat("end;", 63)
	text := ifs + ends
	checkUnreadAt(t, text, impl.ErrDeep, len(text))
	checkUnread(t, ifs+"if ^a then end;"+ends, impl.ErrDeep)
	checkUnread(t, ifs+"x := ^a", impl.ErrDeep)
	checkUnread(t, ifs+"if ^", impl.ErrText)
	checkUnread(t, ifs+"for i:=0 to 1 do ^x:=1", impl.ErrDeep)
	checkUnread(t, ifs+"for i:=0 to 1 do ^if a then end; end;", impl.ErrDeep)
	checkUnread(t, ifs+"for i:=0 to 1 do ^for", impl.ErrDeep)
	checkUnread(t, ifs+"for i:=0 to 1 do ^ctu c(a);", impl.ErrDeep)
	checkUnread(t, ifs+"for i:=0 to 1 do ^sr", impl.ErrDeep)
	checkUnread(t, ifs+"for i:=0 to 1 do end; x := ^(", impl.ErrDeep)
	checkUnread(t, ifs+"for i:=0 to 1 do ^then", impl.ErrText)
	checkUnread(t, strings.Replace(ifs, "then ", "then else ", 30)+"for i:=0 to 1 do ^x", impl.ErrDeep)
	fors := strings.Repeat("for i:=0to 1do ", 40)
	checkUnread(t, fors+"x:="+strings.Repeat("(", 23)+"^1", impl.ErrDeep)
	checkUnread(t, fors+strings.Repeat("if a then ", 23)+"x:=^1", impl.ErrDeep)
	deep := fors + strings.Repeat("if a then ", 23) + "for i:=0to 1do "
	checkUnread(t, deep+"^x:=1", impl.ErrDeep)
	checkUnread(t, deep+"^do", impl.ErrText)
	checkUnread(t, deep+"end; if ^b", impl.ErrDeep)
	checkUnread(t, deep+"end; end; x:=-^b", impl.ErrDeep)
}

// 200 nodes ahead of a piece that stands within 64 others: of both codes at one token the first is told.
func TestTooManyAndTooDeep(t *testing.T) {
	open := "x:=" + strings.Repeat("(", 63)
	full := fullOf(200)
	checkUnread(t, full+open+"^1", impl.ErrMany)
	checkUnread(t, full+open+"^a", impl.ErrMany)
	checkUnread(t, full+open+"^true", impl.ErrMany)
	checkUnread(t, full+open+"^a[1]", impl.ErrDeep)
	checkUnread(t, full+open+"^(1)", impl.ErrDeep)
	checkUnread(t, full+open+"^-1", impl.ErrDeep)
	checkUnread(t, full+open+"^)", impl.ErrText)
	checkUnread(t, fullOf(199)+open+"^1", impl.ErrDeep)
	checkUnread(t, fullOf(199)+open+"^a", impl.ErrDeep)
}

func TestDepth20And21(t *testing.T) {
	for _, c := range []struct{ ahead, each, behind string }{
		{"x:=", "-", "1;"}, {"x:=", "not ", "a;"}, {"x:=", "a+", "a;"}, {"x:=", "1-", "1;"}, {"if ", "- ", "a then end;"}, {"ctu c(1,", "-", "1,1);"}, {"x[", "-", "1]:=1;"}, {"x[1]:=", "-", "1;"},
	} {
		right := c.ahead + strings.Repeat(c.each, 18) + c.behind
		if got := checkParsed(t, right); got.Code != impl.OK || got.At != 0 || deepest(got.Tree) != 20 {
			t.Errorf("%q: code %d at %d, depth %d", right, got.Code, got.At, deepest(got.Tree))
		}
		for _, count := range []int{19, 20, 30} {
			wrong := c.ahead + strings.Repeat(c.each, count) + c.behind
			checkUnreadAt(t, wrong, impl.ErrDeep, len(wrong))
			checkUnreadAt(t, wrong+" \n ", impl.ErrDeep, len(wrong)+3)
			checkUnreadAt(t, wrong+"x:=1;", impl.ErrDeep, len(wrong)+5)
			checkUnreadAt(t, wrong+"x:=;", impl.ErrText, len(wrong)+3)
			checkUnreadAt(t, wrong+"x:=1", impl.ErrText, len(wrong)+4)
		}
	}
	for _, c := range []struct {
		ahead, within, behind string
		count                 int
	}{
		{"if a then ", "", "end;", 19}, {"if a then else ", "", "end;", 19}, {"for i:=0to 1do ", "", "end;", 20}, {"if a then ", "x:=1;", "end;", 18}, {"if a then else ", "x:=a+b;", "end;", 17},
		{"for i:=0to 1do ", "x[1]:=-1;", "end;", 17}, {"if a then ", "x:=a<>b;", "end;", 16}, {"if a then ", "x:=a>b;", "end;", 17},
	} {
		for more, want := range []int64{impl.OK, impl.ErrDeep} {
			text := strings.Repeat(c.ahead, c.count+more) + c.within + strings.Repeat(c.behind, c.count+more)
			if got := checkParsed(t, text); got.Code != want || got.At != want/impl.ErrDeep*int64(len(text)) {
				t.Errorf("%q: code %d at %d, want %d", text, got.Code, got.At, want)
			}
		}
	}
}

// deepest asks DepthOf of all nodes.
func deepest(t impl.Tree) int64 {
	most := int64(0)
	for at := range t.Nodes {
		most = max(most, impl.DepthOf(t, int64(at)).Value)
	}
	return most
}

func TestTextsThatEndTooEarly(t *testing.T) {
	whole := "in a:int[3];if a>=b[-1]and not(c)then x[i]:=16#F;else for k:=0 to 3 do sr s(a,true,false);end;end;"
	tokens := impl.LexText(whole).Tokens
	for count := range tokens {
		text := whole[:tokens[count].At]
		if count == 0 || count == 8 {
			if got := checkParsed(t, text); got.Code != impl.OK {
				t.Errorf("ParseText(%q): code %d at %d", text, got.Code, got.At)
			}
			continue
		}
		for _, behind := range []string{"", " ", "\n\n", strings.Repeat(" ", 1200-len(text))} {
			checkUnreadAt(t, text+behind, impl.ErrText, len(text)+len(behind))
		}
	}
	if got := checkParsed(t, whole); got.Code != impl.OK {
		t.Errorf("ParseText(%q): code %d at %d", whole, got.Code, got.At)
	}
}

// The codes of LexText are asked of the whole text ahead of all others.
func TestCodesOfLexText(t *testing.T) {
	for _, text := range []string{"^#", "x := 1; ^?", "x := ); ^007", "; ; ; ^abcdefghi", "x := 65535; y := ^65536;", "x := 1^.5", "; ^é", "in a ; int^\t", "end ^A", "x = 16^G"} {
		checkUnread(t, text, impl.ErrText)
	}
	long := strings.Repeat(" ", 1201)
	checkUnreadAt(t, long, impl.ErrMany, 0)
	checkUnreadAt(t, "x:=1;"+long, impl.ErrMany, 0)
	checkUnreadAt(t, ";;;"+long, impl.ErrMany, 0)
	many := strings.Repeat("x:=1;", 100)
	if got := checkParsed(t, many); got.Code != impl.OK || len(got.Tree.Nodes) != 200 || len(got.Tree.Body) != 100 {
		t.Errorf("100 statements: code %d at %d", got.Code, got.At)
	}
	checkUnread(t, many+"^x:=1;", impl.ErrMany)
	checkUnread(t, many+" \n^;", impl.ErrMany)
	checkUnread(t, strings.Repeat(";", 400)+"^;", impl.ErrMany)
	checkUnread(t, "^"+strings.Repeat(";", 400), impl.ErrText)
	checkUnread(t, strings.Repeat(";", 399)+"^#", impl.ErrText)
	checkUnread(t, strings.Repeat("in a:int;", 25)+strings.Repeat(" ", 900)+"^#", impl.ErrText)
}

func TestProgramsOfNoise(t *testing.T) {
	m := &programMaker{state: 4}
	codes := map[int64]int{}
	for range 1500 {
		text := m.program()
		codes[checkParsed(t, text).Code]++
		checkHurtText(t, m, text)
	}
	for _, code := range []int64{impl.OK, impl.ErrText} {
		if codes[code] < 200 {
			t.Errorf("of 1500 programs just %d have the code %d", codes[code], code)
		}
	}
}

// checkHurtText leaves out a token, or puts one in, or one in place of another, or cuts the text off.
func checkHurtText(t *testing.T, m *programMaker, text string) {
	t.Helper()
	pieces := append(append(allMarks(), allWords...), "a", "x", "0", "8", "9", "(", ")", ";", "end")
	tokens := impl.LexText(text).Tokens
	if len(tokens) == 0 {
		return
	}
	for range 4 {
		token := tokens[m.less(len(tokens))]
		piece := " " + pieces[m.less(len(pieces))] + " "
		end := int(token.At) + len(token.Text)
		checkParsed(t, text[:token.At]+text[end:])
		checkParsed(t, text[:token.At]+piece+text[token.At:])
		checkParsed(t, text[:token.At]+piece+text[end:])
		checkParsed(t, text[:token.At])
	}
}

func TestTokensOfNoise(t *testing.T) {
	for seed := range uint64(6000) {
		checkParsed(t, noiseText(rightPieces(), int(seed)%30, seed))
		checkParsed(t, noiseText(strings.Split("x := |a |1 |( |) |- |not |; |[ |] |if |then |else |end ;|end |+ |< |:= ", "|"), int(seed)%40, seed))
	}
}
