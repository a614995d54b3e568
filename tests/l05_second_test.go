package tests

import (
	"math"
	"math/big"
	"slices"
	"strings"
	"testing"

	"loop.example/g00251/impl"
)

// The second way to chapter 5: what may be wrong is listed whole, in the order in which it is told,
// and the first of it that is so is the answer.

type asked struct {
	code  int64
	node  int64
	wrong bool
}

// Of each block the letters of its own, and what it must be given: b a bool, i an int.
var ownLetters = []string{"", "vmq", "vq", "mq", "q"}
var givenLetters = []string{"", "bbi", "bi", "b", "bb"}

func typeOfLetter(letter rune) int64 {
	if letter == 'v' || letter == 'i' {
		return impl.TypeInt
	}
	return impl.TypeBool
}

// cellNames answers for each cell whose it is.
func cellNames(t impl.Tree) []string {
	var names []string
	for _, v := range t.Vars {
		names = append(names, slices.Repeat([]string{v.Name}, max(1, int(v.Size)))...)
	}
	return append(names, ownNames(t)...)
}

func ownNames(t impl.Tree) []string {
	var names []string
	for _, node := range t.Nodes {
		if node.Kind == impl.NodeCall {
			for _, letter := range ownLetters[node.Op] {
				names = append(names, node.Name+string(letter))
			}
		}
	}
	return names
}

// readable answers what a name is: its type (0 where there is none), its size, its kind (0 of a block's own).
func readable(t impl.Tree, name string) (typ, size, kind int64) {
	for _, v := range t.Vars {
		if v.Name == name {
			return v.Type, v.Size, v.Kind
		}
	}
	if slices.Contains(ownNames(t), name) {
		return typeOfLetter(rune(name[len(name)-1])), 0, 0
	}
	return 0, 0, -1
}

// plainType is what an expression is, whatever its kids are.
func plainType(t impl.Tree, at int64) int64 {
	node := t.Nodes[at]
	switch node.Kind {
	case impl.NodeName, impl.NodeItem:
		typ, _, _ := readable(t, node.Name)
		return typ
	case impl.NodeNot:
		return impl.TypeBool
	case impl.NodeTwo:
		if node.Op > impl.OpMod {
			return impl.TypeBool
		}
	}
	return impl.TypeInt
}

// asksOfExpression lists what is asked of an expression that must be of a type, or of any where that is 0.
func asksOfExpression(t impl.Tree, at int64, wanted int64) []asked {
	node := t.Nodes[at]
	var asks []asked
	switch node.Kind {
	case impl.NodeName:
		_, size, kind := readable(t, node.Name)
		asks = append(asks, asked{impl.ErrNone, at, kind < 0}, asked{impl.ErrForm, at, size > 0})
	case impl.NodeItem:
		_, size, kind := readable(t, node.Name)
		asks = append(asks, asked{impl.ErrNone, at, kind < 1}, asked{impl.ErrForm, at, size == 0})
		asks = append(asks, asksOfExpression(t, node.Kids[0], impl.TypeInt)...)
	case impl.NodeNeg:
		asks = asksOfExpression(t, node.Kids[0], impl.TypeInt)
	case impl.NodeNot:
		asks = asksOfExpression(t, node.Kids[0], impl.TypeBool)
	case impl.NodeTwo:
		asks = asksOfTwo(t, node)
	}
	truth := node.Kind == impl.NodeNum && node.Num < 2 && wanted == impl.TypeBool
	return append(asks, asked{impl.ErrType, at, wanted != 0 && plainType(t, at) != wanted && !truth})
}

func asksOfTwo(t impl.Tree, node impl.Node) []asked {
	left, right := node.Kids[0], node.Kids[1]
	wanted := int64(impl.TypeInt)
	switch {
	case node.Op == impl.OpSame && t.Nodes[left].Kind == impl.NodeNum:
		return append(asksOfExpression(t, left, plainType(t, right)), asksOfExpression(t, right, 0)...)
	case node.Op == impl.OpSame:
		return append(asksOfExpression(t, left, 0), asksOfExpression(t, right, plainType(t, left))...)
	case node.Op == impl.OpAnd || node.Op == impl.OpOr || node.Op == impl.OpXor:
		wanted = impl.TypeBool
	}
	return append(asksOfExpression(t, left, wanted), asksOfExpression(t, right, wanted)...)
}

// asksOfStatement is told the variables of the fors around it.
func asksOfStatement(t impl.Tree, at int64, around []string) []asked {
	node := t.Nodes[at]
	typ, size, kind := readable(t, node.Name)
	isRow := node.Kind == impl.NodePut
	target := []asked{{impl.ErrNone, at, kind < 1}, {impl.ErrForm, at, (size > 0) != isRow}, {impl.ErrState, at, kind == impl.VarIn || slices.Contains(around, node.Name)}}
	switch node.Kind {
	case impl.NodeSet:
		return append(target, asksOfExpression(t, node.Kids[0], typ)...)
	case impl.NodePut:
		return slices.Concat(target, asksOfExpression(t, node.Kids[0], impl.TypeInt), asksOfExpression(t, node.Kids[1], typ))
	case impl.NodeIf:
		asks := asksOfExpression(t, node.Kids[0], impl.TypeBool)
		for _, place := range slices.Concat(node.Then, node.Else) {
			asks = append(asks, asksOfStatement(t, place, around)...)
		}
		return asks
	case impl.NodeFor:
		asks := append(target, asked{impl.ErrType, at, typ != impl.TypeInt}, asked{impl.ErrRange, at, node.Num > 1000 || node.Far > 1000})
		for _, place := range node.Then {
			asks = append(asks, asksOfStatement(t, place, append(slices.Clone(around), node.Name))...)
		}
		return asks
	}
	wanted := givenLetters[node.Op]
	asks := []asked{{impl.ErrMany, at, len(wanted) != len(node.Kids) || len(around) > 0}}
	for i, kid := range node.Kids[:min(len(node.Kids), len(wanted))] {
		asks = append(asks, asksOfExpression(t, kid, typeOfLetter(rune(wanted[i])))...)
	}
	return asks
}

func asksOfNames(t impl.Tree) []asked {
	var names, calls []string
	for _, v := range t.Vars {
		names = append(names, v.Name)
	}
	for _, node := range t.Nodes {
		if node.Kind == impl.NodeCall {
			calls = append(calls, node.Name)
		}
	}
	twice := hasTwice(names) || hasTwice(calls) || hasTwice(append(names, ownNames(t)...))
	asks := []asked{{impl.ErrTaken, -1, twice}}
	for _, name := range ownNames(t) {
		asks = append(asks, asked{impl.ErrText, -1, !nameWhole.MatchString(name) || slices.Contains(allWords, name)})
	}
	return asks
}

func hasTwice(names []string) bool {
	for i, name := range names {
		if slices.Contains(names[:i], name) {
			return true
		}
	}
	return false
}

// wholeCost is the cost without a most.
func wholeCost(t impl.Tree, at int64) *big.Int {
	node := t.Nodes[at]
	sum := func(places []int64) *big.Int {
		all := new(big.Int)
		for _, place := range places {
			all.Add(all, wholeCost(t, place))
		}
		return all
	}
	cost := sum(node.Kids)
	cost.Add(cost, big.NewInt(1))
	then := sum(node.Then)
	switch node.Kind {
	case impl.NodeIf:
		if other := sum(node.Else); other.Cmp(then) > 0 {
			then = other
		}
		cost.Add(cost, then)
	case impl.NodeFor:
		cost.Add(cost, big.NewInt(2))
		if node.Far >= node.Num {
			round := then.Add(then, big.NewInt(3))
			cost.Add(cost, round.Mul(round, big.NewInt(node.Far-node.Num+1)))
		}
	case impl.NodeCall:
		cost.Add(cost, big.NewInt(12))
	}
	return cost
}

func costOf(t impl.Tree, at int64) int64 {
	cost := wholeCost(t, at)
	if cost.Cmp(big.NewInt(100000)) > 0 {
		return 100000
	}
	return cost.Int64()
}

func firstWrong(asks []asked) (code, node int64) {
	for _, ask := range asks {
		if ask.wrong {
			return ask.code, ask.node
		}
	}
	return impl.OK, 0
}

// checked and typed are told the fault of the tree.
func checked(t impl.Tree, fault int64) impl.CheckResult {
	if fault != impl.OK {
		return impl.CheckResult{Code: fault, Node: -1}
	}
	asks := asksOfNames(t)
	budget := int64(1)
	for _, place := range t.Body {
		asks = append(asks, asksOfStatement(t, place, nil)...)
		budget += costOf(t, place)
	}
	asks = append(asks, asked{impl.ErrMany, -1, budget > 2000 || len(cellNames(t)) > 60})
	if code, node := firstWrong(asks); code != impl.OK {
		return impl.CheckResult{Code: code, Node: node}
	}
	return impl.CheckResult{Budget: budget}
}

func typed(t impl.Tree, at int64, fault int64) impl.TypeResult {
	if fault != impl.OK {
		return impl.TypeResult{Code: fault, Node: -1}
	}
	if at < 0 || at >= int64(len(t.Nodes)) || t.Nodes[at].Kind > impl.NodeTwo {
		return impl.TypeResult{Code: impl.ErrRange, Node: -1}
	}
	if code, node := firstWrong(asksOfExpression(t, at, 0)); code != impl.OK {
		return impl.TypeResult{Code: code, Node: node}
	}
	return impl.TypeResult{Type: plainType(t, at)}
}

// namesToAsk are those of a tree, some that are nearly such, and some that are none.
func namesToAsk(t impl.Tree) []string {
	names := []string{"", "a", "x", "if", "A", "nosuch", "abcdefghq", "\xff"}
	for _, v := range t.Vars {
		names = append(names, v.Name)
	}
	for _, node := range t.Nodes {
		names = append(names, node.Name, node.Name+"v", node.Name+"m", node.Name+"q", node.Name+"a")
	}
	return names
}

func checkCells(t *testing.T, tree impl.Tree, fault int64) {
	t.Helper()
	var cells []string
	if fault == impl.OK {
		cells = cellNames(tree)
	}
	if got, want := impl.CellsOf(tree), (impl.IntResult{Code: fault, Value: int64(len(cells))}); got != want {
		t.Fatalf("CellsOf(%s) = %v, want %v", showTree(tree), got, want)
	}
	for _, name := range namesToAsk(tree) {
		want := impl.IntResult{Code: impl.ErrNone}
		if at := slices.Index(cells, name); at >= 0 {
			want = impl.IntResult{Value: int64(at)}
		}
		if fault != impl.OK {
			want = impl.IntResult{Code: fault}
		}
		if got := impl.CellOf(tree, name); got != want {
			t.Fatalf("CellOf(%s, %q) = %v, want %v", showTree(tree), name, got, want)
		}
	}
}

func checkNames(t *testing.T, tree impl.Tree, fault int64) {
	t.Helper()
	for _, kind := range []int64{math.MinInt64, -1, 0, 1, 2, 3, 4, math.MaxInt64} {
		want := impl.NamesResult{Code: fault}
		if fault == impl.OK && (kind < 1 || kind > 3) {
			want.Code = impl.ErrRange
		}
		for _, v := range tree.Vars {
			if want.Code == impl.OK && v.Kind == kind {
				want.Names = append(want.Names, v.Name)
			}
		}
		if got := impl.NamesOf(tree, kind); got.Code != want.Code || !slices.Equal(got.Names, want.Names) {
			t.Fatalf("NamesOf(%s, %d) = %v, want %v", showTree(tree), kind, got, want)
		}
	}
}

// checkAll holds every function of the chapter against the second way, at every place.
func checkAll(t *testing.T, tree impl.Tree) impl.CheckResult {
	t.Helper()
	fault := faultOf(tree)
	got, want := impl.CheckTree(tree), checked(tree, fault)
	if got != want {
		t.Fatalf("CheckTree(%s) = %v, want %v", showTree(tree), got, want)
	}
	places := []int64{math.MinInt64, -1, int64(len(tree.Nodes)), math.MaxInt64}
	for at := range tree.Nodes {
		places = append(places, int64(at))
	}
	for _, at := range places {
		if got, want := impl.TypeOf(tree, at), typed(tree, at, fault); got != want {
			t.Fatalf("TypeOf(%s, %d) = %v, want %v", showTree(tree), at, got, want)
		}
		want := impl.IntResult{Code: fault}
		switch {
		case fault != impl.OK:
		case at < 0 || at >= int64(len(tree.Nodes)):
			want.Code = impl.ErrRange
		default:
			want.Value = costOf(tree, at)
		}
		if got := impl.CostOf(tree, at); got != want {
			t.Fatalf("CostOf(%s, %d) = %v, want %v", showTree(tree), at, got, want)
		}
	}
	checkCells(t, tree, fault)
	checkNames(t, tree, fault)
	return got
}

// fitMaker makes programs of which most may be run: all it writes fits, but for what it gets wrong now and then.
type fitMaker struct {
	programMaker
	wrongs int // of so many choices one is wrong; 0: none is
	around []string
}

func (m *fitMaker) errs() bool {
	return m.wrongs > 0 && m.less(m.wrongs) == 0
}

// Of each name a letter tells what it is.
func (m *fitMaker) program() string {
	text := "in i:int; in p:bool; in ri:int[2]; out o:int; out b:bool; var n:int; var k:int; var f:bool; var rn:int[3]; out rf:bool[2];\n"
	if m.errs() {
		text += m.one("in out var") + " " + m.one("n rn z cq tv q") + " : " + m.one("int bool") + m.one("; [1]; [8];") + "\n"
	}
	var calls []string
	for _, call := range []string{"ctu c(%b,%b,%i);", "ton t(%b,%i);", "rtrig r(%b);", "sr s(%b,%b);"} {
		if m.less(2) == 0 {
			calls = append(calls, m.filled(call)+"\n")
		}
	}
	if m.wrongs > 0 && m.less(10) == 0 {
		calls = append(calls, m.filled(m.one("ctu|c(%b,%i); ton|t(%b); rtrig|r(%b,%b); sr|z(%b,%b,%b); sr|abcdefgh(%b,%b); ton|abcdefgh(%b,%i); ctu|abcdefgh(%b,%b,%i); rtrig|abcdefg(%b); sr|c(%b,%b); ton|p(%b,%i);")))
	}
	body := m.statements(1+m.less(4), 2)
	return text + body + strings.Join(calls, "")
}

func (m *fitMaker) filled(pattern string) string {
	text := strings.Replace(pattern, "|", " ", 1)
	for strings.Contains(text, "%") {
		at := strings.IndexByte(text, '%')
		typ := int64(impl.TypeInt)
		if text[at+1] == 'b' {
			typ = impl.TypeBool
		}
		text = text[:at] + m.of(typ, 2) + text[at+2:]
	}
	return text
}

func (m *fitMaker) statements(count, deep int) string {
	text := ""
	for range count {
		text += m.fitting(deep) + "\n"
	}
	return text
}

func (m *fitMaker) fitting(deep int) string {
	choice := m.less(7)
	if deep == 0 {
		choice = m.less(4)
	}
	if m.errs() {
		return m.one("rn:=1; n[0]:=1; zz:=1; zz[1]:=2; cq:=1; i:=2; p:=true; ri[0]:=1; rn[p]:=1; rn[1]:=p; n:=p; b:=n; b:=2; if|n|then|end; if|2|then|end; sr|z(p,p); o:=cq; o:=cv; b:=cq[1]; "+
			"for|b:=0to|1do|end; for|zz:=0to|1do|end; for|cv:=0to|1do|end; for|rn:=0to|1do|end; for|i:=0to|1do|end; for|n:=0to|1001do|end; for|n:=1001to|0do|end; for|o:=0to|65535do|end; for|k:=1000to|1001do|end; for|n:=0to|1do|n:=1;end; for|k:=1to|0do|for|k:=0to|0do|end;end;") + "\n"
	}
	ints := slices.DeleteFunc([]string{"o", "n", "k"}, func(name string) bool { return slices.Contains(m.around, name) })
	switch choice {
	case 0:
		return m.one("b f") + " := " + m.of(impl.TypeBool, 3) + ";"
	case 1:
		return "rn[" + m.of(impl.TypeInt, 2) + "] := " + m.of(impl.TypeInt, 2) + ";"
	case 2:
		return "rf[" + m.of(impl.TypeInt, 2) + "] := " + m.of(impl.TypeBool, 2) + ";"
	case 3:
		if len(ints) > 0 {
			return ints[m.less(len(ints))] + " := " + m.of(impl.TypeInt, 3) + ";"
		}
		return "f := " + m.of(impl.TypeBool, 1) + ";"
	case 4:
		return "if " + m.of(impl.TypeBool, 3) + " then " + m.statements(m.less(3), deep-1) + "else " + m.statements(m.less(3), deep-1) + "end;"
	case 5:
		return "if " + m.of(impl.TypeBool, 2) + " then " + m.statements(m.less(3), deep-1) + "end;"
	}
	if len(ints) == 0 {
		return "b := 1;"
	}
	name := ints[m.less(len(ints))]
	m.around = append(m.around, name)
	then := m.statements(m.less(3), deep-1)
	m.around = m.around[:len(m.around)-1]
	return "for " + name + " := " + m.one("0 1 2 3") + " to " + m.one("0 1 2 7 16#F") + " do " + then + "end;"
}

// of answers an expression of a type.
func (m *fitMaker) of(typ int64, deep int) string {
	if m.errs() {
		if m.less(3) == 0 {
			return m.one("zz zz[1] rn rf n[0] rn[p] cv cq rq tv sq cq[0] -p 2 1 0")
		}
		typ = 3 - typ
	}
	choice := m.less(6)
	if deep == 0 {
		choice = m.less(3)
	}
	i := func() string { return m.of(impl.TypeInt, deep-1) }
	b := func() string { return m.of(impl.TypeBool, deep-1) }
	if typ == impl.TypeInt {
		switch choice {
		case 0:
			return m.one("0 1 2 65535 true false")
		case 1, 2:
			return m.one("i o n k i o n k ri[0] rn[2]")
		case 3:
			return m.one("rn ri") + "[" + i() + "]"
		case 4:
			return "(- " + i() + ")"
		}
		return "(" + i() + m.one("|+| |-| |*| |/| |mod|") + i() + ")"
	}
	switch choice {
	case 0:
		return m.one("0 1 true false")
	case 1, 2:
		return m.one("p b f p b f rf[1]")
	case 3:
		return "rf[" + i() + "]"
	case 4:
		return "(not " + b() + ")"
	}
	switch m.less(3) {
	case 0:
		return "(" + i() + m.one("|<| |=| |<>| |>=|") + i() + ")"
	case 1:
		return "(" + b() + m.one("|=| |<>|") + b() + ")"
	}
	return "(" + b() + m.one("|and| |or| |xor|") + b() + ")"
}

func (m *fitMaker) one(of string) string {
	return strings.ReplaceAll(m.programMaker.one(of), "|", " ")
}
