package tests

import (
	"math"
	"reflect"
	"slices"
	"strings"
	"testing"

	"loop.example/g00251/impl"
)

// What the nodes of a kind have, by the number of the kind; all else is 0 or empty.
var nodeFields = []string{"", "num", "name", "name kids1", "kids1", "kids1", "op kids2", "name kids1", "name kids2", "kids1 then else", "name num far then", "op name kids123"}

func has(kind int64, field string) bool {
	return slices.ContainsFunc(strings.Fields(nodeFields[kind]), func(f string) bool { return strings.HasPrefix(f, field) })
}

// faultOf is a second way to TreeFault: what a kind has is asked and then taken away, and nothing may be left.
func faultOf(t impl.Tree) int64 {
	if len(t.Vars) > 24 || len(t.Nodes) > 200 {
		return impl.ErrMany
	}
	for _, v := range t.Vars {
		if slices.Contains(allWords, v.Name) || !nameWhole.MatchString(v.Name) {
			return impl.ErrText
		}
		if v.Kind < 1 || v.Kind > 3 || v.Type < 1 || v.Type > 2 || v.Size < 0 || v.Size > 8 {
			return impl.ErrRange
		}
	}
	owners := map[int64]int{}
	for at, node := range t.Nodes {
		if node.Kind < 1 || node.Kind > 11 || !fieldsFit(node) || !placesFit(t, at, owners) {
			return impl.ErrForm
		}
	}
	for _, place := range t.Body {
		owners[place]++
		if place < 0 || place >= int64(len(t.Nodes)) || t.Nodes[place].Kind < impl.NodeSet {
			return impl.ErrForm
		}
	}
	for at := range t.Nodes {
		if owners[int64(at)] != 1 {
			return impl.ErrForm
		}
	}
	if slices.ContainsFunc(t.Nodes, func(n impl.Node) bool { return deepOf(t, n) > 20 }) {
		return impl.ErrDeep
	}
	return impl.OK
}

func fieldsFit(node impl.Node) bool {
	kind := node.Kind
	mostOp := map[int64]int64{impl.NodeTwo: 10, impl.NodeCall: 4}[kind]
	if has(kind, "op") && (node.Op < 1 || node.Op > mostOp) || has(kind, "name") && !impl.IsName(node.Name) ||
		has(kind, "num") && (node.Num < 0 || node.Num > 65535) || has(kind, "far") && (node.Far < 0 || node.Far > 65535) {
		return false
	}
	counts := ""
	for _, field := range strings.Fields(nodeFields[kind]) {
		switch {
		case field == "op":
			node.Op = 0
		case field == "name":
			node.Name = ""
		case field == "num":
			node.Num = 0
		case field == "far":
			node.Far = 0
		case field == "then":
			node.Then = nil
		case field == "else":
			node.Else = nil
		default:
			counts = strings.TrimPrefix(field, "kids")
		}
	}
	if counts != "" && (len(node.Kids) > 9 || !strings.Contains(counts, string(rune('0'+len(node.Kids))))) || counts == "" && len(node.Kids) > 0 {
		return false
	}
	return node.Op == 0 && node.Name == "" && node.Num == 0 && node.Far == 0 && len(node.Then) == 0 && len(node.Else) == 0
}

func placesFit(t impl.Tree, at int, owners map[int64]int) bool {
	node := t.Nodes[at]
	for i, list := range [][]int64{node.Kids, node.Then, node.Else} {
		for _, place := range list {
			owners[place]++
			if place < 0 || place >= int64(at) || (t.Nodes[place].Kind < impl.NodeSet) != (i == 0) {
				return false
			}
		}
	}
	return true
}

func checkFault(t *testing.T, tree impl.Tree, want int64) {
	t.Helper()
	if got, second := impl.TreeFault(tree), faultOf(tree); got != want || second != want {
		t.Errorf("TreeFault(%s) = %d, want %d, the second way %d", showTree(tree), got, want, second)
	}
	text, place := impl.FormatTree(tree), impl.VarAt(tree, "no")
	if want != impl.OK && (text != impl.TextResult{Code: want} || place != impl.IntResult{Code: want}) {
		t.Errorf("of %s with the fault %d: FormatTree %v, VarAt %v", showTree(tree), want, text, place)
	}
	if want == impl.OK && (text.Code != impl.OK || place.Code != impl.ErrNone) {
		t.Errorf("of %s without a fault: FormatTree %v, VarAt %v", showTree(tree), text, place)
	}
}

// copyTree shares nothing with the tree.
func copyTree(t impl.Tree) impl.Tree {
	t.Vars, t.Nodes, t.Body = slices.Clone(t.Vars), slices.Clone(t.Nodes), slices.Clone(t.Body)
	for i := range t.Nodes {
		node := &t.Nodes[i]
		node.Kids, node.Then, node.Else = slices.Clone(node.Kids), slices.Clone(node.Then), slices.Clone(node.Else)
	}
	return t
}

// allKinds is a program with a node of each kind, each op and each block.
const allKinds = "in a:int[3]; out b:bool; var c:int; c:=-1; a[c]:=a[2]; if not b then b:=a[0]=c; else c:=1; end; if b then end; for c:=0 to 65535 do c:=2; c:=3; end; " +
	"c:=1+2-3*4/5 mod 6; b:=b and b or b xor c<1; ctu u(b,b,c); ton t(b,7); rtrig r(b); sr s(b,b);"

func TestRightTrees(t *testing.T) {
	checkFault(t, impl.Tree{}, impl.OK)
	checkFault(t, impl.Tree{Vars: []impl.Var{}, Nodes: []impl.Node{}, Body: []int64{}}, impl.OK)
	checkFault(t, impl.ParseText(allKinds).Tree, impl.OK)
	// A list that is empty is as good as none.
	empty := impl.Tree{Nodes: []impl.Node{{Kind: impl.NodeNum, Kids: []int64{}, Then: []int64{}, Else: []int64{}}, {Kind: impl.NodeSet, Name: "x", Kids: []int64{0}, Then: []int64{}}}, Body: []int64{1}}
	checkFault(t, empty, impl.OK)
	// The order of places is free, as long as they are ahead.
	turned := impl.ParseText("x := 1; y := a - b;").Tree
	turned.Nodes[4].Kids = []int64{3, 2}
	turned.Body = []int64{5, 1}
	checkFault(t, turned, impl.OK)
}

func TestFaultsOfVars(t *testing.T) {
	for _, name := range []string{"", "if", "A", "a1", "abcdefghi", " a", "a ", "é", "true", "ctu", "x\n"} {
		checkFault(t, impl.Tree{Vars: []impl.Var{{Name: name, Kind: 1, Type: 1}}}, impl.ErrText)
		checkFault(t, impl.Tree{Vars: []impl.Var{{Name: "a", Kind: 1, Type: 1}, {Name: name, Kind: 9, Type: 9, Size: 9}}}, impl.ErrText)
	}
	for _, n := range append([]int64{2, 3, 4, 5, 6}, oddNumbers...) {
		checkFault(t, impl.Tree{Vars: []impl.Var{{Name: "a", Kind: n, Type: 1}}}, rangeUnless(n >= 1 && n <= 3))
		checkFault(t, impl.Tree{Vars: []impl.Var{{Name: "a", Kind: 1, Type: n}}}, rangeUnless(n == 1 || n == 2))
		checkFault(t, impl.Tree{Vars: []impl.Var{{Name: "a", Kind: 3, Type: 2, Size: n}}}, rangeUnless(n >= 0 && n <= 8))
	}
	good, noName, noKind := impl.Var{Name: "a", Kind: 2, Type: 2, Size: 8}, impl.Var{Kind: 1, Type: 1}, impl.Var{Name: "b", Type: 1}
	checkFault(t, impl.Tree{Vars: []impl.Var{good, noName, noKind}}, impl.ErrText)
	checkFault(t, impl.Tree{Vars: []impl.Var{good, noKind, noName}}, impl.ErrRange)
	checkFault(t, impl.Tree{Vars: []impl.Var{good, good}}, impl.OK)
	checkFault(t, impl.Tree{Vars: []impl.Var{good, noKind}, Nodes: []impl.Node{{}}, Body: []int64{-1}}, impl.ErrRange)
	checkFault(t, impl.Tree{Vars: slices.Repeat([]impl.Var{good}, 24)}, impl.OK)
	checkFault(t, impl.Tree{Vars: slices.Repeat([]impl.Var{good}, 25)}, impl.ErrMany)
	checkFault(t, impl.Tree{Vars: make([]impl.Var, 25)}, impl.ErrMany)
	checkFault(t, impl.Tree{Vars: make([]impl.Var, 24)}, impl.ErrText)
	checkFault(t, impl.Tree{Vars: []impl.Var{noName}, Nodes: make([]impl.Node, 201)}, impl.ErrMany)
	checkFault(t, impl.Tree{Vars: []impl.Var{noName}, Nodes: make([]impl.Node, 200)}, impl.ErrText)
}

func rangeUnless(holds bool) int64 {
	if holds {
		return impl.OK
	}
	return impl.ErrRange
}

func formUnless(holds bool) int64 {
	if holds {
		return impl.OK
	}
	return impl.ErrForm
}

// wideTree has as many nodes as it is told.
func wideTree(statements int, more int) impl.Tree {
	var t impl.Tree
	for i := range int64(statements) {
		t.Nodes = append(t.Nodes, impl.Node{Kind: impl.NodeNum, Num: i}, impl.Node{Kind: impl.NodeSet, Name: "x", Kids: []int64{2 * i}})
		t.Body = append(t.Body, 2*i+1)
	}
	for range more {
		t.Nodes = append(t.Nodes, impl.Node{Kind: impl.NodeFor, Name: "i"})
		t.Body = append(t.Body, int64(len(t.Nodes))-1)
	}
	return t
}

func TestFaultOfManyNodes(t *testing.T) {
	checkFault(t, wideTree(100, 0), impl.OK)
	checkFault(t, wideTree(99, 2), impl.OK)
	checkFault(t, wideTree(100, 1), impl.ErrMany)
	checkFault(t, wideTree(101, 0), impl.ErrMany)
	checkFault(t, impl.Tree{Nodes: make([]impl.Node, 201)}, impl.ErrMany)
	checkFault(t, impl.Tree{Nodes: make([]impl.Node, 200)}, impl.ErrForm)
}

func TestKindsOfNodes(t *testing.T) {
	right := impl.ParseText(allKinds).Tree
	for at := range right.Nodes {
		for _, kind := range append([]int64{12, 13, -2}, oddNumbers...) {
			if kind >= 1 && kind <= 11 {
				continue
			}
			tree := copyTree(right)
			tree.Nodes[at].Kind = kind
			checkFault(t, tree, impl.ErrForm)
		}
		// Another kind than it was: what it has does not fit, or where it stands.
		for kind := int64(1); kind <= 11; kind++ {
			tree := copyTree(right)
			tree.Nodes[at].Kind = kind
			checkFault(t, tree, faultOf(tree))
		}
	}
}

// Each field of each node is set to each odd number; what a kind has not must be 0.
func TestFieldsOfNodes(t *testing.T) {
	right := impl.ParseText(allKinds).Tree
	for at, node := range right.Nodes {
		for _, n := range append([]int64{2, 3, 4, 5, 9, 10, 11, 12}, oddNumbers...) {
			tree := copyTree(right)
			tree.Nodes[at].Op = n
			most := int64(0)
			if node.Kind == impl.NodeTwo {
				most = 10
			} else if node.Kind == impl.NodeCall {
				most = 4
			}
			checkFault(t, tree, formUnless(n == 0 && most == 0 || n >= 1 && n <= most))
			tree = copyTree(right)
			tree.Nodes[at].Num = n
			numbered := node.Kind == impl.NodeNum || node.Kind == impl.NodeFor
			checkFault(t, tree, formUnless(n == 0 || numbered && n > 0 && n <= 65535))
			tree = copyTree(right)
			tree.Nodes[at].Far = n
			checkFault(t, tree, formUnless(n == 0 || node.Kind == impl.NodeFor && n > 0 && n <= 65535))
		}
		for _, name := range []string{"", "a", "abcdefgh", "abcdefghi", "for", "B", "a b", "1", "\xff"} {
			tree := copyTree(right)
			tree.Nodes[at].Name = name
			named := slices.Contains([]int64{impl.NodeName, impl.NodeItem, impl.NodeSet, impl.NodePut, impl.NodeFor, impl.NodeCall}, node.Kind)
			checkFault(t, tree, formUnless(named && (name == "a" || name == "abcdefgh") || !named && name == ""))
		}
	}
}

// withNode answers a copy in which the node at that place is changed.
func withNode(t impl.Tree, at int, change func(node *impl.Node)) impl.Tree {
	t = copyTree(t)
	change(&t.Nodes[at])
	return t
}

// Each kind has so many Kids and no other number.
func TestHowManyKids(t *testing.T) {
	rights := map[int64][]int{1: {0}, 2: {0}, 3: {1}, 4: {1}, 5: {1}, 6: {2}, 7: {1}, 8: {2}, 9: {1}, 10: {0}, 11: {1, 2, 3}}
	names, ops := []int64{2, 3, 7, 8, 10, 11}, []int64{6, 11}
	for kind, counts := range rights {
		for kids := range 6 {
			var tree impl.Tree
			node := impl.Node{Kind: kind}
			for i := range kids {
				tree.Nodes = append(tree.Nodes, impl.Node{Kind: impl.NodeNum})
				node.Kids = append(node.Kids, int64(i))
			}
			if slices.Contains(names, kind) {
				node.Name = "x"
			}
			if slices.Contains(ops, kind) {
				node.Op = 1
			}
			tree.Nodes = append(tree.Nodes, node)
			if kind < impl.NodeSet {
				tree.Nodes = append(tree.Nodes, impl.Node{Kind: impl.NodeSet, Name: "y", Kids: []int64{int64(kids)}})
			}
			tree.Body = []int64{int64(len(tree.Nodes)) - 1}
			checkFault(t, tree, formUnless(slices.Contains(counts, kids)))
		}
	}
}

func TestThenAndElseOfNodes(t *testing.T) {
	right := impl.ParseText(allKinds).Tree
	for at, node := range right.Nodes {
		tree := withLoose(right, at)
		inThen := withNode(tree, at+1, func(n *impl.Node) { n.Then = append(n.Then, int64(at)) })
		checkFault(t, inThen, formUnless(node.Kind == impl.NodeIf || node.Kind == impl.NodeFor))
		inElse := withNode(tree, at+1, func(n *impl.Node) { n.Else = append(n.Else, int64(at)) })
		checkFault(t, inElse, formUnless(node.Kind == impl.NodeIf))
		if node.Kind == impl.NodeIf {
			both := withNode(inThen, at+1, func(n *impl.Node) { n.Else = append(n.Else, int64(at)) })
			checkFault(t, both, impl.ErrForm)
			twice := withNode(inThen, at+1, func(n *impl.Node) { n.Then = append(n.Then, int64(at)) })
			checkFault(t, twice, impl.ErrForm)
		}
	}
}

// withLoose answers a copy with one more statement at that place, that is in no list.
func withLoose(t impl.Tree, at int) impl.Tree {
	t = copyTree(t)
	t.Nodes = slices.Insert(t.Nodes, at, impl.Node{Kind: impl.NodeFor, Name: "i"})
	lists := [][]int64{t.Body}
	for _, node := range t.Nodes {
		lists = append(lists, node.Kids, node.Then, node.Else)
	}
	for _, list := range lists {
		for i := range list {
			if list[i] >= int64(at) {
				list[i]++
			}
		}
	}
	return t
}

func TestPlacesOfNodes(t *testing.T) {
	right := impl.ParseText("if a then x := -1; else y[2] := 3; end; for i := 0 to 1 do z := 4; end;").Tree
	lists := []func(t *impl.Tree) *[]int64{
		func(t *impl.Tree) *[]int64 { return &t.Nodes[2].Kids }, func(t *impl.Tree) *[]int64 { return &t.Nodes[3].Kids }, func(t *impl.Tree) *[]int64 { return &t.Nodes[6].Kids },
		func(t *impl.Tree) *[]int64 { return &t.Nodes[7].Kids }, func(t *impl.Tree) *[]int64 { return &t.Nodes[7].Then }, func(t *impl.Tree) *[]int64 { return &t.Nodes[7].Else },
		func(t *impl.Tree) *[]int64 { return &t.Nodes[10].Then }, func(t *impl.Tree) *[]int64 { return &t.Body }}
	checkFault(t, right, impl.OK)
	for _, list := range lists {
		for i := range *list(&right) {
			was := (*list(&right))[i]
			for _, place := range append([]int64{2, 3, 4, 5, 6, 9, 10, 11, 12}, oddNumbers...) {
				tree := copyTree(right)
				(*list(&tree))[i] = place
				checkFault(t, tree, formUnless(place == was))
				tree = copyTree(right)
				*list(&tree) = slices.Insert(*list(&tree), i, place)
				checkFault(t, tree, impl.ErrForm)
			}
		}
		// One fewer: what stood there is in no list then.
		tree := copyTree(right)
		*list(&tree) = (*list(&tree))[1:]
		checkFault(t, tree, impl.ErrForm)
	}
}

func TestNodesInNoListOrInTwo(t *testing.T) {
	one := impl.Node{Kind: impl.NodeNum, Num: 1}
	set := func(kid int64) impl.Node { return impl.Node{Kind: impl.NodeSet, Name: "x", Kids: []int64{kid}} }
	checkFault(t, impl.Tree{Nodes: []impl.Node{one}}, impl.ErrForm)
	checkFault(t, impl.Tree{Nodes: []impl.Node{one}, Body: []int64{0}}, impl.ErrForm)
	checkFault(t, impl.Tree{Nodes: []impl.Node{one, set(0)}}, impl.ErrForm)
	checkFault(t, impl.Tree{Nodes: []impl.Node{one, set(0)}, Body: []int64{1, 1}}, impl.ErrForm)
	checkFault(t, impl.Tree{Nodes: []impl.Node{one, set(0)}, Body: []int64{1, 0}}, impl.ErrForm)
	checkFault(t, impl.Tree{Nodes: []impl.Node{one, one, set(0)}, Body: []int64{2}}, impl.ErrForm)
	checkFault(t, impl.Tree{Nodes: []impl.Node{one, set(0), set(0)}, Body: []int64{1, 2}}, impl.ErrForm)
	checkFault(t, impl.Tree{Nodes: []impl.Node{one, {Kind: impl.NodeTwo, Op: 1, Kids: []int64{0, 0}}, set(1)}, Body: []int64{2}}, impl.ErrForm)
	checkFault(t, impl.Tree{Nodes: []impl.Node{one, one, {Kind: impl.NodeTwo, Op: 1, Kids: []int64{1, 0}}, set(2)}, Body: []int64{3}}, impl.OK)
	checkFault(t, impl.Tree{Nodes: []impl.Node{set(0)}, Body: []int64{0}}, impl.ErrForm)
	checkFault(t, impl.Tree{Nodes: []impl.Node{set(1), one}, Body: []int64{0}}, impl.ErrForm)
	checkFault(t, impl.Tree{Nodes: []impl.Node{{Kind: impl.NodeNeg, Kids: []int64{0}}, set(0)}, Body: []int64{1}}, impl.ErrForm)
	checkFault(t, impl.Tree{Body: []int64{0}}, impl.ErrForm)
	checkFault(t, impl.Tree{Body: []int64{-1}}, impl.ErrForm)
	checkFault(t, impl.Tree{Nodes: []impl.Node{{Kind: impl.NodeFor, Name: "i", Then: []int64{0}}}}, impl.ErrForm)
	// A statement is in a Then and in Body.
	inner := impl.Node{Kind: impl.NodeFor, Name: "i"}
	outer := impl.Node{Kind: impl.NodeFor, Name: "k", Then: []int64{0}}
	checkFault(t, impl.Tree{Nodes: []impl.Node{inner, outer}, Body: []int64{1}}, impl.OK)
	checkFault(t, impl.Tree{Nodes: []impl.Node{inner, outer}, Body: []int64{0, 1}}, impl.ErrForm)
	checkFault(t, impl.Tree{Nodes: []impl.Node{inner, outer, outer}, Body: []int64{1, 2}}, impl.ErrForm)
}

// chainOf is one statement of so many signs and a number.
func chainOf(signs int) impl.Tree {
	t := impl.Tree{Nodes: []impl.Node{{Kind: impl.NodeNum}}}
	for i := range int64(signs) {
		t.Nodes = append(t.Nodes, impl.Node{Kind: impl.NodeNot - i%2, Kids: []int64{i}})
	}
	t.Nodes = append(t.Nodes, impl.Node{Kind: impl.NodeSet, Name: "x", Kids: []int64{int64(signs)}})
	t.Body = []int64{int64(signs) + 1}
	return t
}

func TestFaultOfDepth(t *testing.T) {
	checkFault(t, chainOf(18), impl.OK)
	for _, signs := range []int{19, 20, 63, 64, 198} {
		checkFault(t, chainOf(signs), impl.ErrDeep)
	}
	checkFault(t, chainOf(199), impl.ErrMany)
	var loops impl.Tree
	for i := range int64(21) {
		node := impl.Node{Kind: impl.NodeFor, Name: "i"}
		if i > 0 {
			node.Then = []int64{i - 1}
		}
		loops.Nodes = append(loops.Nodes, node)
		loops.Body = []int64{i}
		checkFault(t, loops, min(i/20, 1)*impl.ErrDeep)
	}
	// What has no form is told ahead of what is too deep, wherever it stands.
	deep := chainOf(19)
	deep.Body = append(deep.Body, 0)
	checkFault(t, deep, impl.ErrForm)
	deep = chainOf(19)
	deep.Vars = []impl.Var{{Name: "x"}}
	checkFault(t, deep, impl.ErrRange)
}

func TestVarAt(t *testing.T) {
	tree := impl.ParseText("in a:int; out b:bool; var cc:int[4]; var b:int; var abcdefgh:bool;").Tree
	for name, want := range map[string]impl.IntResult{"a": {Value: 0}, "b": {Value: 1}, "cc": {Value: 2}, "abcdefgh": {Value: 4},
		"c": {Code: impl.ErrNone}, "": {Code: impl.ErrNone}, "A": {Code: impl.ErrNone}, "if": {Code: impl.ErrNone}, "aa": {Code: impl.ErrNone}, "a ": {Code: impl.ErrNone}, "abcdefghi": {Code: impl.ErrNone}, "\xff": {Code: impl.ErrNone}} {
		if got := impl.VarAt(tree, name); got != want {
			t.Errorf("VarAt(%q) = %v, want %v", name, got, want)
		}
		tree.Body = []int64{0}
		if got := impl.VarAt(tree, name); got != (impl.IntResult{Code: impl.ErrForm}) {
			t.Errorf("VarAt(%q) of a tree with a fault = %v", name, got)
		}
		tree.Body = nil
	}
	if got := impl.VarAt(impl.Tree{}, "a"); got != (impl.IntResult{Code: impl.ErrNone}) {
		t.Errorf("VarAt of no variables = %v", got)
	}
	// The name of a statement or of a block is no variable.
	if got := impl.VarAt(impl.ParseText("x := y; ctu c(a,b,1);").Tree, "x"); got.Code != impl.ErrNone {
		t.Errorf("VarAt of a name that is not declared = %v", got)
	}
	long := impl.ParseText(strings.Repeat("in a:int;", 23) + "in b:int;").Tree
	if got := impl.VarAt(long, "b"); got != (impl.IntResult{Value: 23}) {
		t.Errorf("VarAt of the last of 24 = %v", got)
	}
}

// depthOf is a second way to DepthOf: a place hangs on those ahead of it, and it remembers what it told.
func depthOf(t impl.Tree, node int64, known map[int64]int64) int64 {
	if depth, holds := known[node]; holds {
		return depth
	}
	most := int64(0)
	for _, list := range [][]int64{t.Nodes[node].Else, t.Nodes[node].Then, t.Nodes[node].Kids} {
		for _, place := range list {
			if place >= 0 && place < node {
				most = max(most, depthOf(t, place, known))
			}
		}
	}
	known[node] = most + 1
	return most + 1
}

func checkDepths(t *testing.T, tree impl.Tree) {
	t.Helper()
	known := map[int64]int64{}
	for at := range int64(len(tree.Nodes)) {
		if got, want := impl.DepthOf(tree, at), (impl.IntResult{Value: depthOf(tree, at, known)}); got != want {
			t.Fatalf("DepthOf(%s, %d) = %v, want %v", showTree(tree), at, got, want)
		}
	}
	for _, node := range oddNumbers {
		if node >= 0 && node < int64(len(tree.Nodes)) {
			continue
		}
		if got := impl.DepthOf(tree, node); got != (impl.IntResult{Code: impl.ErrRange}) {
			t.Fatalf("DepthOf(%s, %d) = %v, want ErrRange", showTree(tree), node, got)
		}
	}
}

func TestDepthOf(t *testing.T) {
	tree := impl.ParseText("if -a < 1 then x := a[2]; else x := 3; for i := 0 to 1 do y := - - - 4; end; end;").Tree
	var got []int64
	for at := range tree.Nodes {
		got = append(got, impl.DepthOf(tree, int64(at)).Value)
	}
	if want := []int64{1, 2, 1, 3, 1, 2, 3, 1, 2, 1, 2, 3, 4, 5, 6, 7}; !slices.Equal(got, want) {
		t.Errorf("depths %v, want %v of %s", got, want, showTree(tree))
	}
	checkDepths(t, tree)
	checkDepths(t, impl.ParseText(allKinds).Tree)
	checkDepths(t, impl.Tree{})
	if got := impl.DepthOf(tree, int64(len(tree.Nodes))); got != (impl.IntResult{Code: impl.ErrRange}) {
		t.Errorf("DepthOf of the place behind the last: %v", got)
	}
}

// DepthOf is asked of trees with faults, too: those of Kids that are not ahead are passed over.
func TestDepthOfWithFaults(t *testing.T) {
	far := []int64{math.MinInt64, -1, 0, 1, 2, 3, math.MaxInt64}
	tree := impl.Tree{Nodes: []impl.Node{{Kids: far}, {Kind: 99, Then: far}, {Else: far}, {Kids: []int64{3, 4}}, {Num: -5, Kids: []int64{2}, Then: []int64{4}}}}
	for at, want := range []int64{1, 2, 3, 1, 4} {
		if got := impl.DepthOf(tree, int64(at)); got != (impl.IntResult{Value: want}) {
			t.Errorf("DepthOf(%s, %d) = %v, want %d", showTree(tree), at, got, want)
		}
	}
	checkDepths(t, tree)
	if got := impl.DepthOf(chainOf(1000), 1001); got.Value != 1002 {
		t.Errorf("a chain of 1000: %v", got)
	}
	// Each names the one ahead twice: so many ways as no one goes.
	var twice impl.Tree
	for i := range int64(5000) {
		twice.Nodes = append(twice.Nodes, impl.Node{Kids: []int64{i - 1, i - 1}, Then: []int64{i - 1}})
	}
	if got := impl.DepthOf(twice, 4999); got != (impl.IntResult{Value: 5000}) {
		t.Errorf("each twice: %v", got)
	}
}

func TestFormatTreeByHand(t *testing.T) {
	for _, c := range []struct{ text, want string }{
		{"in a:int;", "in a : int ;\n"},
		{"out b:bool[1]; var c_d:int[16#8];", "out b : bool [ 1 ] ;\nvar c_d : int [ 8 ] ;\n"},
		{"x:=16#FF;", "x := 255 ;\n"},
		{"x:=true;y:=false;", "x := 1 ;\ny := 0 ;\n"},
		{"x:=((y));", "x := y ;\n"},
		{"x[i+1]:=y[-2];", "x [ ( i + 1 ) ] := y [ ( - 2 ) ] ;\n"},
		{"x:=not - y;", "x := ( not ( - y ) ) ;\n"},
		{"x:=1+2-3*4/5 mod 6;", "x := ( ( 1 + 2 ) - ( ( ( 3 * 4 ) / 5 ) mod 6 ) ) ;\n"},
		{"x:=a and b or c xor d;", "x := ( ( a and b ) or ( c xor d ) ) ;\n"},
		{"x:=a=b;x:=a<b;", "x := ( a = b ) ;\nx := ( a < b ) ;\n"},
		{"x:=a<>b;x:=a>b;", "x := ( not ( a = b ) ) ;\nx := ( b < a ) ;\n"},
		{"x:=a<=b;x:=a>=b;", "x := ( not ( b < a ) ) ;\nx := ( not ( a < b ) ) ;\n"},
		{"if a then end;", "if a then\nend ;\n"},
		{"if a then else end;", "if a then\nend ;\n"},
		{"if a then x:=1;y:=2; end;", "if a then\nx := 1 ;\ny := 2 ;\nend ;\n"},
		{"if a then else x:=1; end;", "if a then\nelse\nx := 1 ;\nend ;\n"},
		{"if not a then x:=1; else y:=2; z:=3; end; x:=4;", "if ( not a ) then\nx := 1 ;\nelse\ny := 2 ;\nz := 3 ;\nend ;\nx := 4 ;\n"},
		{"for i:=16#A to 65535 do end;", "for i := 10 to 65535 do\nend ;\n"},
		{"for i:=0 to 0 do for k:=1 to 2 do x:=i; end; if a then end; end;", "for i := 0 to 0 do\nfor k := 1 to 2 do\nx := i ;\nend ;\nif a then\nend ;\nend ;\n"},
		{"ctu c(a,b<1,7);", "ctu c ( a , ( b < 1 ) , 7 ) ;\n"},
		{"ton t(a,b[1]);rtrig r(a);sr s(a,b,c);", "ton t ( a , b [ 1 ] ) ;\nrtrig r ( a ) ;\nsr s ( a , b , c ) ;\n"},
		{"in a:int; a:=1;", "in a : int ;\na := 1 ;\n"},
	} {
		got := impl.FormatTree(impl.ParseText(c.text).Tree)
		if got != (impl.TextResult{Text: c.want}) {
			t.Errorf("FormatTree of %q = %v, want %q", c.text, got, c.want)
		}
	}
}

// What is written hangs on Body and lists, not on the order of Nodes.
func TestFormatTreeOfOtherOrders(t *testing.T) {
	tree := impl.ParseText("x := 1; y := a - b;").Tree
	tree.Nodes[4].Kids = []int64{3, 2}
	tree.Body = []int64{5, 1}
	if got := impl.FormatTree(tree); got != (impl.TextResult{Text: "y := ( b - a ) ;\nx := 1 ;\n"}) {
		t.Errorf("turned: %v", got)
	}
	calls := impl.ParseText("ctu c(1,2,3); for i := 0 to 1 do x := 4; y := 5; end;").Tree
	calls.Nodes[3].Kids = []int64{2, 0, 1}
	calls.Nodes[8].Then = []int64{7, 5}
	if got := impl.FormatTree(calls); got != (impl.TextResult{Text: "ctu c ( 3 , 1 , 2 ) ;\nfor i := 0 to 1 do\ny := 5 ;\nx := 4 ;\nend ;\n"}) {
		t.Errorf("turned: %v", got)
	}
}

// The least and the greatest numbers in every field, and every count of lists.
func TestTreesOfRandomFields(t *testing.T) {
	m := &programMaker{state: 40}
	faults := map[int64]int{}
	for range 30000 {
		tree := randomTree(m)
		want := faultOf(tree)
		faults[want]++
		checkFault(t, tree, want)
		checkDepths(t, tree)
	}
	for range 1500 {
		right := impl.ParseText(m.program()).Tree
		checkFault(t, right, impl.OK)
		for range 8 {
			hurt := copyTree(right)
			hurtTree(m, &hurt)
			want := faultOf(hurt)
			faults[want]++
			checkFault(t, hurt, want)
			checkDepths(t, hurt)
		}
	}
	for _, code := range []int64{impl.OK, impl.ErrForm, impl.ErrText, impl.ErrRange} {
		if faults[code] < 100 {
			t.Errorf("just %d trees have the code %d", faults[code], code)
		}
	}
}

func (m *programMaker) number() int64 {
	if m.less(4) > 0 {
		return int64(m.less(14)) - 1
	}
	return oddNumbers[m.less(len(oddNumbers))]
}

func (m *programMaker) places(most int) []int64 {
	var list []int64
	for range m.less(4) {
		if m.less(12) == 0 {
			list = append(list, oddNumbers[m.less(len(oddNumbers))])
		} else {
			list = append(list, int64(m.less(most+1)))
		}
	}
	return list
}

func randomTree(m *programMaker) impl.Tree {
	var t impl.Tree
	for range m.less(3) {
		t.Vars = append(t.Vars, impl.Var{Name: m.one("a b cc if A abcdefgh abcdefgh a a x"), Kind: int64(m.less(5)), Type: int64(m.less(4)), Size: m.number()})
	}
	count := m.less(6)
	for at := range count {
		node := impl.Node{Kind: m.number(), Kids: m.places(at), Then: m.places(at), Else: m.places(at)}
		if m.less(3) == 0 {
			node.Op, node.Num, node.Far = m.number(), m.number(), m.number()
		}
		if m.less(2) == 0 {
			node.Name = m.one("a b for A abcdefghi x")
		}
		t.Nodes = append(t.Nodes, node)
	}
	t.Body = m.places(count)
	return t
}

// hurtTree sets one field of one node or variable, or one place of Body, to a number that may not fit.
func hurtTree(m *programMaker, t *impl.Tree) {
	if len(t.Vars) > 0 && m.less(4) == 0 {
		v := &t.Vars[m.less(len(t.Vars))]
		fields := []*int64{&v.Kind, &v.Type, &v.Size}
		*fields[m.less(3)] = m.number()
		if m.less(4) == 0 {
			v.Name = m.one("if A b abcdefghi")
		}
		return
	}
	if len(t.Nodes) == 0 {
		t.Body = m.places(1)
		return
	}
	node := &t.Nodes[m.less(len(t.Nodes))]
	lists := []*[]int64{&node.Kids, &node.Then, &node.Else, &t.Body}
	list := lists[m.less(4)]
	switch m.less(5) {
	case 0:
		fields := []*int64{&node.Kind, &node.Op, &node.Num, &node.Far}
		*fields[m.less(4)] = m.number()
	case 1:
		node.Name = m.one("a if A b abcdefghi")
	case 2:
		*list = append(*list, m.number())
	case 3:
		*list = m.places(len(t.Nodes))
	case 4:
		if len(*list) > 0 {
			(*list)[m.less(len(*list))] = m.number()
		}
	}
}

// textsOfPrograms are for the promises: each of them is read.
func textsOfPrograms() []string {
	texts := []string{"", allKinds, "in a : int; out x : int; x := 7 / a;", "out x : int; var n : int; n := n + 1; x := n * n;", strings.Repeat("var a:int;", 24), fullOf(200), fullOf(199),
		"x:=" + strings.Repeat("- ", 18) + "1;", "x:=" + strings.Repeat("not ", 17) + "a[1];", strings.Repeat("if a then ", 19) + strings.Repeat("end;", 19),
		"x:=" + strings.Repeat("a[", 18) + "1" + strings.Repeat("]", 18) + ";", "x:=" + strings.Repeat("(", 62) + "1" + strings.Repeat(")", 62) + ";"}
	m := &programMaker{state: 5}
	for range 1500 {
		text := m.program()
		if impl.ParseText(text).Code == impl.OK {
			texts = append(texts, text)
		}
	}
	return texts
}

// Promise 5: what is read has no fault.
func TestWhatIsReadHasNoFault(t *testing.T) {
	for _, text := range textsOfPrograms() {
		read := impl.ParseText(text)
		if read.Code != impl.OK || impl.TreeFault(read.Tree) != impl.OK || faultOf(read.Tree) != impl.OK {
			t.Fatalf("%q: code %d, fault %d of %s", text, read.Code, impl.TreeFault(read.Tree), showTree(read.Tree))
		}
		for at, v := range read.Tree.Vars {
			if got := impl.VarAt(read.Tree, v.Name); got.Code != impl.OK || got.Value > int64(at) || read.Tree.Vars[got.Value].Name != v.Name {
				t.Fatalf("%q: VarAt(%q) = %v", text, v.Name, got)
			}
		}
	}
}

// Promise 5: what is read is written as it is read again, as long as the text is not too long.
func TestWhatIsReadIsWrittenAndReadAgain(t *testing.T) {
	again := 0
	for _, text := range textsOfPrograms() {
		tree := impl.ParseText(text).Tree
		written := impl.FormatTree(tree)
		if written.Code != impl.OK {
			t.Fatalf("%q: FormatTree %v", text, written)
		}
		if len(written.Text) > impl.MaxSource || impl.LexText(written.Text).Code == impl.ErrMany {
			continue
		}
		read := impl.ParseText(written.Text)
		if read.Code != impl.OK || showMeaning(read.Tree) != showMeaning(tree) {
			t.Fatalf("%q is written %q and read %d\n%s\nnot %s", text, written.Text, read.Code, showMeaning(read.Tree), showMeaning(tree))
		}
		if twice := impl.FormatTree(read.Tree); twice != written {
			t.Fatalf("%q is written %q, and then %q", text, written.Text, twice.Text)
		}
		// Behind the first time there is nothing that is made of others, so the order of Nodes stays.
		third := impl.ParseText(written.Text)
		if showTree(third.Tree) != showTree(read.Tree) {
			t.Fatalf("%q is read in two ways", written.Text)
		}
		again++
	}
	if again < 300 {
		t.Errorf("just %d trees are written and read again", again)
	}
}

// A line is a declaration, a statement, or what stands ahead of statements and behind them.
func TestLinesOfWhatIsWritten(t *testing.T) {
	for _, text := range textsOfPrograms() {
		written := impl.FormatTree(impl.ParseText(text).Tree).Text
		if written != "" && !strings.HasSuffix(written, "\n") {
			t.Fatalf("%q is written %q", text, written)
		}
		for _, line := range strings.Split(strings.TrimSuffix(written, "\n"), "\n") {
			if line == "" && written == "" {
				continue
			}
			tokens := strings.Fields(line)
			if strings.Join(tokens, " ") != line || !lineEnds(tokens) {
				t.Fatalf("%q is written with the line %q", text, line)
			}
			if spelt := impl.SpellAll(impl.LexText(line).Tokens); len(line) <= 1200 && spelt.Text != line && len(tokens) <= 400 {
				t.Fatalf("%q is written with the line %q, which is spelt %q", text, line, spelt.Text)
			}
		}
	}
}

// lineEnds asks that then, do, else and ; stand at the end of a line and nowhere else.
func lineEnds(tokens []string) bool {
	ends := []string{"then", "do", "else", ";"}
	for i, token := range tokens {
		if slices.Contains(ends, token) != (i == len(tokens)-1) {
			return false
		}
	}
	return true
}

// A text may be too long to be read again, and is written all the same.
func TestTextsThatAreTooLongAgain(t *testing.T) {
	long := impl.ParseText(strings.Repeat("abcdefgh:=abcdefgh+abcdefgh;", 40))
	written := impl.FormatTree(long.Tree)
	if long.Code != impl.OK || written.Code != impl.OK || written.Text != strings.Repeat("abcdefgh := ( abcdefgh + abcdefgh ) ;\n", 40) {
		t.Errorf("code %d, written %v", long.Code, written)
	}
	if got := impl.ParseText(written.Text); got.Code != impl.ErrMany || got.At != 0 {
		t.Errorf("of %d bytes: %v", len(written.Text), got)
	}
}

// Promise 1: every function answers, and changes none of its arguments, nor what lies behind them.
func TestTreesChangeNoArgument(t *testing.T) {
	m := &programMaker{state: 9}
	for i := range 2000 {
		tree := randomTree(m)
		if i%2 == 0 {
			tree = impl.ParseText(m.program()).Tree
		}
		given := roomyTree(tree)
		before := roomyTree(tree)
		impl.TreeFault(given)
		impl.VarAt(given, "a")
		impl.FormatTree(given)
		for at := range int64(len(tree.Nodes) + 2) {
			impl.DepthOf(given, at-1)
		}
		if !reflect.DeepEqual(wholeTree(given), wholeTree(before)) {
			t.Fatalf("the tree %s was changed", showTree(tree))
		}
	}
}

// roomyTree answers a copy with room behind each list, so that a write past their end shows.
func roomyTree(t impl.Tree) impl.Tree {
	t = copyTree(t)
	t.Vars = append(t.Vars, impl.Var{Name: "behind"})[:len(t.Vars)]
	for i := range t.Nodes {
		node := &t.Nodes[i]
		node.Kids, node.Then, node.Else = withSpare(node.Kids), withSpare(node.Then), withSpare(node.Else)
	}
	t.Nodes = append(t.Nodes, impl.Node{Name: "behind"})[:len(t.Nodes)]
	t.Body = withSpare(t.Body)
	return t
}

// wholeTree answers the tree with what lies behind its lists.
func wholeTree(t impl.Tree) impl.Tree {
	t = impl.Tree{Vars: t.Vars[:cap(t.Vars)], Nodes: slices.Clone(t.Nodes[:cap(t.Nodes)]), Body: t.Body[:cap(t.Body)]}
	for i := range t.Nodes {
		node := &t.Nodes[i]
		node.Kids, node.Then, node.Else = node.Kids[:cap(node.Kids)], node.Then[:cap(node.Then)], node.Else[:cap(node.Else)]
	}
	return t
}

// Promise 1: what a function answers is new memory, and no two lists of it share any.
func TestTreesAreNewMemory(t *testing.T) {
	for _, text := range textsOfPrograms()[:200] {
		first, second := impl.ParseText(text), impl.ParseText(text)
		want := showTree(second.Tree)
		lists := []*[]int64{&first.Tree.Body}
		for i := range first.Tree.Nodes {
			node := &first.Tree.Nodes[i]
			lists = append(lists, &node.Kids, &node.Then, &node.Else)
		}
		for i, list := range lists {
			whole := (*list)[:cap(*list)]
			for at := range whole {
				whole[at] = int64(-1 - i)
			}
		}
		for i, list := range lists {
			for _, place := range (*list)[:cap(*list)] {
				if place != int64(-1-i) {
					t.Fatalf("%q: two lists of the tree share memory", text)
				}
			}
		}
		clear(first.Tree.Vars[:cap(first.Tree.Vars)])
		clear(first.Tree.Nodes[:cap(first.Tree.Nodes)])
		if showTree(second.Tree) != want || showTree(impl.ParseText(text).Tree) != want {
			t.Fatalf("%q: a change to an answer is seen elsewhere", text)
		}
	}
}

func TestTextsOfTreesAreNewMemory(t *testing.T) {
	text := strings.Clone("in abc : int; if abc then x[abc] := abc; else ctu c(y[1],2); end;")
	tree := impl.ParseText(text).Tree
	for _, v := range tree.Vars {
		if sharesBytes(v.Name, text) {
			t.Errorf("the name of %v lies within the text that was read", v)
		}
	}
	for _, node := range tree.Nodes {
		if node.Name != "" && sharesBytes(node.Name, text) {
			t.Errorf("the name of %s lies within the text that was read", showNode(node))
		}
	}
	written := impl.FormatTree(tree).Text
	for _, node := range tree.Nodes {
		if node.Name != "" && sharesBytes(node.Name, written) {
			t.Errorf("the name of %s lies within the text that was written", showNode(node))
		}
	}
}

// Promise 1: an answer hangs on the arguments alone, whatever was asked ahead.
func TestTreesHangOnArgumentsAlone(t *testing.T) {
	texts := append(textsOfPrograms()[:150], "x := ;", "x := (", "end", "#", strings.Repeat("in a:int;", 25), fullOf(150)+fullOf(51), "x:="+strings.Repeat("(", 70), "x:="+strings.Repeat("-", 20)+"1;")
	var shown []string
	var written []impl.TextResult
	for _, text := range texts {
		read := impl.ParseText(text)
		shown = append(shown, showTree(read.Tree)+" "+showPlaces([]int64{read.Code, read.At}))
		written = append(written, impl.FormatTree(read.Tree))
	}
	for i, text := range slices.Backward(texts) {
		read := impl.ParseText(strings.Clone(text))
		if showTree(read.Tree)+" "+showPlaces([]int64{read.Code, read.At}) != shown[i] || impl.FormatTree(copyTree(read.Tree)) != written[i] {
			t.Fatalf("another answer of %q", text)
		}
	}
}
