package tree_test

import (
	"fmt"
	"math"
	"math/rand"
	"slices"
	"strings"
	"testing"
	"unsafe"

	"tenancy/api"
	"tenancy/tree"
)

// wantDiff fails the test unless nodes differ at these paths, both ways round.
func wantDiff(t testing.TB, a, b []tree.Node, want ...string) {
	t.Helper()
	if l := tree.Diff(a, b); !slices.Equal(l, want) {
		t.Errorf("Diff(%+v, %+v): %q, want %q", a, b, l, want)
	}
	if l := tree.Diff(b, a); !slices.Equal(l, want) {
		t.Errorf("Diff(%+v, %+v), turned round: %q, want %q", b, a, l, want)
	}
}

// at answers nodes of which no more is told than their paths.
func at(paths ...string) []tree.Node {
	var l []tree.Node
	for _, p := range paths {
		l = append(l, tree.Node{Path: p})
	}
	return l
}

// TestDiffPaths is P12.3 of paths that one of both has alone.
func TestDiffPaths(t *testing.T) {
	wantDiff(t, nil, nil)
	wantDiff(t, []tree.Node{}, nil)
	wantDiff(t, at("/"), nil, "/")
	wantDiff(t, at("/"), at("/"))
	wantDiff(t, at("/", "/a"), at("/", "/b"), "/a", "/b")
	wantDiff(t, at("/", "/b"), at("/", "/a", "/c"), "/a", "/b", "/c")
	wantDiff(t, at("/", "/a", "/a/b", "/c"), at("/", "/a", "/c"), "/a/b")
	wantDiff(t, at("/", "/a"), at("/a", "/"))
	wantDiff(t, at("/", "/a", "/a/b"), []tree.Node{}, "/", "/a", "/a/b")
}

// TestDiffOrder is P12.3: byte by byte, however nodes stand; what they have as a path need be none.
func TestDiffOrder(t *testing.T) {
	rising := []string{"", "\x00", "/", "//", "/A", "/a", "/a!", "/a/b", "/a0", "/aa", "/b", "a", "z", "~", "\x7f", "\x80", "\u00e9", "\uff41", "\xff"}
	r := rand.New(rand.NewSource(3))
	for range 200 {
		var a, b []tree.Node
		for _, i := range r.Perm(len(rising)) {
			n := tree.Node{Path: rising[i], Version: 1}
			switch r.Intn(3) {
			case 0:
				a = append(a, n)
			case 1:
				b = append(b, n)
			default:
				a = append(a, n)
				n.Version = 2
				b = append(b, n)
			}
		}
		wantDiff(t, a, b, rising...)
		wantDiff(t, a, a)
	}
}

// full is a node that has all that one may have.
var full = tree.Node{Path: "/a", File: api.File{Ino: 2, Gen: 3}, Kind: api.KFile, Version: 4, Blocks: [8]string{"0", "1", "2", "3", "4", "5", "6", "7"}}

// others answers nodes at a node's path, each with one thing that is another one.
func others(n tree.Node) []tree.Node {
	var l []tree.Node
	add := func(change func(n *tree.Node)) {
		m := n
		change(&m)
		l = append(l, m)
	}
	add(func(n *tree.Node) { n.File.Ino++ })
	add(func(n *tree.Node) { n.File.Ino = math.MinInt })
	add(func(n *tree.Node) { n.File.Gen++ })
	add(func(n *tree.Node) { n.File.Ino, n.File.Gen = n.File.Gen, n.File.Ino })
	add(func(n *tree.Node) { n.Kind = api.KDir })
	add(func(n *tree.Node) { n.Kind = -n.Kind })
	add(func(n *tree.Node) { n.Version++ })
	add(func(n *tree.Node) { n.Version += 1 << 32 })
	add(func(n *tree.Node) { n.Version = math.MaxUint64 })
	for i := range n.Blocks {
		add(func(n *tree.Node) { n.Blocks[i] = "" })
		add(func(n *tree.Node) { n.Blocks[i] += "\x00" })
		add(func(n *tree.Node) { n.Blocks[i] = "\xff" })
	}
	add(func(n *tree.Node) { n.Blocks[2], n.Blocks[5] = n.Blocks[5], n.Blocks[2] })
	return l
}

// TestDiffFields is P12.3 of paths that both have, at which not all is the same.
func TestDiffFields(t *testing.T) {
	lower, upper := tree.Node{Path: "/"}, tree.Node{Path: "/b", Version: 9}
	for _, m := range others(full) {
		wantDiff(t, []tree.Node{full}, []tree.Node{m}, "/a")
		wantDiff(t, []tree.Node{lower, full, upper}, []tree.Node{lower, m, upper}, "/a")
		wantDiff(t, []tree.Node{upper, full}, []tree.Node{lower, m, upper}, "/", "/a")
		wantDiff(t, []tree.Node{m}, []tree.Node{m})
	}
	wantDiff(t, []tree.Node{full}, at("/a"), "/a")
}

// TestDiffZero is P12.3: the zero Node is one; a list that has it is not the same as one that has none.
func TestDiffZero(t *testing.T) {
	wantDiff(t, []tree.Node{{}}, nil, "")
	wantDiff(t, []tree.Node{{}}, []tree.Node{{}})
	wantDiff(t, []tree.Node{{}}, []tree.Node{full}, "", "/a")
	wantDiff(t, []tree.Node{{}}, []tree.Node{{Kind: 1}}, "")
}

// TestDiffMore is P12.3 of a path that stands more than once in a list: its last node counts, and it is told once.
func TestDiffMore(t *testing.T) {
	m := full
	m.Version++
	wantDiff(t, []tree.Node{full, m}, []tree.Node{m})
	wantDiff(t, []tree.Node{m, full}, []tree.Node{m}, "/a")
	wantDiff(t, []tree.Node{full, m}, []tree.Node{m, full}, "/a")
	wantDiff(t, []tree.Node{full, m, full}, []tree.Node{m, full})
	wantDiff(t, []tree.Node{full, full, full}, []tree.Node{full})
	wantDiff(t, []tree.Node{full, m, full}, nil, "/a")
	wantDiff(t, append([]tree.Node{full}, append(at("/b", "/", "/b"), m)...), append(at("/"), m), "/b")
}

// naive answers what Diff must, path by path.
func naive(a, b []tree.Node) []string {
	var l []string
	for _, p := range slices.Sorted(slices.Values(append(paths(a), paths(b)...))) {
		var last [2]*tree.Node
		for i, nodes := range [][]tree.Node{a, b} {
			for k := range nodes {
				if nodes[k].Path == p {
					last[i] = &nodes[k]
				}
			}
		}
		if same := last[0] != nil && last[1] != nil && *last[0] == *last[1]; !same && !slices.Contains(l, p) {
			l = append(l, p)
		}
	}
	return l
}

// someNodes answers nodes by chance, among which are many of the same paths.
func someNodes(r *rand.Rand) []tree.Node {
	var l []tree.Node
	for range r.Intn(30) {
		n := tree.Node{Path: fmt.Sprintf("/%x", r.Intn(20)), Version: uint64(r.Intn(2)), Kind: 1 + r.Intn(2)}
		n.Blocks[r.Intn(8)] = strings.Repeat("x", r.Intn(2))
		l = append(l, n)
	}
	return l
}

// TestDiffByChance is P12.3 against another way to tell it; P12.4: of a list with itself none, and the same turned round.
func TestDiffByChance(t *testing.T) {
	r := rand.New(rand.NewSource(4))
	for range 3000 {
		a, b := someNodes(r), someNodes(r)
		if r.Intn(2) == 0 {
			b = slices.Concat(b, a)
		}
		if r.Intn(3) == 0 && len(b) > 0 {
			b[r.Intn(len(b))].File.Gen = r.Intn(2)
		}
		wantDiff(t, a, b, naive(a, b)...)
		wantDiff(t, a, a)
	}
}

// TestDiffMany is P12.3 of more nodes than a store has.
func TestDiffMany(t *testing.T) {
	var a, b []tree.Node
	var want []string
	for i := range 100000 {
		n := tree.Node{Path: fmt.Sprintf("/%06d", i), Version: uint64(i)}
		a = append(a, n)
		if i%1000 == 999 {
			n.Version++
			want = append(want, n.Path)
		}
		b = append(b, n)
	}
	slices.Reverse(b)
	wantDiff(t, a, b, want...)
}

// TestDiffChangesNothing is R3: what is handed in stays as it is, and is not kept; an answer is new memory.
func TestDiffChangesNothing(t *testing.T) {
	r := rand.New(rand.NewSource(5))
	for range 200 {
		a, b := someNodes(r), someNodes(r)
		elder, elderB := slices.Clone(a), slices.Clone(b)
		want := naive(a, b)
		l := tree.Diff(a, b)
		if !slices.Equal(a, elder) || !slices.Equal(b, elderB) {
			t.Fatal("what was handed in was changed")
		}
		for _, p := range l {
			for _, n := range slices.Concat(a, b) {
				if unsafe.StringData(p) == unsafe.StringData(n.Path) {
					t.Fatalf("%q shares memory with a node", p)
				}
			}
		}
		clear(l)
		clear(a)
		wantDiff(t, elder, b, want...)
	}
}
