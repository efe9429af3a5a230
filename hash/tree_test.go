package hash_test

import (
	"slices"
	"testing"

	"veil/api"
	"veil/hash"
	"veil/sample"
)

// node: a tree over a number of leaves.
type node struct {
	root   api.Bytes64
	leaves int
}

// join: two trees, one beside the other.
func join(a, b node) node {
	return node{whole(slices.Concat([]byte{1}, a.root[:], b.root[:])), a.leaves + b.leaves}
}

// grown: the root, found from below: full trees of the same size are joined as soon as there are two, and what is left from the right to the left.
func grown(leaves [][]byte) api.Bytes64 {
	var trees []node
	for _, leaf := range leaves {
		one := node{whole(slices.Concat([]byte{0}, leaf)), 1}
		for k := len(trees); k > 0 && trees[k-1].leaves == one.leaves; k-- {
			one, trees = join(trees[k-1], one), trees[:k-1]
		}
		trees = append(trees, one)
	}
	if len(trees) == 0 {
		return whole(nil)
	}
	for k := len(trees); k > 1; k-- {
		trees = append(trees[:k-2], join(trees[k-2], trees[k-1]))
	}
	return trees[0].root
}

func TestP306EveryNumberOfLeaves(t *testing.T) {
	m := sample.Maker(313)
	var leaves [][]byte
	for n := range 140 {
		if hash.Root(leaves...) != grown(leaves) {
			t.Errorf("Root of %d leaves", n)
		}
		leaves = append(leaves, m.Bytes(int(m.Next()%4)*(n%50)))
	}
}

func TestP306ManyLeaves(t *testing.T) {
	m := sample.Maker(314)
	for _, n := range []int{255, 256, 257, 1000, 5000} {
		leaves := cut(m.Bytes(3*n), 3)
		if hash.Root(leaves...) != grown(leaves) {
			t.Errorf("Root of %d leaves", n)
		}
	}
}

func TestP306EmptyLeaves(t *testing.T) {
	for n := range 6 {
		for mask := range 1 << n {
			leaves := make([][]byte, n)
			for i := range leaves {
				if mask>>i&1 == 1 {
					leaves[i] = []byte{byte(i)}
				}
			}
			if hash.Root(leaves...) != grown(leaves) {
				t.Errorf("Root of %x", leaves)
			}
		}
	}
}

func TestP306OrderAndCut(t *testing.T) {
	a, b := []byte("a"), []byte("b")
	roots := []api.Bytes64{hash.Root(a, b), hash.Root(b, a), hash.Root([]byte("ab")), hash.Root(a, b, nil), hash.Root(nil, a, b), hash.Root(a, nil, b), hash.Root(a), hash.Sum(a)}
	for i, root := range roots {
		if slices.Index(roots, root) != i {
			t.Errorf("root %d is that of other leaves too", i)
		}
	}
}
