// Package frames: pages: see ../shared/doc/01-frames.md.
package frames

import "slabyard/api"

// Check a block: it lies within so many pages, and begins where a block of its order may.
func Check(b api.Block, pages int) error {
	if pages < 1 || pages > api.MaxPages || !isOrder(b.Order) {
		return api.ErrBound
	}
	// At is held against a difference: a sum could wrap round.
	if b.At < 0 || b.At > pages-1<<b.Order {
		return api.ErrBound
	}
	if !begins(b.At, b.Order) {
		return api.ErrShape
	}
	return nil
}

// Size of an order: how many pages its blocks have.
func Size(k int) (int, error) {
	if !isOrder(k) {
		return 0, api.ErrBound
	}
	return 1 << k, nil
}

// Order of at least so many pages: the least one.
func Order(n int) (int, error) {
	if n < 1 || n > 1<<api.MaxOrder {
		return 0, api.ErrBound
	}
	k := 0
	for 1<<k < n {
		k++
	}
	return k, nil
}

// Buddy of a block: the other half of its parent.
func Buddy(b api.Block) (api.Block, error) {
	if err := checkBelow(b); err != nil {
		return api.Block{}, err
	}
	return api.Block{At: b.At ^ 1<<b.Order, Order: b.Order}, nil
}

// Parent of a block: the block of the next order that it is in.
func Parent(b api.Block) (api.Block, error) {
	if err := checkBelow(b); err != nil {
		return api.Block{}, err
	}
	up := b.Order + 1
	return api.Block{At: b.At >> up << up, Order: up}, nil
}

// Halves of a block.
func Halves(b api.Block) (low, high api.Block, err error) {
	if err := checkAnywhere(b); err != nil {
		return api.Block{}, api.Block{}, err
	}
	if b.Order == 0 {
		return api.Block{}, api.Block{}, api.ErrNone
	}
	down := b.Order - 1
	return api.Block{At: b.At, Order: down}, api.Block{At: b.At | 1<<down, Order: down}, nil
}

// Cover pages: with the fewest blocks, rising.
func Cover(at, n int) ([]api.Block, error) {
	if at < 0 || at > api.MaxPages || n < 0 || n > api.MaxPages-at {
		return nil, api.ErrBound
	}
	var blocks []api.Block
	for end := at + n; at < end; {
		k := widest(at, end)
		blocks = append(blocks, api.Block{At: at, Order: k})
		at += 1 << k
	}
	return blocks, nil
}

func isOrder(k int) bool { return k >= 0 && k <= api.MaxOrder }

// begins tells whether a block of this order may begin at a page.
func begins(at, k int) bool { return at>>k<<k == at }

// checkAnywhere is not Check with all pages: a block that begins below MaxPages, and reaches over it, is ErrShape here.
func checkAnywhere(b api.Block) error {
	if b.At < 0 || b.At >= api.MaxPages || !isOrder(b.Order) {
		return api.ErrBound
	}
	if !begins(b.At, b.Order) {
		return api.ErrShape
	}
	return nil
}

// checkBelow asks for a block that has a next order above it.
func checkBelow(b api.Block) error {
	if err := checkAnywhere(b); err != nil {
		return err
	}
	if b.Order == api.MaxOrder {
		return api.ErrNone
	}
	return nil
}

// widest tells the highest order of a block that begins at a page, and has none from end on. Each order that does implies those below it, so the first that does not ends the search.
func widest(at, end int) int {
	k := 0
	for k < api.MaxOrder && begins(at, k+1) && (end-at)>>(k+1) > 0 {
		k++
	}
	return k
}
