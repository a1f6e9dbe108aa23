// Package page has pages' bytes: see doc/01-page.md.
package page

import "pagewright/api"

// Within tells whether n bytes from byte at on lie in one page.
func Within(at, n int) bool {
	// The room left is taken away, not n added: at + n may be too large for an int.
	return at >= 0 && n >= 0 && n <= api.PageSize-at%api.PageSize
}

// Get answers bytes at up to at + n of p; nothing, if there are not so many.
func Get(p api.Page, at, n int) []byte {
	if at < 0 || n < 0 || n > api.PageSize-at {
		return nil
	}
	b := make([]byte, n)
	copy(b, p[at:])
	return b
}

// Set answers p with b from byte at on; what would lie behind its end is left out.
func Set(p api.Page, at int, b []byte) api.Page {
	if !hasByte(at) {
		return p
	}
	copy(p[at:], b)
	return p
}

// Cut answers p with noughts from byte at on.
func Cut(p api.Page, at int) api.Page {
	for i := max(at, 0); i < api.PageSize; i++ {
		p[i] = 0
	}
	return p
}

// Count answers how many pages n bytes take.
func Count(n int) int {
	if n < 1 {
		return 0
	}
	// Rounding up by adding first would run over for the largest n.
	return (n-1)/api.PageSize + 1
}

func hasByte(at int) bool { return at >= 0 && at < api.PageSize }
