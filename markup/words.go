// Package markup reads documents to trees, and writes them.
package markup

// A reference stands for a byte that can't stand for itself.
type reference struct {
	written string // without its &
	meant   byte
}

// No two of them begin with the same letter: the first one tells which it is.
var references = [...]reference{
	{"amp;", '&'},
	{"lt;", '<'},
	{"gt;", '>'},
	{"quot;", '"'},
}

func isVoid(name string) bool {
	return name == "br" || name == "hr" || name == "img"
}
