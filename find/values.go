package find

import (
	"slices"
	"strings"

	"copse/scan"
	"copse/selector"
)

// isAsked tells whether the value of an attribute is as it is asked for.
func isAsked(value string, asked selector.Attribute) bool {
	against := asked.Against
	if asked.AnyCase {
		value, against = scan.Small(value), scan.Small(against)
	}
	switch asked.Op {
	case "=":
		return value == against
	case "~=":
		return hasPart(value, against)
	case "|=":
		return value == against || strings.HasPrefix(value, against+"-")
	case "^=":
		return against != "" && strings.HasPrefix(value, against)
	case "$=":
		return against != "" && strings.HasSuffix(value, against)
	case "*=":
		return against != "" && strings.Contains(value, against)
	}
	return true
}

// hasPart tells whether one of the value's parts between spaces is that one.
func hasPart(value, part string) bool { return slices.Contains(strings.Fields(value), part) }

// isAmong tells whether the number is a k + b for some k from 0 on.
func isAmong(number int, nth selector.Nth) bool {
	beyond := number - nth.B
	if nth.A == 0 {
		return beyond == 0
	}
	return beyond%nth.A == 0 && beyond/nth.A >= 0
}
