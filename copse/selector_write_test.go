package copse

import (
	"strconv"
	"strings"
	"testing"

	"copse/api"
)

func checkWritten(t *testing.T, text, want string) {
	t.Helper()
	s := mustCompile(t, text)
	if w := s.Write(); w != want {
		t.Errorf("P6: %q is written %q; want %q", text, w, want)
	}
	checkWrittenAgain(t, s)
}

func TestP6Write(t *testing.T) {
	for _, c := range [][2]string{
		// the document's own
		{"a  >b , C", "a>b,c"}, {":nth-child( -n + 03 )", ":nth-child(-1n+3)"},
		// spaces, combinators and lists
		{"p", "p"}, {" \n\tp\t\n ", "p"}, {"a b", "a b"}, {"a\n\t b", "a b"}, {"a\tb", "a b"}, {"a\n>\tb", "a>b"}, {"a> b", "a>b"}, {"a >b", "a>b"}, {"a + b", "a+b"}, {"a\n~\nb", "a~b"}, {"a+b ~ c d>e", "a+b~c d>e"},
		{"a ,\nb", "a,b"}, {" a,b , c ", "a,b,c"}, {"a,a", "a,a"}, {"b,a", "b,a"}, {"a b c", "a b c"}, {"a *", "a *"}, {"* > *", "*>*"}, {"a .b", "a .b"}, {"a #b", "a #b"}, {"a [b]", "a [b]"}, {"a :root", "a :root"},
		// names, any, words
		{"PQ-1", "pq-1"}, {"*", "*"}, {"*.x", "*.x"}, {".x", ".x"}, {"P#Q.R", "p#Q.R"}, {"#q#q.q.q", "#q#q.q.q"}, {".b.a", ".b.a"}, {"#1", "#1"}, {".-_", ".-_"}, {"._A-9", "._A-9"},
		{strings.ToUpper(longName) + "." + strings.ToUpper(longName), longName + "." + strings.ToUpper(longName)},
		// attributes
		{"[A]", "[a]"}, {"[ A\n]", "[a]"}, {"[a=b]", "[a=\"b\"]"}, {"[A=B]", "[a=\"B\"]"}, {"[ a = b ]", "[a=\"b\"]"}, {"[a=\"b\"]", "[a=\"b\"]"}, {"[a=\"\"]", "[a=\"\"]"}, {"[a~=b]", "[a~=\"b\"]"}, {"[a|=b]", "[a|=\"b\"]"},
		{"[a^=b]", "[a^=\"b\"]"}, {"[a$=b]", "[a$=\"b\"]"}, {"[a*=b]", "[a*=\"b\"]"}, {"[a\t*=\n\"b\" ]", "[a*=\"b\"]"}, {"[a=\" B\n\tc  \"]", "[a=\" B\n\tc  \"]"}, {"[a=\"'<&>]),:i\"]", "[a=\"'<&>]),:i\"]"}, {"[a=\"&quot;\"]", "[a=\"&quot;\"]"},
		{"[a=b i]", "[a=\"b\" i]"}, {"[a=b\n\ti ]", "[a=\"b\" i]"}, {"[a=\"b\"i]", "[a=\"b\" i]"}, {"[a=\"b\" i]", "[a=\"b\" i]"}, {"[a=\"B\"i\t]", "[a=\"B\" i]"}, {"[a=i]", "[a=\"i\"]"}, {"[a=i i]", "[a=\"i\" i]"}, {"[a=bi]", "[a=\"bi\"]"}, {"[i]", "[i]"}, {"[i=i i]", "[i=\"i\" i]"}, {"[a=\"\"i]", "[a=\"\" i]"},
		{"[a=-_1]", "[a=\"-_1\"]"}, {"[" + longName + "=" + longName + "]", "[" + longName + "=\"" + longName + "\"]"}, {"p[a][b]", "p[a][b]"}, {"[a-=b]", "[a-=\"b\"]"}, {"[a-|=b]", "[a-|=\"b\"]"},
		// pseudos
		{":root:empty:first-child", ":root:empty:first-child"}, {"p:last-child :only-child", "p:last-child :only-child"}, {":not(a)", ":not(a)"}, {":is( A )", ":is(a)"}, {":not( a , b c>d )", ":not(a,b c>d)"}, {":is(:not(:is(*)))", ":is(:not(:is(*)))"}, {"a:is(b):not(c) d", "a:is(b):not(c) d"}, {":is(a)\n:not(b)", ":is(a) :not(b)"},
	} {
		checkWritten(t, c[0], c[1])
	}
}

func TestP6WriteNthChild(t *testing.T) {
	for text, want := range map[string]string{
		"odd": "odd", " odd\n": "odd", "even": "even", "\teven ": "even", "2n+1": "2n+1", "2n": "2n", "+2n+1": "2n+1", "2n+0": "2n", "2n-0": "2n", "2n+00": "2n",
		"n": "1n", "+n": "1n", "-n": "-1n", "1n": "1n", "-1n": "-1n", "+1n": "1n", "01n": "1n", "-01n": "-1n", "0n": "0n", "-0n": "0n", "00n": "0n", "+0n": "0n", "-00n-00": "0n", "0n+3": "0n+3", "0n-3": "0n-3", "10n": "10n", "99n-99": "99n-99", "-99n+99": "-99n+99",
		"n+1": "1n+1", "n-1": "1n-1", "-n+1": "-1n+1", "-n - 01": "-1n-1", "n\n+\t1": "1n+1", "n +1": "1n+1", "n+ 1": "1n+1", " 03n - 04 ": "3n-4", "20n+10": "20n+10",
		"0": "0", "00": "0", "-0": "0", "+0": "0", "-00": "0", "7": "7", "+7": "7", "-7": "-7", "07": "7", "+07": "7", "-07": "-7", "70": "70", "99": "99", "-99": "-99", " 1 ": "1",
	} {
		checkWritten(t, ":nth-child("+text+")", ":nth-child("+want+")")
	}
}

func TestP6AllNumbers(t *testing.T) {
	for a := -99; a <= 99; a++ {
		for b := -99; b <= 99; b++ {
			want := strconv.Itoa(a) + "n"
			if b != 0 {
				want += strings.Replace("+"+strconv.Itoa(b), "+-", "-", 1)
			}
			for _, text := range []string{want, strings.NewReplacer("+", " +\n", "-", "-").Replace(want)} {
				if w := mustCompile(t, ":nth-child("+text+")").Write(); w != ":nth-child("+want+")" {
					t.Errorf("P6: %q is written %q", text, w)
				}
			}
		}
		checkWritten(t, ":nth-child("+strconv.Itoa(a)+")", ":nth-child("+strconv.Itoa(a)+")")
	}
}

func TestP6MayBeTooLongToBeRead(t *testing.T) {
	text := strings.Repeat("[a=b]", 20) + strings.Repeat(",abc", 25)
	notCompiled(t, mustCompile(t, text).Write(), api.ErrLong, 0)
}

// A maker makes selectors, always the same ones: in some way, and in the one way of P6. It counts what P3 limits.
type maker struct {
	state            uint32
	simples, deepest int
}

// below makes a number from 0 on, below that one: always the same ones from one state.
func (m *maker) below(n int) int {
	m.state = m.state*1664525 + 1013904223
	return int(m.state>>16) % n
}

// pair is one thing, written in some way and in the one way.
type pair struct{ some, one string }

func same(text string) pair { return pair{text, text} }

func (p pair) and(q pair) pair { return pair{p.some + q.some, p.one + q.one} }

func (m *maker) among(texts ...string) string { return texts[m.below(len(texts))] }

func (m *maker) spaces() pair { return pair{m.among("", "", "", " ", "\n", "\t "), ""} }

func (m *maker) name() pair {
	name := m.among("a", "B", "li", "q-1", "Odd", "I", "n", "abcdefghijklmnoP")
	return pair{name, strings.ToLower(name)}
}

func (m *maker) word() string {
	return m.among("a", "B", "1", "-", "_x", "i", "n2", "ABCDEFGHIJKLMNOp")
}

func (m *maker) list(depth int) pair {
	m.deepest = max(m.deepest, depth)
	list := m.spaces().and(m.complex(depth))
	for m.below(3) == 0 {
		list = list.and(same(",")).and(m.spaces()).and(m.complex(depth))
	}
	return list
}

func (m *maker) complex(depth int) pair {
	row := m.compound(depth)
	for m.below(3) == 0 {
		if m.below(2) == 0 {
			row = row.and(pair{m.among(" ", "\t", "\n  "), " "})
		} else {
			row = row.and(m.spaces()).and(same(m.among(">", "+", "~"))).and(m.spaces())
		}
		row = row.and(m.compound(depth))
	}
	return row.and(m.spaces())
}

func (m *maker) compound(depth int) pair {
	var compound pair
	switch m.below(3) {
	case 0:
		compound = m.name()
	case 1:
		compound = same("*")
	default:
		compound = m.simple(depth)
	}
	for m.below(2) == 0 {
		compound = compound.and(m.simple(depth))
	}
	return compound
}

func (m *maker) simple(depth int) pair {
	m.simples++
	switch m.below(6) {
	case 0:
		return same(m.among("#", ".") + m.word())
	case 1, 2:
		return same("[").and(m.attribute()).and(same("]"))
	case 3:
		return same(":nth-child(").and(m.spaces()).and(m.nth()).and(m.spaces()).and(same(")"))
	case 4:
		return same(m.among(":not(", ":is(")).and(m.list(depth + 1)).and(same(")"))
	}
	return same(m.among(":root", ":empty", ":first-child", ":last-child", ":only-child"))
}

func (m *maker) attribute() pair {
	asked := m.spaces().and(m.name()).and(m.spaces())
	if m.below(3) == 0 {
		return asked
	}
	asked = asked.and(same(m.among("=", "~=", "|=", "^=", "$=", "*="))).and(m.spaces())
	gap := m.spaces()
	if m.below(2) == 0 {
		word := m.word()
		asked = asked.and(pair{word, "\"" + word + "\""})
		gap = pair{" ", ""}
	} else {
		asked = asked.and(same("\"" + m.among("", "a", "B c", "]\n,", "i", "\t'>") + "\""))
	}
	asked = asked.and(gap)
	if m.below(2) == 0 {
		asked = asked.and(pair{"i", " i"}).and(m.spaces())
	}
	return asked
}

func (m *maker) nth() pair {
	switch m.below(4) {
	case 0:
		return same(m.among("odd", "even"))
	case 1:
		sign := m.among("", "+", "-")
		some, count := m.count()
		return pair{sign + some, signed(sign, count)}
	}
	sign := m.among("", "+", "-")
	some, count := m.count()
	if m.below(3) == 0 {
		some, count = "", 1
	}
	nth := pair{sign + some + "n", signed(sign, count) + "n"}
	if m.below(2) == 0 {
		sign := m.among("+", "-")
		some, count := m.count()
		nth = nth.and(m.spaces()).and(pair{sign, ""}).and(m.spaces()).and(pair{some, ""})
		if count != 0 {
			nth.one += sign + strconv.Itoa(count)
		}
	}
	return nth
}

func (m *maker) count() (string, int) {
	text := m.among("0", "1", "5", "00", "01", "09", "10", "42", "99")
	count, _ := strconv.Atoi(text)
	return text, count
}

func signed(sign string, count int) string {
	if sign == "-" {
		count = -count
	}
	return strconv.Itoa(count)
}

func TestP6ManySelectors(t *testing.T) {
	written, limited := 0, 0
	for start := range 30000 {
		m := &maker{state: uint32(start) * 2654435761}
		made := m.list(0)
		switch {
		case len(made.some) > api.MaxSelector:
			notCompiled(t, made.some, api.ErrLong, 0)
		case m.simples > api.MaxSimples || m.deepest >= api.MaxNest:
			notCompiled(t, made.some, api.ErrLimit, 0)
			limited++
		default:
			checkWritten(t, made.some, made.one)
			written++
		}
	}
	if written < 10000 || limited < 10 {
		t.Errorf("only %d selectors were written, %d were beyond a limit", written, limited)
	}
}
