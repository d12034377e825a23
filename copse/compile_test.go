package copse

import (
	"strings"
	"testing"

	"copse/api"
)

func TestP3CompileLong(t *testing.T) {
	mustCompile(t, "p"+strings.Repeat(" ", api.MaxSelector-1))
	mustCompile(t, "[a=\""+strings.Repeat("x", api.MaxSelector-6)+"\"]")
	notCompiled(t, "p"+strings.Repeat(" ", api.MaxSelector), api.ErrLong, 0)
	notCompiled(t, "[a=\""+strings.Repeat("x", api.MaxSelector-5)+"\"]", api.ErrLong, 0)
	notCompiled(t, strings.Repeat(")", api.MaxSelector+1), api.ErrLong, 0)
	notCompiled(t, strings.Repeat(".x", api.MaxSelector), api.ErrLong, 0)
}

func TestP3CompileTooManySimples(t *testing.T) {
	most := strings.Repeat(".x", api.MaxSimples)
	for _, kind := range []string{"#x", ".x", "[a]", "[a=b]", ":root", ":empty"} {
		mustCompile(t, strings.Repeat(kind, api.MaxSimples))
		notCompiled(t, strings.Repeat(kind, api.MaxSimples+1), api.ErrLimit, 0)
	}
	for _, text := range []string{
		most, "p" + most, "*" + most + " *,p>q", strings.Repeat("p.x>", api.MaxSimples) + "p", strings.Repeat(".x,", api.MaxSimples) + "p",
		":not(" + most[2:] + ")", ":not(.x,.y):is(:nth-child(2))" + most[10:], strings.Repeat("p,", 99) + "p", strings.Repeat("* ", 99) + "p",
		strings.Repeat(":is(a)", api.MaxSimples),
	} {
		mustCompile(t, text)
	}
	for _, text := range []string{
		most + ".x", "p" + most + ".x", "p " + most + " p.x", most + ",.x", ".x>" + most, ":not(" + most + ")", ":is(p)" + most, ":is(.x)" + most[2:], ":is(p,:not(" + most[2:] + "))",
		":not(.x,.y):is(:nth-child(2))" + most[8:], strings.Repeat(":is(a)", api.MaxSimples+1), ":nth-child(n)" + most, ":nth-child(odd)" + most,
	} {
		notCompiled(t, text, api.ErrLimit, 0)
	}
}

func TestP3CompileTooDeep(t *testing.T) {
	for _, opening := range []string{":not(", ":is("} {
		mustCompile(t, within(opening, api.MaxNest-1, "p"))
		mustCompile(t, within(opening, api.MaxNest-1, ":nth-child(2n)[a]"))
		mustCompile(t, within(opening, api.MaxNest-1, "p")+within(opening, api.MaxNest-1, "p"))
		mustCompile(t, within(opening, api.MaxNest-1, "p")+" , "+within(opening, api.MaxNest-1, "p"))
		notCompiled(t, within(opening, api.MaxNest, "p"), api.ErrLimit, 0)
		notCompiled(t, within(opening, api.MaxNest-1, "a,b "+opening+"c)"), api.ErrLimit, 0)
		notCompiled(t, within(opening, api.MaxNest, "p")+",p", api.ErrLimit, 0)
		notCompiled(t, within(opening, 30, "p"), api.ErrLimit, 0)
	}
	notCompiled(t, ":not(:is(:not(:is(p))))", api.ErrLimit, 0)
	mustCompile(t, ":not(:is(:not(p)))")
}

func TestP3CompileFormIsToldAheadOfLimits(t *testing.T) {
	many, deep := strings.Repeat(".x", api.MaxSimples+1), within(":is(", api.MaxNest+1, "p")
	for _, ahead := range []string{many, deep} {
		notCompiled(t, ahead+",", api.ErrSyntax, len(ahead)+1)
		notCompiled(t, ahead+")", api.ErrSyntax, len(ahead))
		notCompiled(t, ahead+"[a=", api.ErrSyntax, len(ahead)+3)
	}
	notCompiled(t, strings.Repeat(":not(", 40), api.ErrSyntax, 200)
	notCompiled(t, strings.Repeat(":not(", 5)+")", api.ErrSyntax, 25)
}

func TestP3CompilePlaces(t *testing.T) {
	for text, place := range map[string]int{
		// the document's own
		"a >": 3, "a,": 2, ":nth-child(2n+)": 14, ":nope": 3, "[a=]": 3,
		// lists and combinators
		"": 0, " ": 1, "\n\t ": 3, ",": 0, " ,": 1, ",a": 0, "a,,b": 2, "a, ,b": 3, "a , ": 4, "a,b,": 4, ">": 0, "> a": 0, "+a": 0, "~a": 0, "a>": 2, "a>>b": 2, "a > > b": 4, "a +~ b": 3,
		"a~": 2, "a ~ ": 4, "a > ,b": 4, "a>,b": 2, "a >)": 3, "a)": 1, "a )": 2, ")": 0, "(": 0, "(a)": 0, "a(": 1, "a (": 2, "a|b": 1, "a || b": 2, "a b >": 5, "a&b": 1, "a;": 1,
		// names and any
		"1": 0, "-a": 0, "_": 0, "a_b": 1, "a 1": 2, "a -b": 2, "**": 1, "*a": 1, "a*": 1, "* *a": 3, "*1": 1, "a b*": 3, "\"a\"": 0, "'": 0, "=": 0, "]": 0,
		longName + "q": 16, longName + "-": 16, longName + "1": 16, longName + "_": 16, "a " + longName + "q b": 18, strings.ToUpper(longName) + "Q": 16,
		// words
		".": 1, "#": 1, "# a": 1, ". a": 1, "..a": 1, "#.a": 1, ".*": 1, "a.": 2, "a#": 2, "a. b": 2, ".a*": 2, ".a=": 2, "#a]": 2, ".a\"": 2,
		"." + longName + "_": 17, "#" + longName + "q": 17, "#" + longName + "-": 17, "a." + longName + "1.b": 18, "." + longName + longName: 17,
		// attributes
		"[": 1, "[ ": 2, "[]": 1, "[ ]": 2, "[1]": 1, "[-a]": 1, "[_]": 1, "[*]": 1, "[#a]": 1, "[\"a\"]": 1, "[=b]": 1, "[a": 2, "[a ": 3, "[a_b]": 2, "[a b]": 3, "[a,b]": 2, "[a.b]": 2, "[a)": 2,
		"[a i]": 3, "[ai ]b": 5, "[a]b": 3, "[a]*": 3, "[a]]": 3, "[a] ]": 4, "[" + longName + "q]": 17, "[ " + longName + "-=b]": 18,
		"[a=": 3, "[a= ": 4, "[a= ]": 4, "[a==b]": 3, "[a!=b]": 2, "[a~]": 3, "[a~b]": 3, "[a~ =b]": 3, "[a|b]": 3, "[a|": 3, "[a^]": 3, "[a$]": 3, "[a* =b]": 3, "[a+=b]": 2, "[a>b]": 2, "[a= =b]": 4, "[a~~=b]": 3, "[a=~b]": 3,
		"[a=b": 4, "[a=b ": 5, "[a=b i": 6, "[a=b i ": 7, "[a=b I]": 5, "[a=b s]": 5, "[a=b c]": 5, "[a=b ii]": 6, "[a=b i i]": 7, "[a=b,c]": 4, "[a=b.c]": 4, "[a=b\"c\"]": 4, "[a=#b]": 3, "[a='b']": 3, "[a=*]": 3, "[a=b)": 4, "[a=b*]": 4,
		"[a=" + longName + "i]": 19, "[a=" + longName + "_]": 19, "[a=" + longName + " i": 21, "[a~=" + longName + "q": 20,
		"[a=\"": 4, "[a=\"b": 5, "[a=\"b]": 6, "[a=\"b\"": 6, "[a=\"b\" ": 7, "[a=\"b\"i": 7, "[a=\"b\" i": 8, "[a=\"b\"ii]": 7, "[a=\"b\"I]": 6, "[a=\"b\"\"c\"]": 6, "[a=\"b\"c]": 6, "[a=\"b\"-]": 6, "[a=\"b\" i i]": 9, "[a=\"b\"]]": 7,
		// pseudos
		":": 1, "a:": 2, "::root": 1, ": root": 1, ":Root": 1, ":rOot": 2, ":r": 2, ":roo": 4, ":roo(": 4, ":rootx": 5, ":root-": 5, ":root1": 5, ":root_": 5, ":root(": 5, ":root*": 5, ":root)": 5,
		":empty(": 6, ":emptyy": 6, ":emp": 4, ":first": 6, ":first-x": 7, ":first-childs": 12, ":first child": 6, ":first-of-type": 7, ":last-chil": 10, ":last-child-": 11, ":only-": 6, ":only-child ,": 13, ":only_child": 5, ":1": 1, ":*": 1, ":(a)": 1, ":has(a)": 1,
		":n": 2, ":no": 3, ":nt": 3, ":nt(": 3, ":not": 4, ":not ": 4, ":not (a)": 4, ":not()": 5, ":not( )": 6, ":not(": 5, ":not(a": 6, ":not(a ": 7, ":not(a))": 7, ":not(a b": 8, ":not(,)": 5, ":not(a,)": 7, ":not(a>)": 7, ":not(a]": 6, ":NOT(a)": 1, ":note(a)": 4, ":not(a)b": 7, ":not(a)*": 7,
		":i": 2, ":is": 3, ":is(a,)": 6, ":is(a, ": 7, ":is(:is(a)": 10, ":is(:is(a)))": 11, ":is(:nope)": 7, ":is(a b": 7, ":isa": 3, ":is((a))": 4, ":is(a):is": 9,
		// numbers of siblings
		":nth": 4, ":nth-": 5, ":nth-child": 10, ":nth-child ": 10, ":nth-childs(": 10, ":nth-last-child(1)": 5, ":nth-child(": 11, ":nth-child( ": 12, ":nth-child()": 11, ":nth-child( )": 12, ":nth-child(x)": 11, ":nth-child(,)": 11,
		":nth-child(o)": 12, ":nth-child(od": 13, ":nth-child(odd": 14, ":nth-child(odds)": 14, ":nth-child(oddn)": 14, ":nth-child(Odd)": 11, ":nth-child(+odd)": 12, ":nth-child(odd+1)": 14, ":nth-child(odd +1)": 15, ":nth-child(e": 12, ":nth-child(eve)": 14, ":nth-child(evenn)": 15, ":nth-child(-even)": 12, ":nth-child(even odd)": 16,
		":nth-child(2 n)": 13, ":nth-child(- n)": 12, ":nth-child(+ 2)": 12, ":nth-child(+-n)": 12, ":nth-child(--2)": 12, ":nth-child(-)": 12, ":nth-child(+": 12, ":nth-child(100)": 13, ":nth-child(001)": 13, ":nth-child(-100n)": 14, ":nth-child(1+2)": 12, ":nth-child(1 +2)": 13, ":nth-child(1,2)": 12, ":nth-child(1.5)": 12, ":nth-child(2": 12, ":nth-child(22": 13, ":nth-child(2 ": 13, ":nth-child(2 2)": 13,
		":nth-child(n": 12, ":nth-child(n ": 13, ":nth-child(nn)": 12, ":nth-child(N)": 11, ":nth-child(2N)": 12, ":nth-child(n2)": 12, ":nth-child(n 2)": 13, ":nth-child(1n2)": 13, ":nth-child(n*2)": 12, ":nth-child(n_)": 12,
		":nth-child(n+": 13, ":nth-child(n+)": 13, ":nth-child(n + )": 15, ":nth-child(n +": 14, ":nth-child(n+n)": 13, ":nth-child(n++1)": 13, ":nth-child(n+ +1)": 14, ":nth-child(2n + -1)": 16, ":nth-child(n-1n)": 14, ":nth-child(2n+1": 15, ":nth-child(2n+1 ": 16, ":nth-child(2n+100)": 16, ":nth-child(2n+1+1)": 15, ":nth-child(2n+1 1)": 16, ":nth-child(2n+1]": 15, ":nth-child(1 of a)": 13,
		":nth-child(1))": 13, ":nth-child(1)a": 13, ":not(:nth-child(1)": 18,
	} {
		notCompiled(t, text, api.ErrSyntax, place)
	}
}

func TestP3CompileBytes(t *testing.T) {
	for b := range 256 {
		one := string([]byte{byte(b)})
		allowed := b == 9 || b == 10 || b >= 32 && b <= 126
		if quoted := "[a=\"" + one + "\"]"; allowed && b != '"' {
			mustCompile(t, quoted)
		} else if !allowed {
			notCompiled(t, quoted, api.ErrSyntax, 4)
			for _, ahead := range []string{"", "a", "a ", "a>", "a,", "*", ".", ".x", "[", "[a", "[a=", "[a=b", "[a=\"\"", ":", ":not(", ":nth-child(", ":nth-child(2", ":nth-child(n+"} {
				notCompiled(t, ahead+one, api.ErrSyntax, len(ahead))
			}
		}
	}
}

func TestP3CompileKindsOfBytes(t *testing.T) {
	for b := range 256 {
		one := string([]byte{byte(b)})
		space := b == 9 || b == 10 || b == 32
		letter := b >= 'A' && b <= 'Z' || b >= 'a' && b <= 'z'
		digit := b >= '0' && b <= '9'
		inName := letter || digit || b == '-'
		between := strings.Contains(" \t\n>+~,", one)
		for text, right := range map[string]bool{
			one + one + "a" + one + one: space || letter,
			"a" + one + "b":             inName || between || b == '#' || b == '.',
			one:                         letter || b == '*',
			"." + one:                   inName || b == '_',
			"#x" + one + "y":            inName || b == '_' || between || b == '#' || b == '.',
			"[" + one + "]":             letter,
			"[" + one + "a" + one + "=" + one + "b" + one + "i" + one + "]": space || letter,
			"[a" + one + "=b]":          inName || space || strings.Contains("~|^$*", one),
			"[a=" + one + "]":           inName || b == '_',
			"[a=b" + one + "]":          inName || b == '_' || space,
			"[a=\"b\"" + one + "]":      space || b == 'i',
			"[a=b " + one + "]":         space || b == 'i',
			":nth-child(" + one + ")":   digit || b == 'n',
			":nth-child(" + one + "1)":  digit || space || b == '+' || b == '-',
			":nth-child(n" + one + "1)": b == '+' || b == '-',
			":nth-child(" + one + "2n" + one + "+" + one + "3" + one + ")":  space,
			":nth-child(3" + one + ")":                                      digit || space || b == 'n',
			":is(" + one + "a" + one + "," + one + "b" + one + ")" + one:    space,
			"a" + one + one + ">" + one + one + "b" + one + "," + one + "c": space || letter,
			":root" + one + "p":  between || b == '#' || b == '.',
			":is(a)" + one + "p": between || b == '#' || b == '.',
			"*" + one + "p":      between || b == '#' || b == '.',
			"[a]" + one + "p":    between || b == '#' || b == '.',
		} {
			if _, err := Compile(text); right != (err == nil) {
				t.Errorf("P3: Compile(%q): %v; want a selector: %v", text, err, right)
			}
		}
	}
}
