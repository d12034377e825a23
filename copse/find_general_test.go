package copse

import (
	"math"
	"runtime"
	"slices"
	"strings"
	"sync"
	"testing"
	"time"
)

// found is what the four calls answer.
type found struct {
	all     []int
	first   int
	is      []bool
	closest []int
}

// findAll asks for everything that a selector means, also of numbers that are no element's.
func findAll(d *Doc, s *Selector) found {
	f := found{all: d.All(s), first: d.First(s)}
	for _, n := range []int{math.MinInt, math.MinInt + 1, -2, -1, 0, 1, 2, 3, 4, d.Len() - 1, d.Len(), d.Len() + 1, math.MaxInt - 1, math.MaxInt} {
		f.is = append(f.is, d.Is(n, s))
		f.closest = append(f.closest, d.Closest(n, s))
	}
	return f
}

func (f found) same(g found) bool {
	return slices.Equal(f.all, g.all) && f.first == g.first && slices.Equal(f.is, g.is) && slices.Equal(f.closest, g.closest)
}

func TestP1EverySelectorIsAskedOfEveryDocument(t *testing.T) {
	for _, document := range []string{"", "x", "<br>", example, around, nested("p", 12, "x"), strings.Repeat("<p/>", 100), strings.Repeat("<p>", 11) + strings.Repeat("<p/>", 89) + strings.Repeat("</p>", 11)} {
		d := mustParse(t, document)
		written := d.Write()
		for _, text := range []string{
			"*", ":not(*)", exampleSelector, strings.Repeat("p ", 99) + "p", strings.Repeat("p~", 99) + "p", strings.Repeat("p+", 99) + "p", strings.Repeat("p>", 99) + "p", strings.Repeat("p,", 99) + "p", within(":not(", 3, "*"), within(":is(", 3, "p"),
			":nth-child(99n-99)", ":nth-child(-99n+99)", ":nth-child(0n+0)", "[a*=\"\"]", strings.Repeat(":empty", 24),
		} {
			s := mustCompile(t, text)
			once, again := s.Write(), findAll(d, s)
			if !again.same(findAll(d, s)) || s.Write() != once || d.Write() != written {
				t.Errorf("P2: %.50q in %.50q: asked again, another answer", text, document)
			}
		}
	}
}

// Asked in all ways one by one, these would not end.
func TestP1HardSelectorsEnd(t *testing.T) {
	row := mustParse(t, strings.Repeat("<p/>", 100))
	stairs := mustParse(t, strings.Repeat("<p>", 11)+strings.Repeat("<p/>", 89)+strings.Repeat("</p>", 11))
	for _, text := range []string{
		"i" + strings.Repeat("~p", 99), strings.Repeat("p~", 99) + "i", "i" + strings.Repeat(" p", 99), strings.Repeat("p ", 99) + "i", "i" + strings.Repeat("~p p", 40),
		":is(:is(:is(i~*~*~*)~*~*~*)~*~*~*)~*~*~*", ":is(:is(:is(i *~*)~* *)~* *)~* *", ":is(:is(:is(i~*,i *)~*,:is(i~*)~*)~*,:is(:is(i~*)~*)~*)~*",
	} {
		s := mustCompile(t, text)
		done := make(chan int)
		go func() {
			checkFinds(t, row, s, nil)
			checkFinds(t, stairs, s, nil)
			close(done)
		}()
		select {
		case <-done:
		case <-time.After(time.Minute):
			t.Fatalf("P1: finding %q does not end", text)
		}
	}
}

func TestP2NoGoroutineIsLeft(t *testing.T) {
	before := runtime.NumGoroutine()
	for _, document := range []string{"", "<p/>", "<p/><p/>", around} {
		d := mustParse(t, document)
		for _, text := range []string{"*", "p", "i", ":not(*)"} {
			for range 50 {
				d.All(mustCompile(t, text))
			}
		}
	}
	for range 200 {
		if runtime.NumGoroutine() <= before {
			return
		}
		time.Sleep(10 * time.Millisecond) // one that has ended may be counted a little longer
	}
	t.Errorf("P2: %d goroutines ahead of the calls, %d behind them", before, runtime.NumGoroutine())
}

func TestP2ListsAreNew(t *testing.T) {
	for elements := 1; elements <= 20; elements++ {
		d, s := mustParse(t, strings.Repeat("<p/>", elements)), mustCompile(t, "p")
		want := slices.Clone(d.All(s))
		one, other := d.All(s), d.All(s)
		spare := other[:cap(other)]
		kept := slices.Clone(spare)
		for i := range one[:cap(one)] {
			one[:cap(one)][i] = -7
		}
		if !slices.Equal(spare, kept) || !slices.Equal(d.All(s), want) {
			t.Errorf("P2: of %d elements, two lists share memory", elements)
		}
	}
}

func TestP2SameFoundHoweverGoroutinesRun(t *testing.T) {
	d, s := mustParse(t, around), mustCompile(t, "p i, b:not(:only-child), :root:empty")
	want := findAll(d, s)
	if !slices.Equal(want.all, []int{1, 2, 3, 5, 6, 8, 9}) {
		t.Fatalf("P7: all are %v", want.all)
	}
	defer runtime.GOMAXPROCS(runtime.GOMAXPROCS(0))
	for _, at := range []int{1, 2, 8} {
		runtime.GOMAXPROCS(at)
		var wait sync.WaitGroup
		for range 16 {
			wait.Go(func() {
				for range 50 {
					if !findAll(d, s).same(want) {
						t.Errorf("P2: another answer in a goroutine")
					}
				}
			})
		}
		wait.Wait()
	}
}
