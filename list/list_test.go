package list

import (
	"slices"
	"testing"
)

// of makes a list.
func of(entries ...string) *List[string] {
	l := &List[string]{}
	for _, x := range entries {
		l.Push(x)
	}
	return l
}

// check holds a list against its entries, gone over both ways.
func check(t *testing.T, l *List[string], want ...string) {
	t.Helper()
	var got []string
	for n := range l.Len() {
		got = append(got, l.At(n))
	}
	up := slices.Collect(l.Up())
	slices.Reverse(up)
	if !slices.Equal(got, want) || !slices.Equal(up, want) {
		t.Errorf("the list is %q, from its end up %q, want %q", got, up, want)
	}
}

func TestPushAndPop(t *testing.T) {
	l := of()
	check(t, l)
	for _, x := range []string{"a", "b", "c"} {
		l.Push(x)
		if l.Last() != x {
			t.Errorf("Last = %q, want %q", l.Last(), x)
		}
	}
	check(t, l, "a", "b", "c")
	for _, want := range []string{"c", "b", "a", "", ""} {
		if x := l.Pop(); x != want {
			t.Errorf("Pop = %q, want %q", x, want)
		}
	}
	check(t, l)
	l.Push("d")
	check(t, l, "d")
}

func TestWhatIsNotThere(t *testing.T) {
	if x := of().Last(); x != "" {
		t.Errorf("Last of nothing = %q", x)
	}
	for _, n := range []int{-1, 2, 100} {
		if x := of("a", "b").At(n); x != "" {
			t.Errorf("At(%d) = %q", n, x)
		}
	}
}

func TestRemove(t *testing.T) {
	l := of("a", "b", "c", "d")
	l.Remove("c")
	check(t, l, "a", "b", "d")
	l.Remove("nowhere")
	check(t, l, "a", "b", "d")
	l.Remove("a")
	check(t, l, "b", "d")
	l.Remove("d")
	check(t, l, "b")
	l.Remove("b")
	l.Remove("b")
	check(t, l)
}

func TestHas(t *testing.T) {
	l := of("a", "b")
	if !l.Has("a") || !l.Has("b") || l.Has("c") || l.Has("") || of().Has("") {
		t.Errorf("Has is wrong")
	}
}

func TestRightAhead(t *testing.T) {
	l := of("a", "b", "c")
	for x, want := range map[string]string{"c": "b", "b": "a", "a": "", "nowhere": ""} {
		if got := l.RightAhead(x); got != want {
			t.Errorf("ahead of %q is %q, want %q", x, got, want)
		}
	}
}

func TestPopTo(t *testing.T) {
	l := of("a", "b", "c", "b", "d")
	l.PopTo("b")
	check(t, l, "a", "b", "c")
	l.PopTo("c")
	check(t, l, "a", "b")
	l.PopTo("nowhere")
	check(t, l)
	l.PopTo("a")
	check(t, l)
}

func TestReplace(t *testing.T) {
	l := of("a", "b", "c")
	l.Replace("b", "x")
	l.Replace("a", "y")
	l.Replace("nowhere", "z")
	check(t, l, "y", "x", "c")
}

func TestPutBehind(t *testing.T) {
	l := of("a", "b")
	l.PutBehind("a", "x")
	l.PutBehind("b", "y")
	l.PutBehind("nowhere", "z")
	check(t, l, "a", "x", "b", "y")
}

func TestAhead(t *testing.T) {
	l := of("a", "b", "c", "d")
	for x, want := range map[string][]string{"d": {"c", "b", "a"}, "b": {"a"}, "a": nil, "nowhere": nil} {
		if got := slices.Collect(l.Ahead(x)); !slices.Equal(got, want) {
			t.Errorf("ahead of %q there are %q, want %q", x, got, want)
		}
	}
}

// What is gone over may be taken out or replaced.
func TestAheadWhileItChanges(t *testing.T) {
	l := of("a", "b", "c", "d", "e")
	var got []string
	for x := range l.Ahead("e") {
		got = append(got, x)
		if x == "c" {
			l.Replace(x, "y")
		} else {
			l.Remove(x)
		}
	}
	if !slices.Equal(got, []string{"d", "c", "b", "a"}) {
		t.Errorf("%q were gone over", got)
	}
	check(t, l, "y", "e")
}

func TestUpEndsWhenItIsTold(t *testing.T) {
	l := of("a", "b", "c")
	for want := 1; want <= 3; want++ {
		n := 0
		for x := range l.Up() {
			n++
			if n == want {
				l.Remove(x) // what is gone over may be changed where it is left
				break
			}
		}
		if n != want {
			t.Errorf("%d were gone over, want %d", n, want)
		}
		l.Push("d")
	}
}
