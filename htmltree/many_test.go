package htmltree_test

import (
	"math"
	"slices"
	"strconv"
	"strings"
	"testing"

	"htmltree/api"
	"htmltree/htmltree"
)

// page writes the tree of a document whose body holds that.
func page(body string) string { return "<html><head></head><body>" + body + "</body></html>" }

// checkMany holds what Many says against trees and errors; a place counts for those errors that have one.
func checkMany(t *testing.T, texts []string, limits [3]int, trees []string, errs []error) {
	t.Helper()
	gotTrees, gotErrs := htmltree.Many(texts, limits[0], limits[1], limits[2])
	if !slices.Equal(gotTrees, trees) || len(gotErrs) != len(errs) {
		t.Fatalf("P31: Many of %q = %q, %v, want %q, %v", texts, gotTrees, gotErrs, trees, errs)
	}
	for i, err := range gotErrs {
		stop, isStop := err.(*api.Stop)
		want, isWanted := errs[i].(*api.Stop)
		if isStop != isWanted || isStop && *stop != *want || !isStop && err != errs[i] {
			t.Errorf("P31: Many of %q says of number %d: %#v, want %#v", texts, i, err, errs[i])
		}
	}
}

func TestP31Many(t *testing.T) {
	checkMany(t,
		[]string{"<p>a<p>b", "", "<!doctype html>x&lt;", "<p>a<p>b", "<b>1<p>2</b>3"},
		[3]int{64, 32, 16},
		[]string{page("<p>a</p><p>b</p>"), page(""), "<!DOCTYPE html>" + page("x&lt;"), page("<p>a</p><p>b</p>"), page("<b>1</b><p><b>2</b>3</p>")},
		[]error{nil, nil, nil, nil, nil})
	checkMany(t, []string{""}, [3]int{4, 1, 1}, []string{page("")}, []error{nil})
}

func TestP31Errors(t *testing.T) {
	long := strings.Repeat("y", api.MaxText)
	checkMany(t,
		[]string{"<b>x<i>y", "ok", "x</p a b>", long + "y", long, "<table><td>x", "", "\x00<b a b><b><b><b><b>"},
		[3]int{4, 1, 1},
		[]string{"", page("ok"), "", "", page(long), "", page(""), ""},
		[]error{&api.Stop{Err: api.ErrForm, At: 4}, nil, &api.Stop{Err: api.ErrAttr, At: 1}, api.ErrLong, nil, &api.Stop{Err: api.ErrDepth, At: 7}, nil, &api.Stop{Err: api.ErrAttr, At: 1}})
	for _, limits := range [][3]int{{3, 1, 1}, {4, 0, 1}, {4, 1, 0}, {65, 32, 16}, {64, 33, 16}, {64, 32, 17}, {-1, -1, -1}, {math.MinInt, math.MaxInt, 0}} {
		checkMany(t, []string{"x", long + "y", "<b><i><a>"}, limits, []string{"", "", ""}, []error{api.ErrLimit, api.ErrLimit, api.ErrLimit})
	}
}

func TestP31NoTexts(t *testing.T) {
	for _, texts := range [][]string{nil, {}} {
		for _, depth := range []int{0, 4} {
			if trees, errs := htmltree.Many(texts, depth, 1, 1); trees != nil || errs != nil {
				t.Errorf("P2, P31: Many of no texts = %#v, %#v", trees, errs)
			}
		}
	}
}

// Each tree stands where its text does, however many are read at the same time.
func TestP31ManyTexts(t *testing.T) {
	var texts, trees []string
	var errs []error
	for i := range 2000 {
		n := strconv.Itoa(i)
		switch i % 3 {
		case 0:
			texts, trees, errs = append(texts, "<p a="+n+">"+n+"<p>"), append(trees, page(`<p a="`+n+`">`+n+"</p><p></p>")), append(errs, nil)
		case 1:
			texts, trees, errs = append(texts, n+"<p a b c>"), append(trees, ""), append(errs, &api.Stop{Err: api.ErrAttr, At: len(n)})
		case 2:
			texts, trees, errs = append(texts, "<table>"+n+"<td>"), append(trees, page(n+"<table><tbody><tr><td></td></tr></tbody></table>")), append(errs, nil)
		}
	}
	before := slices.Clone(texts)
	checkMany(t, texts, [3]int{6, 1, 2}, trees, errs)
	if !slices.Equal(texts, before) {
		t.Errorf("P2: Many changed its texts")
	}
}

func TestP31ListsAreFresh(t *testing.T) {
	texts := []string{"a", "<p b c>"}
	trees, errs := htmltree.Many(texts, 4, 1, 1)
	clear(trees)
	clear(errs)
	checkMany(t, texts, [3]int{4, 1, 1}, []string{page("a"), ""}, []error{nil, &api.Stop{Err: api.ErrAttr, At: 0}})
	if texts[0] != "a" || texts[1] != "<p b c>" {
		t.Errorf("P2: Many's answer is its argument: %q", texts)
	}
}

// What Many says is what a parser says that is asked alone.
func TestP31AsOneParser(t *testing.T) {
	var all []string
	texts(pieces(), 2, func(s string) { all = append(all, s+"<b c><i>x") })
	trees, errs := htmltree.Many(all, 5, 2, 1)
	stopped := 0
	for i, text := range all {
		p, _ := htmltree.New(5, 2, 1)
		p.Write([]byte(text))
		err := p.Close()
		if err != nil {
			stopped++
		}
		if trees[i] != p.Text() || (errs[i] == nil) != (err == nil) || err != nil && *errs[i].(*api.Stop) != *err.(*api.Stop) {
			t.Fatalf("P31: Many says of %q: %q, %v, a parser %q, %v", text, trees[i], errs[i], p.Text(), err)
		}
	}
	if stopped == 0 || stopped == len(all) {
		t.Errorf("%d of %d texts passed a limit", stopped, len(all))
	}
}
