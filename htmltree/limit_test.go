package htmltree_test

import (
	"strings"
	"testing"

	"htmltree/api"
	"htmltree/htmltree"
)

// stop is a text, the limits of open elements and of active ones, and what Close says: an error at a place, or api.OK.
type stop struct {
	text         string
	depth, forms int
	err          api.Errno
	at           int
}

// checkStops holds texts against where their reading stops.
func checkStops(t *testing.T, l []stop) {
	t.Helper()
	for _, c := range l {
		p, _ := htmltree.New(c.depth, c.forms, api.MaxAttr)
		p.Write([]byte(c.text))
		err := p.Close()
		if c.err == api.OK {
			if err != nil {
				t.Errorf("P25: %q with %d, %d: %v", c.text, c.depth, c.forms, err)
			}
			continue
		}
		said, ok := err.(*api.Stop)
		if !ok || *said != (api.Stop{Err: c.err, At: c.at}) {
			t.Errorf("P25: %q with %d, %d: %v, want %v at %d", c.text, c.depth, c.forms, err, c.err, c.at)
		}
		if n, same := p.Stop(); n != c.at || same != err {
			t.Errorf("P4: Stop of %q = %d, %v", c.text, n, same)
		}
		tellsNothing(t, p)
	}
}

func TestP25ActiveElements(t *testing.T) {
	checkStops(t, []stop{
		{"<b>x<i>y", 64, 1, api.ErrForm, 4},
		{"<b>x</b><i>y", 64, 1, api.OK, 0},
		{"<b>x<i>y<a>z<nobr>", 64, 4, api.OK, 0},
		{"<b>x<i>y<a>z<nobr>", 64, 3, api.ErrForm, 12},
		{"<b>x<i>y<a>z<nobr>", 64, 2, api.ErrForm, 8},
		{"<b><b><b><b><b>x", 64, 3, api.OK, 0},
		{"<b><b><b><b><b>x", 64, 2, api.ErrForm, 6},
		{"<b><b><b><b c>x", 64, 3, api.ErrForm, 9},
		{"<p><b>x<p>y<p>z", 64, 1, api.OK, 0},
		{"<p>" + strings.Repeat("<b><i>", 3) + "<b><i><a>", 64, 6, api.ErrForm, 27},
		{"<a>x<a>y<a>z", 64, 1, api.OK, 0},
		{"<nobr>x<nobr>y<nobr>z", 64, 1, api.OK, 0},
		{"<b><i><nobr><a><div>x</b>y</a></nobr><b>z", 64, 4, api.OK, 0},
	})
}

func TestP25Markers(t *testing.T) {
	checkStops(t, []stop{
		{"<object>x</object><object>y</object>", 64, 1, api.OK, 0},
		{"<object>x<object>", 64, 1, api.ErrForm, 9},
		{"<b><object>", 64, 1, api.ErrForm, 3},
		{"<object><b>", 64, 1, api.ErrForm, 8},
		{"<table><td>x<td>y<tr><th>z", 64, 1, api.OK, 0},
		{"<table><td><b>", 64, 1, api.ErrForm, 11},
		{"<table><td><table><td>", 64, 1, api.ErrForm, 18},
		{"<table><td><table><th>", 64, 2, api.OK, 0},
		{"<table><caption>x<caption>y<td>z", 64, 1, api.OK, 0},
		{"<table><caption><b>", 64, 1, api.ErrForm, 16},
		{"<table><caption><table><caption>", 64, 1, api.ErrForm, 23},
	})
}

// Of two limits the first that is met is told.
func TestP25TheFirst(t *testing.T) {
	checkStops(t, []stop{
		{"<b><i><a>", 4, 2, api.ErrDepth, 6},
		{"<b><i><a>", 5, 2, api.ErrForm, 6},
		{"<b><i><object>", 4, 2, api.ErrDepth, 6},
		{"<b><i><object>", 5, 2, api.ErrForm, 6},
		{"<b><table><caption>", 4, 1, api.ErrForm, 10},
		{"<b><table><caption>", 4, 2, api.ErrDepth, 10},
		{"<b><table><td>", 6, 1, api.ErrDepth, 10},
		{"<b><table><td>", 7, 1, api.ErrForm, 10},
		{"<b><table><td>", 7, 2, api.OK, 0},
	})
}

func TestP25DepthOfTables(t *testing.T) {
	checkStops(t, []stop{
		{"<table><td>x", 4, 32, api.ErrDepth, 7},
		{"<table><td>x", 5, 32, api.ErrDepth, 7},
		{"<table><td>x", 6, 32, api.OK, 0},
		{"<table><tr>x", 5, 32, api.OK, 0},
		{"<table><tr>x", 4, 32, api.ErrDepth, 7},
		{"<table><col>", 5, 32, api.OK, 0},
		{"<table><col>", 4, 32, api.ErrDepth, 7},
		{"<div><table><caption>", 4, 32, api.ErrDepth, 12},
		{"<div><table><tbody>", 4, 32, api.ErrDepth, 12},
		{"<div><table><colgroup>", 4, 32, api.ErrDepth, 12},
		{"<table><form><input type=hidden>", 4, 32, api.OK, 0},
		{"<div><table><form>", 4, 32, api.ErrDepth, 12},
		{"<div><table>x<input type=hidden>", 4, 32, api.ErrDepth, 13},
		{"<div><table>x<br>", 4, 32, api.ErrDepth, 13},
		{"<div><table>x</br>", 4, 32, api.ErrDepth, 13},
		{"<table><span>x<tbody><span>y</table><div><div>", 5, 32, api.OK, 0},
	})
}

func TestP25DepthOfSelects(t *testing.T) {
	checkStops(t, []stop{
		{"<select><option><option><optgroup><hr><hr>", 4, 32, api.OK, 0},
		{"<select><optgroup><option>", 4, 32, api.ErrDepth, 18},
		{"<div><select><option>", 4, 32, api.ErrDepth, 13},
		{"<div><select><optgroup>", 4, 32, api.ErrDepth, 13},
		{"<div><select><hr>", 4, 32, api.ErrDepth, 13},
		{"<div><select><input>", 4, 32, api.OK, 0},
	})
}

func TestP25DepthOfFormattingElements(t *testing.T) {
	checkStops(t, []stop{
		{"<p><b><i>x</p>yz", 5, 32, api.OK, 0},
		{"<p><b><i>x</p><div>y", 5, 32, api.OK, 0},
		{"<p><b><i>x</p><div><div>yz", 5, 32, api.ErrDepth, 24},
		{"<p><b><i>x</p><div><div><!--y--> ", 5, 32, api.ErrDepth, 32},
		{"<p><b><i>x</p><div><div><br>", 6, 32, api.ErrDepth, 24},
		{"<p><b><i>x</p><div><div></br>", 6, 32, api.ErrDepth, 24},
		{"<b><p>x</b>y", 4, 1, api.OK, 0},
		{"<b><i><p>x</b>y", 5, 2, api.OK, 0},
		{"<b><i><p>x</b>y</p><div><a>", 5, 2, api.OK, 0},
		{"<p><nobr>x</p><nobr>y", 4, 1, api.OK, 0},
		{"<div><nobr>x<nobr>y", 4, 1, api.OK, 0},
		{"<div><a>x<a>y", 4, 1, api.OK, 0},
		{"<div><b>x<b>y", 4, 2, api.ErrDepth, 9},
	})
}

// A formatting element that ends where another begins is not open beside it.
func TestP25EndedAheadOfTheLimit(t *testing.T) {
	deep := strings.Repeat("<r>", 61)
	checkStops(t, []stop{
		{deep + "<nobr><nobr>", 64, 32, api.OK, 0},
		{deep + "<nobr><nobr><nobr>", 64, 32, api.OK, 0},
		{deep + "<a><a>", 64, 32, api.OK, 0},
		{deep + "<b></b><b>", 64, 32, api.OK, 0},
		{deep + "<b><b>", 64, 32, api.ErrDepth, 186},
		{deep + "<r><nobr>", 64, 32, api.ErrDepth, 186},
		{deep + "<nobr><r>", 64, 32, api.ErrDepth, 189},
		{deep[3:] + "<nobr><div><nobr>", 64, 32, api.OK, 0},
		{deep[3:] + "<a><object><a>", 64, 32, api.ErrDepth, 191},
	})
}

// Characters of a table wait for the token behind them: this one is at work then.
func TestP25TableText(t *testing.T) {
	checkStops(t, []stop{
		{"<table><b><tr>xyz", 5, 32, api.ErrDepth, 17},
		{"<table><b><tr>xyz<td>", 5, 32, api.ErrDepth, 17},
		{"<table><b><tr>\r\nx</>y<!--z-->", 5, 32, api.ErrDepth, 21},
		{"<table><b><tr>xyz", 6, 32, api.OK, 0},
		{"<table><b><tr> \n", 5, 32, api.OK, 0},
		{"<table><b><tr>\x00", 5, 32, api.OK, 0},
	})
}
