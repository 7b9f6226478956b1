package htmltree_test

import (
	"strings"
	"testing"

	"htmltree/api"
	"htmltree/htmltree"
)

// stop is a text, the limits of open elements and of active ones, and what Close says: an error at a place, or api.OK.
type stop struct {
	text         string
	depth, forms int
	err          api.Errno
	at           int
}

// checkStops holds texts against where their reading stops.
func checkStops(t *testing.T, l []stop) {
	t.Helper()
	for _, c := range l {
		checkStop(t, c.text, [3]int{c.depth, c.forms, api.MaxAttr}, c.err, c.at)
	}
}

// checkStop holds a text under some limits against where its reading stops; with api.OK it does not.
func checkStop(t *testing.T, text string, limits [3]int, e api.Errno, at int) {
	t.Helper()
	p, _ := htmltree.New(limits[0], limits[1], limits[2])
	p.Write([]byte(text))
	err := p.Close()
	if e == api.OK {
		if n, same := p.Stop(); err != nil || n != len(text) || same != nil || p.Text() == "" {
			t.Errorf("P25: %q with %d: %v, and Stop = %d, %v", text, limits, err, n, same)
		}
		return
	}
	said, ok := err.(*api.Stop)
	if !ok || *said != (api.Stop{Err: e, At: at}) {
		t.Errorf("P25: %q with %d: %v, want %v at %d", text, limits, err, e, at)
	}
	if n, same := p.Stop(); n != at || same != err {
		t.Errorf("P4: Stop of %q = %d, %v", text, n, same)
	}
	tellsNothing(t, p)
}

// attrStop is a text, the limit of attributes, and where the reading stops with ErrAttr; -1: it does not.
type attrStop struct {
	text  string
	attrs int
	at    int
}

func checkAttrStops(t *testing.T, l []attrStop) {
	t.Helper()
	for _, c := range l {
		e := api.ErrAttr
		if c.at < 0 {
			e = api.OK
		}
		checkStop(t, c.text, [3]int{api.MaxDepth, api.MaxForm, c.attrs}, e, c.at)
	}
}

func TestP25Attributes(t *testing.T) {
	checkAttrStops(t, []attrStop{
		{"<p a>x", 1, -1},
		{"<p a b>x", 1, 0},
		{"<p a b>x", 2, -1},
		{"<p a><p a b>", 1, 5},
		{"\r\n<p a\r\nb\r\nc>", 2, 2},
		{"x</p a b>", 1, 1},
		{"x</p a>", 1, -1},
		{"<p" + many(16) + ">", 16, -1},
		{"<p" + many(17) + ">", 16, 0},
		{"ab</p" + many(17) + ">", 16, 2},
		{"<p a=1 b=2 c=3>", 2, 0},
		{"<p a='b c d' e=\"f g\">", 2, -1},
		{"<p =a=b c>", 1, 0},
		{"<p a = b>", 1, -1},
	})
}

// An attribute of a name that the tag has is not counted, however it is written.
func TestP25AttributesThatAreNotNew(t *testing.T) {
	checkAttrStops(t, []attrStop{
		{"<p a a a>x", 1, -1},
		{"<p a A a=1>x", 1, -1},
		{"<p \x00 \uFFFD>x", 1, -1},
		{"<p a a b>x", 1, 0},
		{"<p" + many(16) + many(16) + ">", 16, -1},
		{"</p a a b a c>", 2, 0},
	})
}

// A tag that is lost has the limit too, but for a name that the text's end ends.
func TestP25AttributesOfLostTags(t *testing.T) {
	checkAttrStops(t, []attrStop{
		{"<p a b", 1, -1},
		{"<p a bc", 1, -1},
		{"</p a b", 1, -1},
		{"<p a b ", 1, 0},
		{"<p a b\r", 1, 0},
		{"<p a b/", 1, 0},
		{"<p a b=", 1, 0},
		{"xy</p a b='", 1, 2},
		{"<p" + many(17), 16, -1},
		{"ab</p" + many(17) + " ", 16, 2},
	})
}

// It does not count what becomes of the tag; what is no tag has no attributes.
func TestP25AttributesOfTagsThatTellNothing(t *testing.T) {
	checkAttrStops(t, []attrStop{
		{"<tr a b>x", 1, 0},
		{"<select><p a b>", 1, 8},
		{"<table></td a b>", 1, 7},
		{"<style></style a b>", 1, 7},
		{"<title><p a b></title>", 1, -1},
		{"<!p a b><?p a b><!--<p a b>--></ p a b>", 1, -1},
		{"<!doctype a b c>", 1, -1},
	})
}

func TestP25AttributesThatAreGiven(t *testing.T) {
	checkAttrStops(t, []attrStop{
		{"<html a b><html a b><html b a>", 2, -1},
		{"<html a><html b><html c>", 2, 16},
		{"<html a><html b c>", 2, 8},
		{"<html a>x<html b>", 1, 9},
		{"<html a b><p><html a b><html a c>", 2, 23},
		{"<body a><body b><body a>", 2, -1},
		{"<body a><body b><body c>", 2, 16},
		{"x<body a b></body><body c>", 2, 18},
		{"<html a b></html><html c>", 2, 17},
		{"<html a><body b><html a><body b>", 1, -1},
		{"<html" + many(16) + "><html" + many(16) + ">", 16, -1},
		{"<html" + many(16) + "><html z>", 16, 38},
		{"<p a b><p c d>", 2, -1},
	})
}

func TestP25Depth(t *testing.T) {
	checkStops(t, []stop{
		{"", 4, 1, api.OK, 0},
		{"<p><span>x", 4, 32, api.OK, 0},
		{"<p><span>x<em>y", 4, 32, api.ErrDepth, 10},
		{"<p><span><br>", 4, 32, api.ErrDepth, 9},
		{"<p><span><br>", 5, 32, api.OK, 0},
		{"<p><span></br>", 4, 32, api.ErrDepth, 9},
		{"<span><em></p>", 4, 32, api.ErrDepth, 10},
		{"<span><em></p>", 5, 32, api.OK, 0},
		{"<p><p><p><p><p>", 4, 32, api.OK, 0},
		{"<div><div><div>", 4, 32, api.ErrDepth, 10},
		{"\r\n<p><span><textarea>x", 4, 32, api.ErrDepth, 11},
		{"</head><title>x</title><meta>", 4, 32, api.OK, 0},
		{"x<div><span><style>y", 4, 32, api.ErrDepth, 12},
		{"x" + strings.Repeat("<q>", 62), 64, 32, api.OK, 0},
		{"x" + strings.Repeat("<q>", 63), 64, 32, api.ErrDepth, 1 + 62*3},
		{strings.Repeat("<q>", 300), 64, 32, api.ErrDepth, 62 * 3},
	})
}

func TestP25ActiveElements(t *testing.T) {
	checkStops(t, []stop{
		{"<b>x<i>y", 64, 1, api.ErrForm, 4},
		{"<b>x</b><i>y", 64, 1, api.OK, 0},
		{"<b>x<i>y<a>z<nobr>", 64, 4, api.OK, 0},
		{"<b>x<i>y<a>z<nobr>", 64, 3, api.ErrForm, 12},
		{"<b>x<i>y<a>z<nobr>", 64, 2, api.ErrForm, 8},
		{"<b><b><b><b><b>x", 64, 3, api.OK, 0},
		{"<b><b><b><b><b>x", 64, 2, api.ErrForm, 6},
		{"<b><b><b><b c>x", 64, 3, api.ErrForm, 9},
		{"<p><b>x<p>y<p>z", 64, 1, api.OK, 0},
		{"<p>" + strings.Repeat("<b><i>", 3) + "<b><i><a>", 64, 6, api.ErrForm, 27},
		{"<a>x<a>y<a>z", 64, 1, api.OK, 0},
		{"<nobr>x<nobr>y<nobr>z", 64, 1, api.OK, 0},
		{"<b><i><nobr><a><div>x</b>y</a></nobr><b>z", 64, 4, api.OK, 0},
	})
}

func TestP25Markers(t *testing.T) {
	checkStops(t, []stop{
		{"<object>x</object><object>y</object>", 64, 1, api.OK, 0},
		{"<object>x<object>", 64, 1, api.ErrForm, 9},
		{"<b><object>", 64, 1, api.ErrForm, 3},
		{"<object><b>", 64, 1, api.ErrForm, 8},
		{"<table><td>x<td>y<tr><th>z", 64, 1, api.OK, 0},
		{"<table><td><b>", 64, 1, api.ErrForm, 11},
		{"<table><td><table><td>", 64, 1, api.ErrForm, 18},
		{"<table><td><table><th>", 64, 2, api.OK, 0},
		{"<table><caption>x<caption>y<td>z", 64, 1, api.OK, 0},
		{"<table><caption><b>", 64, 1, api.ErrForm, 16},
		{"<table><caption><table><caption>", 64, 1, api.ErrForm, 23},
	})
}

// Of two limits the first that is met is told.
func TestP25TheFirst(t *testing.T) {
	checkStops(t, []stop{
		{"<b><i><a>", 4, 2, api.ErrDepth, 6},
		{"<b><i><a>", 5, 2, api.ErrForm, 6},
		{"<b><i><object>", 4, 2, api.ErrDepth, 6},
		{"<b><i><object>", 5, 2, api.ErrForm, 6},
		{"<b><table><caption>", 4, 1, api.ErrForm, 10},
		{"<b><table><caption>", 4, 2, api.ErrDepth, 10},
		{"<b><table><td>", 6, 1, api.ErrDepth, 10},
		{"<b><table><td>", 7, 1, api.ErrForm, 10},
		{"<b><table><td>", 7, 2, api.OK, 0},
	})
}

// A tag is read ahead of its being taken.
func TestP25AttributesFirst(t *testing.T) {
	for _, c := range []struct {
		text  string
		depth int
		err   api.Errno
		at    int
	}{
		{"<div><div><div a b>", 4, api.ErrAttr, 10},
		{"<div><div><div><p a b>", 4, api.ErrDepth, 10},
		{"<b a b><i>", 4, api.ErrAttr, 0},
		{"<b><i a b>", 4, api.ErrAttr, 3},
		{"<b><i><a b c>", 4, api.ErrForm, 3},
		{"<table><b><tr>x<td a b>", 5, api.ErrAttr, 15},
	} {
		checkStop(t, c.text, [3]int{c.depth, 1, 1}, c.err, c.at)
	}
}

func TestP25DepthOfTables(t *testing.T) {
	checkStops(t, []stop{
		{"<table><td>x", 4, 32, api.ErrDepth, 7},
		{"<table><td>x", 5, 32, api.ErrDepth, 7},
		{"<table><td>x", 6, 32, api.OK, 0},
		{"<table><tr>x", 5, 32, api.OK, 0},
		{"<table><tr>x", 4, 32, api.ErrDepth, 7},
		{"<table><col>", 5, 32, api.OK, 0},
		{"<table><col>", 4, 32, api.ErrDepth, 7},
		{"<div><table><caption>", 4, 32, api.ErrDepth, 12},
		{"<div><table><tbody>", 4, 32, api.ErrDepth, 12},
		{"<div><table><colgroup>", 4, 32, api.ErrDepth, 12},
		{"<table><form><input type=hidden>", 4, 32, api.OK, 0},
		{"<div><table><form>", 4, 32, api.ErrDepth, 12},
		{"<div><table>x<input type=hidden>", 4, 32, api.ErrDepth, 13},
		{"<div><table>x<br>", 4, 32, api.ErrDepth, 13},
		{"<div><table>x</br>", 4, 32, api.ErrDepth, 13},
		{"<table><span>x<tbody><span>y</table><div><div>", 5, 32, api.OK, 0},
	})
}

func TestP25DepthOfSelects(t *testing.T) {
	checkStops(t, []stop{
		{"<select><option><option><optgroup><hr><hr>", 4, 32, api.OK, 0},
		{"<select><optgroup><option>", 4, 32, api.ErrDepth, 18},
		{"<div><select><option>", 4, 32, api.ErrDepth, 13},
		{"<div><select><optgroup>", 4, 32, api.ErrDepth, 13},
		{"<div><select><hr>", 4, 32, api.ErrDepth, 13},
		{"<div><select><input>", 4, 32, api.OK, 0},
	})
}

func TestP25DepthOfFormattingElements(t *testing.T) {
	checkStops(t, []stop{
		{"<p><b><i>x</p>yz", 5, 32, api.OK, 0},
		{"<p><b><i>x</p><div>y", 5, 32, api.OK, 0},
		{"<p><b><i>x</p><div><div>yz", 5, 32, api.ErrDepth, 24},
		{"<p><b><i>x</p><div><div><!--y--> ", 5, 32, api.ErrDepth, 32},
		{"<p><b><i>x</p><div><div><br>", 6, 32, api.ErrDepth, 24},
		{"<p><b><i>x</p><div><div></br>", 6, 32, api.ErrDepth, 24},
		{"<b><p>x</b>y", 4, 1, api.OK, 0},
		{"<b><i><p>x</b>y", 5, 2, api.OK, 0},
		{"<b><i><p>x</b>y</p><div><a>", 5, 2, api.OK, 0},
		{"<p><nobr>x</p><nobr>y", 4, 1, api.OK, 0},
		{"<div><nobr>x<nobr>y", 4, 1, api.OK, 0},
		{"<div><a>x<a>y", 4, 1, api.OK, 0},
		{"<div><b>x<b>y", 4, 2, api.ErrDepth, 9},
	})
}

// A formatting element that ends where another begins is not open beside it.
func TestP25EndedAheadOfTheLimit(t *testing.T) {
	deep := strings.Repeat("<r>", 61)
	checkStops(t, []stop{
		{deep + "<nobr><nobr>", 64, 32, api.OK, 0},
		{deep + "<nobr><nobr><nobr>", 64, 32, api.OK, 0},
		{deep + "<a><a>", 64, 32, api.OK, 0},
		{deep + "<b></b><b>", 64, 32, api.OK, 0},
		{deep + "<b><b>", 64, 32, api.ErrDepth, 186},
		{deep + "<r><nobr>", 64, 32, api.ErrDepth, 186},
		{deep + "<nobr><r>", 64, 32, api.ErrDepth, 189},
		{deep[3:] + "<nobr><div><nobr>", 64, 32, api.OK, 0},
		{deep[3:] + "<a><object><a>", 64, 32, api.ErrDepth, 191},
	})
}

// Characters of a table wait for the token behind them: this one is at work then.
func TestP25TableText(t *testing.T) {
	checkStops(t, []stop{
		{"<table><b><tr>xyz", 5, 32, api.ErrDepth, 17},
		{"<table><b><tr>xyz<td>", 5, 32, api.ErrDepth, 17},
		{"<table><b><tr>\r\nx</>y<!--z-->", 5, 32, api.ErrDepth, 21},
		{"<table><b><tr>xyz", 6, 32, api.OK, 0},
		{"<table><b><tr> \n", 5, 32, api.OK, 0},
		{"<table><b><tr>\x00", 5, 32, api.OK, 0},
	})
}
