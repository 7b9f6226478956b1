package htmltree_test

import (
	"slices"
	"strings"
	"testing"

	"htmltree/api"
	"htmltree/htmltree"
)

// tree is a text, and what Text says of it.
type tree struct{ text, want string }

// checkTrees holds texts against their trees.
func checkTrees(t *testing.T, promise string, l []tree) {
	t.Helper()
	for _, c := range l {
		if got := closed(t, c.text).Text(); got != c.want {
			t.Errorf("%s: %q is\n%q, want\n%q", promise, c.text, got, c.want)
		}
	}
}

// checkBodies holds texts against what their body holds; html has nothing else, and the head nothing.
func checkBodies(t *testing.T, promise string, l []tree) {
	t.Helper()
	for i, c := range l {
		l[i].want = "<html><head></head><body>" + c.want + "</body></html>"
	}
	checkTrees(t, promise, l)
}

func TestP10Texts(t *testing.T) {
	checkTrees(t, "P10", []tree{
		{"<title>a&lt;<b>&#65;</title>b", "<html><head><title>a&lt;&lt;b&gt;A</title></head><body>b</body></html>"},
		{"<style>a&lt;<b></style>b&lt;", "<html><head><style>a&lt;<b></style></head><body>b&lt;</body></html>"},
		{"<title>a</style></title><style>b</title></style>", "<html><head><title>a&lt;/style&gt;</title><style>b</title></style></head><body></body></html>"},
		{"<TITLE>a</tItLe\n>b", "<html><head><title>a</title></head><body>b</body></html>"},
		{"<title>a</title", "<html><head><title>a&lt;/title</title></head><body></body></html>"},
		{"<title>a</title ", "<html><head><title>a</title></head><body></body></html>"},
		{"<title>a</titles>", "<html><head><title>a&lt;/titles&gt;</title></head><body></body></html>"},
		{"<title/>a", "<html><head><title>a</title></head><body></body></html>"},
		{"<title>\x00</title>\x00", "<html><head><title>\uFFFD</title></head><body></body></html>"},
		{"<style>\x00</style>", "<html><head><style>\uFFFD</style></head><body></body></html>"},
		{"<title><!--</title>-->", "<html><head><title>&lt;!--</title></head><body>--&gt;</body></html>"},
	})
	checkBodies(t, "P10", []tree{
		{"<textarea>a<p>&lt;\x00</TEXTAREA/>b<p>", "<textarea>a&lt;p&gt;&lt;\uFFFD</textarea>b<p></p>"},
		{"x<title>a<b></title><p>", "x<title>a&lt;b&gt;</title><p></p>"},
		{"x<style>a<b></style><p>", "x<style>a<b></style><p></p>"},
	})
}

// What is not inserted is not read as text.
func TestP10TrailOfTexts(t *testing.T) {
	for _, c := range []struct {
		text string
		want []api.Span
	}{
		{"<title><p></title><p>", []api.Span{{Kind: api.Start, From: 0, To: 7}, {Kind: api.Chars, From: 7, To: 10}, {Kind: api.End, From: 10, To: 18}, {Kind: api.Start, From: 18, To: 21}}},
		{"<style>&lt;</style ", []api.Span{{Kind: api.Start, From: 0, To: 7}, {Kind: api.Chars, From: 7, To: 11}, {Kind: api.Lost, From: 11, To: 19}}},
		{"<textarea>\r\n<!--", []api.Span{{Kind: api.Start, From: 0, To: 10}, {Kind: api.Chars, From: 10, To: 16}}},
		{"</title><p>", []api.Span{{Kind: api.End, From: 0, To: 8}, {Kind: api.Start, From: 8, To: 11}}},
	} {
		if l := closed(t, c.text).Trail(); !slices.Equal(l, c.want) {
			t.Errorf("P10, P26: Trail of %q = %v, want %v", c.text, l, c.want)
		}
	}
}

func TestP11Texts(t *testing.T) {
	p := closed(t, "a&amp;b<!--c-->d<br>e\x00f<!doctype g>h</>i</x>j<p>k</p>l")
	var got []string
	for x := range p.Items() {
		if x.Kind == api.Text {
			got = append(got, x.S)
		}
	}
	want := []string{"a&b", "d", "efhij", "k", "l"}
	if !slices.Equal(got, want) {
		t.Errorf("P11: texts are %q, want %q", got, want)
	}
}

func TestP11Scopes(t *testing.T) {
	checkBodies(t, "P11", []tree{
		{"<div><span></div>x", "<div><span></span></div>x"},
		{"<div><object></div>x", "<div><object>x</object></div>"},
		{"<p><object></p>x", "<p><object><p></p>x</object></p>"},
		{"<p><button></p>x", "<p><button><p></p>x</button></p>"},
		{"<p><button><div>x", "<p><button><div>x</div></button></p>"},
		{"<p><ul></p>x", "<p></p><ul><p></p>x</ul>"},
		{"<div><button></div>x", "<div><button></button></div>x"},
		{"<div><ul></div>x", "<div><ul></ul></div>x"},
		{"<li><ul></li>x", "<li><ul>x</ul></li>"},
		{"<li><dl></li>x", "<li><dl></dl></li>x"},
		{"<li><button></li>x", "<li><button></button></li>x"},
		{"<li><object></li>x", "<li><object>x</object></li>"},
		{"<button><object><button>x", "<button><object><button>x</button></object></button>"},
		{"<object></object>x</object>", "<object></object>x"},
		{"<h1><object></h2>x", "<h1><object>x</object></h1>"},
		{"<dd><object></dd>x", "<dd><object>x</object></dd>"},
	})
}

func TestP11ImpliedEnds(t *testing.T) {
	checkBodies(t, "P11", []tree{
		{"<div><p>a</div>b", "<div><p>a</p></div>b"},
		{"<div><dl><dd><ul><li><optgroup><option><p>a</div>b", "<div><dl><dd><ul><li><optgroup><option><p>a</p></option></optgroup></li></ul></dd></dl></div>b"},
		{"<form><dd><option>a</form>b", "<form><dd><option>a</option></dd></form>b"},
		{"<form><dt><optgroup><li><p>a</form>b", "<form><dt><optgroup><li><p>a</p></li></optgroup></dt></form>b"},
		{"<form><span>a</form>b", "<form><span>ab</span></form>"},
		{"<form><li><span><p>a</form>b", "<form><li><span><p>a</p>b</span></li></form>"},
	})
}

func TestP12Initial(t *testing.T) {
	checkTrees(t, "P12", []tree{
		{" \n\t\f\r<!--a--> <!doctype  HTML ><!--b-->", "<!--a--><!DOCTYPE html><!--b--><html><head></head><body></body></html>"},
		{"<!doctype a><!doctype b>", "<!DOCTYPE a><html><head></head><body></body></html>"},
		{"<!doctype>", "<!DOCTYPE ><html><head></head><body></body></html>"},
		{"&#32;&Tab;x", "<html><head></head><body>x</body></html>"},
		{"&#13;x", "<html><head></head><body>\rx</body></html>"},
		{"\x00", "<html><head></head><body></body></html>"},
		{"\x00 x", "<html><head></head><body> x</body></html>"},
		{"x<!doctype html>", "<html><head></head><body>x</body></html>"},
		{"</>", "<html><head></head><body></body></html>"},
		{"<p", "<html><head></head><body></body></html>"},
		{"", "<html><head></head><body></body></html>"},
	})
}

// Quirks are seen where a table comes within a p.
func TestP12Quirks(t *testing.T) {
	const closes, holds = "<p></p><table></table></body></html>", "<p><table></table></p></body></html>"
	for _, c := range []struct{ text, want string }{
		{"<!doctype html>", closes},
		{"<!DOCTYPE HTML >", closes},
		{" <!--a--><!doctype html>", closes},
		{"<!doctype html><!doctype x>", closes},
		{"", holds},
		{"<!--a-->", holds},
		{"<!doctype>", holds},
		{"<!doctype x>", holds},
		{"<!doctype html x>", holds},
		{"<!doctype htm>", holds},
		{"<html><!doctype html>", holds},
		{"</x><!doctype html>", holds},
	} {
		if got := closed(t, c.text+"<p><table>").Text(); !strings.HasSuffix(got, "<body>"+c.want) {
			t.Errorf("P12, P14: a table in a p behind %q: %q", c.text, got)
		}
	}
}

func TestP12BeforeHTML(t *testing.T) {
	checkTrees(t, "P12", []tree{
		{"<!doctype html> <!--a-->\n<!doctype x></p></x><!--b--><html a=1><!--c-->", "<!DOCTYPE html><!--a--><!--b--><html a=\"1\"><!--c--><head></head><body></body></html>"},
		{"<!doctype html></head><!--a-->", "<!DOCTYPE html><html><head></head><!--a--><body></body></html>"},
		{"<!doctype html></body><!--a-->", "<!DOCTYPE html><html><head></head><body></body><!--a--></html>"},
		{"<!doctype html></html><!--a-->", "<!DOCTYPE html><html><head></head><body></body></html><!--a-->"},
		{"<!doctype html></br><!--a-->", "<!DOCTYPE html><html><head></head><body><br><!--a--></body></html>"},
		{"<!doctype html></div><!--a-->", "<!DOCTYPE html><!--a--><html><head></head><body></body></html>"},
		{"</p><!--a-->", "<!--a--><html><head></head><body></body></html>"},
		{"</html><!--a-->", "<html><head></head><body></body></html><!--a-->"},
	})
}

func TestP12BeforeHead(t *testing.T) {
	checkTrees(t, "P12", []tree{
		{"<html> <!--a-->\n<!doctype x></p></x><!--b--><html a><head b><!--c-->", "<html a=\"\"><!--a--><!--b--><head b=\"\"><!--c--></head><body></body></html>"},
		{"<html></head><!--a-->", "<html><head></head><!--a--><body></body></html>"},
		{"<html></body><!--a-->", "<html><head></head><body></body><!--a--></html>"},
		{"<html></html><!--a-->", "<html><head></head><body></body></html><!--a-->"},
		{"<html></br>", "<html><head></head><body><br></body></html>"},
		{"<html></title><!--a-->", "<html><!--a--><head></head><body></body></html>"},
		{"<html><body a>", "<html><head></head><body a=\"\"></body></html>"},
		{"<html>\x00 ", "<html><head></head><body> </body></html>"},
		{"<head a>", "<html><head a=\"\"></head><body></body></html>"},
	})
}

func TestP12InHead(t *testing.T) {
	checkTrees(t, "P12", []tree{
		{"<head> <!--a-->\n<!doctype x><head b></p></x><html c><meta d> <title>e</title><style>f</style>\t</head>", "<html c=\"\"><head> <!--a-->\n<meta d=\"\"> <title>e</title><style>f</style>\t</head><body></body></html>"},
		{"<head></body><!--a-->", "<html><head></head><body></body><!--a--></html>"},
		{"<head></html><!--a-->", "<html><head></head><body></body></html><!--a-->"},
		{"<head></br><!--a-->", "<html><head></head><body><br><!--a--></body></html>"},
		{"<head></div><!--a-->", "<html><head><!--a--></head><body></body></html>"},
		{"<head> x ", "<html><head> </head><body>x </body></html>"},
		{"<head>\x00 ", "<html><head></head><body> </body></html>"},
		{"<meta>\x00 <meta>", "<html><head><meta></head><body> <meta></body></html>"},
		{"<meta><p><meta>", "<html><head><meta></head><body><p><meta></p></body></html>"},
		{"<head><body a>", "<html><head></head><body a=\"\"></body></html>"},
		{"<title></title><textarea>", "<html><head><title></title></head><body><textarea></textarea></body></html>"},
	})
}

func TestP12AfterHead(t *testing.T) {
	checkTrees(t, "P12", []tree{
		{"</head> <!--a-->\n<!doctype x><head b></p></x></head><html c><!--d--><body e>", "<html c=\"\"><head></head> <!--a-->\n<!--d--><body e=\"\"></body></html>"},
		{"</head> <meta><!--a--><title>b</title><style>c</style> x", "<html><head><meta><title>b</title><style>c</style></head> <!--a--> <body>x</body></html>"},
		{"<head><meta a></head><meta b></head><p>", "<html><head><meta a=\"\"><meta b=\"\"></head><body><p></p></body></html>"},
		{"</head><title>a", "<html><head><title>a</title></head><body></body></html>"},
		{"</head><style>a</style><!--b-->", "<html><head><style>a</style></head><!--b--><body></body></html>"},
		{"</head></body><!--a-->", "<html><head></head><body></body><!--a--></html>"},
		{"</head></html><!--a-->", "<html><head></head><body></body></html><!--a-->"},
		{"</head></br>", "<html><head></head><body><br></body></html>"},
		{"</head></title><!--a-->", "<html><head></head><!--a--><body></body></html>"},
		{"</head>\x00 ", "<html><head></head><body> </body></html>"},
		{"</head><textarea>", "<html><head></head><body><textarea></textarea></body></html>"},
	})
}

func TestP12BodyByItsTag(t *testing.T) {
	checkTrees(t, "P12", []tree{
		{"<body a></body><!--b-->", "<html><head></head><body a=\"\"></body><!--b--></html>"},
		{"<body a><td>b<caption>c", "<html><head></head><body a=\"\">bc</body></html>"},
		{"<body a><select>b<td>c", "<html><head></head><body a=\"\"><select>bc</select></body></html>"},
	})
}

func TestP13LineFeeds(t *testing.T) {
	checkBodies(t, "P13", []tree{
		{"<pre>\nx", "<pre>x</pre>"},
		{"<pre>\n\nx", "<pre>\nx</pre>"},
		{"<pre>\rx", "<pre>x</pre>"},
		{"<pre>\r\n\r\nx", "<pre>\nx</pre>"},
		{"<pre>&#10;x", "<pre>x</pre>"},
		{"<pre>&NewLine;\n", "<pre>\n</pre>"},
		{"<pre>&#13;x", "<pre>\rx</pre>"},
		{"<pre>x\n", "<pre>x\n</pre>"},
		{"<pre> \n", "<pre> \n</pre>"},
		{"<pre>\x00\n", "<pre>\n</pre>"},
		{"<pre></x>\n", "<pre>\n</pre>"},
		{"<pre><!doctype x>\n", "<pre>\n</pre>"},
		{"<pre><!---->\n", "<pre><!---->\n</pre>"},
		{"<pre></>\n", "<pre></pre>"},
		{"<pre></></></>\n\n", "<pre>\n</pre>"},
		{"<pre></pre>\n", "<pre></pre>\n"},
		{"<pre><pre>\n", "<pre><pre></pre></pre>"},
		{"<p>\n<div>\n", "<p>\n</p><div>\n</div>"},
		{"<textarea>\nx", "<textarea>x</textarea>"},
		{"<textarea>\n\nx", "<textarea>\nx</textarea>"},
		{"<textarea>&#xa;x", "<textarea>x</textarea>"},
		{"<textarea></>\n", "<textarea>&lt;/&gt;\n</textarea>"},
		{"<textarea></textarea>\n", "<textarea></textarea>\n"},
		{"x<style>\n</style><title>\n</title>", "x<style>\n</style><title>\n</title>"},
	})
}

func TestP13TextEnds(t *testing.T) {
	checkBodies(t, "P13", []tree{
		{"<p><textarea>a</textarea>b", "<p><textarea>a</textarea>b</p>"},
		{"<p><textarea>a", "<p><textarea>a</textarea></p>"},
		{"<p><title>a</title>b</p>c", "<p><title>a</title>b</p>c"},
		{"<p><style>a</style ><li>c", "<p><style>a</style></p><li>c</li>"},
		{"<textarea> \n</textarea><textarea>x</textarea>", "<textarea> \n</textarea><textarea>x</textarea>"},
	})
	checkTrees(t, "P13", []tree{
		{"<style>a", "<html><head><style>a</style></head><body></body></html>"},
		{"<title> </title> <!--a-->", "<html><head><title> </title> <!--a--></head><body></body></html>"},
		{"</head><title> </title> <!--a-->", "<html><head><title> </title></head> <!--a--><body></body></html>"},
	})
}

func TestP14Nothing(t *testing.T) {
	checkBodies(t, "P14", []tree{
		{"<p>a<head b>c", "<p>ac</p>"},
		{"<p>a<caption>b<col>c<colgroup>d<tbody>e<td>f<tfoot>g<th>h<thead>i<tr>j", "<p>abcdefghij</p>"},
		{"<td>a<tr>b", "ab"},
		{"<p>a<!doctype html>b", "<p>ab</p>"},
		{"<p>a\x00b\x00", "<p>ab</p>"},
		{"<p>a<!--\x00-->", "<p>a<!--\uFFFD--></p>"},
	})
}

func TestP14HTMLAndBody(t *testing.T) {
	checkTrees(t, "P14", []tree{
		{"<p><html a=1><html a=2 b=3 c=4>x", "<html a=\"1\" b=\"3\" c=\"4\"><head></head><body><p>x</p></body></html>"},
		{"<body b=1 a=2><body a=3 c=4 b=5 d>x", "<html><head></head><body b=\"1\" a=\"2\" c=\"4\" d=\"\">x</body></html>"},
		{"<p><div><body a><html b>x", "<html b=\"\"><head></head><body a=\"\"><p></p><div>x</div></body></html>"},
		{"<html a><head><html b></head><html c>", "<html a=\"\" b=\"\" c=\"\"><head></head><body></body></html>"},
	})
}

func TestP14Blocks(t *testing.T) {
	checkBodies(t, "P14", []tree{
		{"<p>a<p>b", "<p>a</p><p>b</p>"},
		{"<p>a<div>b", "<p>a</p><div>b</div>"},
		{"<p>a<ul>b", "<p>a</p><ul>b</ul>"},
		{"<p>a<dl>b", "<p>a</p><dl>b</dl>"},
		{"<p>a<pre>b", "<p>a</p><pre>b</pre>"},
		{"<p>a<h1>b", "<p>a</p><h1>b</h1>"},
		{"<p>a<form>b", "<p>a</p><form>b</form>"},
		{"<p>a<hr>b", "<p>a</p><hr>b"},
		{"<p>a<li>b", "<p>a</p><li>b</li>"},
		{"<p>a<dd>b<p>c<dt>d", "<p>a</p><dd>b<p>c</p></dd><dt>d</dt>"},
		{"<p><span>a<div>b", "<p><span>a</span></p><div>b</div>"},
		{"<p><option><li>b", "<p><option></option></p><li>b</li>"},
		{"<p>a<span>b<x-y c=d>", "<p>a<span>b<x-y c=\"d\"></x-y></span></p>"},
		{"<div>a<div>b", "<div>a<div>b</div></div>"},
	})
}

func TestP14Headings(t *testing.T) {
	checkBodies(t, "P14", []tree{
		{"<h1>a<h1>b<h2>c", "<h1>a</h1><h1>b</h1><h2>c</h2>"},
		{"<h1><p>a<h2>b", "<h1><p>a</p></h1><h2>b</h2>"},
		{"<h1><span>a<h2>b", "<h1><span>a<h2>b</h2></span></h1>"},
		{"<h1>a<h3>b", "<h1>a<h3>b</h3></h1>"},
	})
}

func TestP14Forms(t *testing.T) {
	checkBodies(t, "P14", []tree{
		{"<form a><form b>x</form>y", "<form a=\"\">x</form>y"},
		{"<form><div><p>a<form>b", "<form><div><p>ab</p></div></form>"},
		{"<form></form><form a>b", "<form></form><form a=\"\">b</form>"},
		{"<div><form></div><form>a", "<div><form></form></div>a"},
	})
}

func TestP14Items(t *testing.T) {
	checkBodies(t, "P14", []tree{
		{"<li>a<li>b", "<li>a</li><li>b</li>"},
		{"<li><p>a<li>b", "<li><p>a</p></li><li>b</li>"},
		{"<li><div>a<li>b", "<li><div>a</div></li><li>b</li>"},
		{"<li><span>a<li>b", "<li><span>a</span></li><li>b</li>"},
		{"<li><ul>a<li>b", "<li><ul>a<li>b</li></ul></li>"},
		{"<li><button>a<li>b", "<li><button>a<li>b</li></button></li>"},
		{"<li><form>a<li>b", "<li><form>a<li>b</li></form></li>"},
		{"<li><dd>a<li>b", "<li><dd>a<li>b</li></dd></li>"},
		{"<li><p><option>a<li>b", "<li><p><option>a</option></p></li><li>b</li>"},
		{"<dd>a<dt>b<dd>c<dd>d", "<dd>a</dd><dt>b</dt><dd>c</dd><dd>d</dd>"},
		{"<dt><div><p>a<dd>b", "<dt><div><p>a</p></div></dt><dd>b</dd>"},
		{"<dd><span>a<dt>b", "<dd><span>a</span></dd><dt>b</dt>"},
		{"<dd><ul>a<dt>b", "<dd><ul>a<dt>b</dt></ul></dd>"},
		{"<dd><li>a<dt>b", "<dd><li>a<dt>b</dt></li></dd>"},
		{"<dd><dl><dt>a<dd>b", "<dd><dl><dt>a</dt><dd>b</dd></dl></dd>"},
		{"<li><form><li><span></form><li>a", "<li><form><li><span></span></li></form><li>a</li></li>"},
		{"<dd><form><dt><span></form><dd>a", "<dd><form><dt><span></span></dt></form><dd>a</dd></dd>"},
		{"<p>a<div><li>b", "<p>a</p><div><li>b</li></div>"},
	})
}

func TestP14Buttons(t *testing.T) {
	checkBodies(t, "P14", []tree{
		{"<button>a<button b>c", "<button>a</button><button b=\"\">c</button>"},
		{"<button><p><span>a<button>b", "<button><p><span>a</span></p></button><button>b</button>"},
		{"<p><button>a", "<p><button>a</button></p>"},
	})
}

func TestP14Options(t *testing.T) {
	checkBodies(t, "P14", []tree{
		{"<option>a<option>b<optgroup>c<option>d<optgroup>e", "<option>a</option><option>b</option><optgroup>c<option>d</option><optgroup>e</optgroup></optgroup>"},
		{"<option><span>a<option>b", "<option><span>a<option>b</option></span></option>"},
		{"<p><option>a", "<p><option>a</option></p>"},
	})
}

func TestP14Void(t *testing.T) {
	checkBodies(t, "P14", []tree{
		{"<p>a<br b>c<img d=e>f<input>g", "<p>a<br b=\"\">c<img d=\"e\">f<input>g</p>"},
		{"<p>a<meta b>c", "<p>a<meta b=\"\">c</p>"},
		{"<p>a<hr b>c", "<p>a</p><hr b=\"\">c"},
		{"<br/>a<div/>b", "<br>a<div>b</div>"},
	})
}

func TestP15BodyAndHTML(t *testing.T) {
	checkTrees(t, "P15", []tree{
		{"<p>a</body><!--b-->", "<html><head></head><body><p>a</p></body><!--b--></html>"},
		{"<p>a</html><!--b-->", "<html><head></head><body><p>a</p></body></html><!--b-->"},
		{"<object>a</body><!--b-->", "<html><head></head><body><object>a<!--b--></object></body></html>"},
		{"<object>a</html><!--b-->", "<html><head></head><body><object>a<!--b--></object></body></html>"},
	})
}

func TestP15Blocks(t *testing.T) {
	checkBodies(t, "P15", []tree{
		{"<div>a</div>b<ul>a</ul>b<dl>a</dl>b<pre>a</pre>b<button>a</button>b", "<div>a</div>b<ul>a</ul>b<dl>a</dl>b<pre>a</pre>b<button>a</button>b"},
		{"a</div>b</ul>c</dl>d</pre>e</button>f", "abcdef"},
		{"<ul><div>a</ul>b", "<ul><div>a</div></ul>b"},
		{"<dl><div>a</dl>b", "<dl><div>a</div></dl>b"},
		{"<pre><div>a</pre>b", "<pre><div>a</div></pre>b"},
		{"<button><div>a</button>b", "<button><div>a</div></button>b"},
		{"<dt><div>a</dt>b", "<dt><div>a</div></dt>b"},
		{"<div><ul><pre><button><dl>a</div>b", "<div><ul><pre><button><dl>a</dl></button></pre></ul></div>b"},
		{"<div><li><span><p>a</div>b", "<div><li><span><p>a</p></span></li></div>b"},
		{"<dd>a<div><p>b</dd>c", "<dd>a<div><p>b</p></div></dd>c"},
		{"<dt>a</dd>b</dt>c", "<dt>ab</dt>c"},
		{"<dd><li><p>a</dd>b", "<dd><li><p>a</p></li></dd>b"},
		{"<dl><dt><dl>a</dt>b", "<dl><dt><dl>a</dl></dt>b</dl>"},
		{"<h1>a</h2>b", "<h1>a</h1>b"},
		{"<h2><div><p>a</h1>b", "<h2><div><p>a</p></div></h2>b"},
		{"a</h1>b", "ab"},
		{"<li>a</li>b</li>c", "<li>a</li>bc"},
		{"<li><dl><dd><p>a</li>b", "<li><dl><dd><p>a</p></dd></dl></li>b"},
		{"<ul>a</li>b", "<ul>ab</ul>"},
	})
}

func TestP15P(t *testing.T) {
	checkBodies(t, "P15", []tree{
		{"a</p b>c", "a<p></p>c"},
		{"<p>a</p>b</p>c", "<p>a</p>b<p></p>c"},
		{"<p><span>a</p>b", "<p><span>a</span></p>b"},
		{"<p><optgroup><option>a</p>b", "<p><optgroup><option>a</option></optgroup></p>b"},
		{"<p>a<div>b</p>c", "<p>a</p><div>b<p></p>c</div>"},
		{"<button>a</p>b", "<button>a<p></p>b</button>"},
	})
}

func TestP15Break(t *testing.T) {
	checkBodies(t, "P15", []tree{
		{"<p>a</br b=c>d", "<p>a<br>d</p>"},
		{"a</hr>b</img>c</input>d</meta>e", "abcde"},
	})
}

func TestP15Forms(t *testing.T) {
	checkBodies(t, "P15", []tree{
		{"<form><div>a</form>b</div>c", "<form><div>ab</div></form>c"},
		{"<form><p>a</form>b</p>c", "<form><p>a</p></form>b<p></p>c"},
		{"a</form>b<form>c</form>d</form>e", "ab<form>c</form>de"},
		{"<div><form>a</div></form>b<form>c", "<div><form>a</form></div>b<form>c</form>"},
		{"<form><object>a</form>b</object>c<form>d", "<form><object>ab</object>c<form>d</form></form>"},
		{"<form><div>a</form><form>b", "<form><div>a<form>b</form></div></form>"},
	})
}

func TestP15Others(t *testing.T) {
	checkBodies(t, "P15", []tree{
		{"<span>a<em>b</span>c</em>d", "<span>a<em>b</em></span>cd"},
		{"<span><div>a</span>b", "<span><div>ab</div></span>"},
		{"<span><p>a</span>b", "<span><p>ab</p></span>"},
		{"<span><span>a</span>b</span>c", "<span><span>a</span>b</span>c"},
		{"<optgroup><option>a</optgroup>b", "<optgroup><option>a</option></optgroup>b"},
		{"<option>a<span>b</option>c", "<option>a<span>b</span></option>c"},
		{"<option>a<optgroup>b</option>c", "<option>a</option><optgroup>bc</optgroup>"},
		{"<x\vy>a</x>b</x\vy>c", "<x\vy>ab</x\vy>c"},
		{"<x\u00a0y>a</x\u00a0y>b", "<x\u00a0y>a</x\u00a0y>b"},
		{"<X>a</x>b", "<x>a</x>b"},
		{"<p>a</title>b</textarea>c</head>d</select>e", "<p>abcde</p>"},
		{"<span>a</spa>b</spans>c", "<span>abc</span>"},
	})
}

func TestP16(t *testing.T) {
	checkTrees(t, "P16", []tree{
		{"<p>a</body> \n<html b></body><!--c-->", "<html b=\"\"><head></head><body><p>a \n</p></body><!--c--></html>"},
		{"<p>a</body><!--b--><!doctype c><!--d-->", "<html><head></head><body><p>a</p></body><!--b--><!--d--></html>"},
		{"<p>a</body><!--b-->c<!--d-->", "<html><head></head><body><p>ac<!--d--></p></body><!--b--></html>"},
		{"<p>a</body></p>b", "<html><head></head><body><p>a</p>b</body></html>"},
		{"<p>a</body><p>b", "<html><head></head><body><p>a</p><p>b</p></body></html>"},
		{"<p>a</body><body b>c", "<html><head></head><body b=\"\"><p>ac</p></body></html>"},
		{"<p>a</body>\x00<!--b-->", "<html><head></head><body><p>a<!--b--></p></body></html>"},
		{"<p>a</body></x><!--b-->", "<html><head></head><body><p>a<!--b--></p></body></html>"},
		{"<p>a</body></><!--b-->", "<html><head></head><body><p>a</p></body><!--b--></html>"},
		{"<p>a</html> \n<html b><!--c--><!doctype d><!--e-->", "<html b=\"\"><head></head><body><p>a \n</p></body></html><!--c--><!--e-->"},
		{"<p>a</html><!--b-->c<!--d-->", "<html><head></head><body><p>ac<!--d--></p></body></html><!--b-->"},
		{"<p>a</html></p>b", "<html><head></head><body><p>a</p>b</body></html>"},
		{"<p>a</html></html><!--b-->", "<html><head></head><body><p>a</p></body></html><!--b-->"},
		{"<p>a</html></body><!--b-->", "<html><head></head><body><p>a</p></body><!--b--></html>"},
		{"<p>a</html>\x00<!--b-->", "<html><head></head><body><p>a<!--b--></p></body></html>"},
		{"<!--a--></html><!--b-->", "<!--a--><html><head></head><body></body></html><!--b-->"},
	})
}

// shown is a text with an item of each kind, and its items.
const shownText = "<!--a--><!doctype html><p b=1 c>d<br>e<style></style>"

func shownItems() []api.Item {
	return []api.Item{
		{Kind: api.Comment, S: "a"}, {Kind: api.Doctype, S: "html"},
		{Kind: api.Enter, S: "html"}, {Kind: api.Enter, S: "head"}, {Kind: api.Leave, S: "head"}, {Kind: api.Enter, S: "body"},
		{Kind: api.Enter, S: "p"}, {Kind: api.Attr, S: "b", T: "1"}, {Kind: api.Attr, S: "c"}, {Kind: api.Text, S: "d"},
		{Kind: api.Enter, S: "br"}, {Kind: api.Leave, S: "br"}, {Kind: api.Text, S: "e"}, {Kind: api.Enter, S: "style"}, {Kind: api.Leave, S: "style"},
		{Kind: api.Leave, S: "p"}, {Kind: api.Leave, S: "body"}, {Kind: api.Leave, S: "html"},
	}
}

func TestP27List(t *testing.T) {
	p := closed(t, shownText)
	for range 2 {
		l := p.List()
		if !slices.Equal(l, shownItems()) {
			t.Errorf("P27: List = %v, want %v", l, shownItems())
		}
		clear(l)
	}
}

func TestP27Items(t *testing.T) {
	p := closed(t, shownText)
	want := shownItems()
	walk := p.Items()
	for n := 1; n <= len(want)+1; n++ {
		var l []api.Item
		for x := range walk {
			l = append(l, x)
			if len(l) == n {
				break
			}
		}
		if !slices.Equal(l, want[:min(n, len(want))]) {
			t.Errorf("P27: the first %d items are %v", n, l)
		}
	}
	inner := 0
	for x := range walk {
		if x.Kind == api.Leave {
			continue
		}
		for y := range walk {
			for range p.Items() {
				inner++
			}
			if y.Kind == api.Attr {
				break
			}
		}
	}
	if inner != (len(want)-6)*8*len(want) {
		t.Errorf("P27: walks within walks have %d items", inner)
	}
}

func TestP27NothingUntilClosed(t *testing.T) {
	p := made(t, shownText, 16)
	tellsNothing(t, p)
	p.Close()
	if len(p.List()) != len(shownItems()) || p.Text() == "" {
		t.Errorf("P4: nothing is told behind Close")
	}
	stopped := made(t, "x<p a b>", 1)
	stopped.Close()
	tellsNothing(t, stopped)
}

func TestP28Text(t *testing.T) {
	checkTrees(t, "P28", []tree{
		{shownText, "<!--a--><!DOCTYPE html><html><head></head><body><p b=\"1\" c=\"\">d<br>e<style></style></p></body></html>"},
		{"<!doctype A&b><!--&lt;<>-->", "<!DOCTYPE a&b><!--&lt;<>--><html><head></head><body></body></html>"},
		{"<style>&lt;<>\u00a0&</style><title>&lt;<>\u00a0&</title>", "<html><head><style>&lt;<>\u00a0&</style><title>&lt;&lt;&gt;&nbsp;&amp;</title></head><body></body></html>"},
	})
	checkBodies(t, "P28", []tree{
		{"&amp;&lt;>\"'\u00a0&nbsp;\xc2\xa0\xc2\xa9\xa0&amp;lt;", "&amp;&lt;&gt;\"'&nbsp;&nbsp;&nbsp;\u00a9\xa0&amp;lt;"},
		{"<p a='&amp;&lt;>\"\u00a0&nbsp;' b=\"'\" c=&amp;lt;>", "<p a=\"&amp;<>&quot;&nbsp;&nbsp;\" b=\"'\" c=\"&amp;lt;\"></p>"},
		{"<x\"&y '=z>", "<x\"&y '=\"z\"></x\"&y>"},
		{"<br><hr><img><input><meta><col>", "<br><hr><img><input><meta>"},
	})
}

// wholeTree holds items against what those of every document are: html with a head and then a body, elements that end where they began, no text that is empty.
func wholeTree(t *testing.T, text string, l []api.Item) {
	t.Helper()
	var open, below []string
	may := false // an attribute may come
	for _, x := range l {
		switch {
		case x.Kind == api.Enter:
			if len(open) == 1 {
				below = append(below, x.S)
			}
			open = append(open, x.S)
		case x.Kind == api.Attr && may:
		case x.Kind == api.Leave && len(open) > 0 && open[len(open)-1] == x.S:
			open = open[:len(open)-1]
		case x.Kind == api.Text && x.S != "" && len(open) > 0, x.Kind == api.Comment, x.Kind == api.Doctype && len(open) == 0:
		default:
			t.Fatalf("P27: items of %q: %v where %q are open", text, x, open)
		}
		may = x.Kind == api.Enter || x.Kind == api.Attr
	}
	if len(open) != 0 || !slices.Equal(below, []string{"head", "body"}) {
		t.Fatalf("P12, P27: items of %q: %v", text, l)
	}
}

func TestP1AllShortTrees(t *testing.T) {
	pieces := []string{"<html a>", "</html>", "<head>", "</head>", "<body b>", "</body>", "<title>", "</title>", "<style>", "<textarea>", "</textarea>", "<meta>",
		"<p>", "</p>", "<div>", "</div>", "<li>", "</li>", "<dd>", "<h1>", "</h2>", "<pre>", "<form>", "</form>", "<button>", "</button>", "<option>", "<br>", "</br>",
		"<span>", "</span>", "<table>", "<object>", "</object>", "\n", "x", "\x00", "<!---->", "<!doctype html>", "</>"}
	for n := range 4 {
		texts(pieces, n, func(s string) { wholeTree(t, s, closed(t, s).List()) })
	}
}

// pieces are tags of all the elements that the document names, and more.
func pieces() []string {
	l := []string{"x", " ", "\n", "\x00", "<!---->", "<!doctype html>", "</>", "<b c>", "<input type=hidden>"}
	for _, name := range strings.Fields("a b i nobr object table caption colgroup col tbody tfoot thead tr td th select option optgroup input textarea style title " +
		"html head body p div h1 ul li dl dd pre form button br hr span") {
		l = append(l, "<"+name+">", "</"+name+">")
	}
	return l
}

func TestP1AllPairsInTables(t *testing.T) {
	for _, first := range []string{"<table>", "<table><tbody>", "<table><tr>", "<table><td>", "<table><caption>", "<table><colgroup>", "<select>", "<table><select>", "<b><p>", "<p><a><i>", "<object><b>"} {
		texts(pieces(), 2, func(s string) { wholeTree(t, first+s, closed(t, first+s).List()) })
	}
}

// Long texts of pieces that stand in no order, under all limits.
func TestP1LongTrees(t *testing.T) {
	l := pieces()
	n := uint32(1)
	next := func(below int) int {
		n = n*1664525 + 1013904223
		return int(n>>8) % below
	}
	stopped := 0
	for range 4000 {
		text := ""
		for range next(150) {
			text += l[next(len(l))]
		}
		p, _ := htmltree.New(4+next(61), 1+next(32), 16)
		p.Write([]byte(text))
		if p.Close() != nil {
			stopped++
			tellsNothing(t, p)
			continue
		}
		wholeTree(t, text, p.List())
		wholeTrail(t, text, p.Trail())
	}
	if stopped == 0 || stopped == 4000 {
		t.Errorf("%d of 4000 texts passed a limit", stopped)
	}
}
