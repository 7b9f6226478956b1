package htmltree_test

import "testing"

// The table of the document's examples.
func TestExamples(t *testing.T) {
	checkBodies(t, "Examples", []tree{
		{"<p>a<p>b", "<p>a</p><p>b</p>"},
		{"<p>a<div>b</p>c", "<p>a</p><div>b<p></p>c</div>"},
		{"<ul><li><div><li>x", "<ul><li><div></div></li><li>x</li></ul>"},
		{"<form a><form b>x</form>y", `<form a="">x</form>y`},
		{"<form><div>a</form>b</div>c", "<form><div>ab</div></form>c"},
		{"<head>x", "x"},
		{"<p>a<hr>b</p>c", "<p>a</p><hr>b<p></p>c"},
		{"<b>1<i>2</b>3</i>4", "<b>1<i>2</i></b><i>3</i>4"},
		{"<b>1<p>2</b>3</p>4", "<b>1</b><p><b>2</b>3</p>4"},
		{"<a>1<div>2<a>3", "<a>1</a><div><a>2</a><a>3</a></div>"},
		{"<b><object>x</b>y</object>z", "<b><object>xy</object>z</b>"},
		{"<i><b><em><div>a</i>b", "<i><b><em></em></b></i><b><div><i>a</i>b</div></b>"},
		{"<b><i><a><em><u><div>x</b>y", "<b><i><a><em><u></u></em></a></i></b><a><div><b>x</b>y</div></a>"},
		{"</b>x", "x"},
		{"<table><tr><td>a<td>b<tr><td>c</table>d", "<table><tbody><tr><td>a</td><td>b</td></tr><tr><td>c</td></tr></tbody></table>d"},
		{"<table>x<tr>y<td>z</table>", "xy<table><tbody><tr><td>z</td></tr></tbody></table>"},
		{"<table><b>x<tr><td>y</table>z", "<b>x</b><table><tbody><tr><td>y</td></tr></tbody></table><b>z</b>"},
		{"<table><col><col><tr><td>x", "<table><colgroup><col><col></colgroup><tbody><tr><td>x</td></tr></tbody></table>"},
		{"<p><table>x", "<p>x<table></table></p>"},
		{"<table><style>a</style><td>b", "<table><style>a</style><tbody><tr><td>b</td></tr></tbody></table>"},
		{"<td>a<tr>b", "ab"},
		{"&notit;&notin;", "¬it;∉"},
	})
}
