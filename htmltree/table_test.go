package htmltree_test

import "testing"

func TestP11Fostering(t *testing.T) {
	checkBodies(t, "P11", []tree{
		{"<table>x", "x<table></table>"},
		{"<table>x<!--y-->z", "xz<table><!--y--></table>"},
		{"<table><span>x", "<span>x</span><table></table>"},
		{"<table><tr>x<p>y<li>z", "x<p>y</p><li>z</li><table><tbody><tr></tr></tbody></table>"},
		{"<table><tbody>x<tr>y<td>z", "xy<table><tbody><tr><td>z</td></tr></tbody></table>"},
		{"<table><thead>x</thead><tfoot>y", "xy<table><thead></thead><tfoot></tfoot></table>"},
		{"<div>a<table>b<br>c", "<div>ab<br>c<table></table></div>"},
		{"<p>a<table>b</table>c", "<p>ab<table></table>c</p>"},
		{"<table><td><table>x", "<table><tbody><tr><td>x<table></table></td></tr></tbody></table>"},
		{"<table><td>a</td>b<table>c", "b<table><tbody><tr><td>a</td></tr></tbody></table>c<table></table>"},
		{"<table><select>x", "<select>x</select><table></table>"},
		{"<table><div>x</div>y<div>z", "<div>x</div>y<div>z</div><table></table>"},
		{"<table><textarea>x</textarea><title>y</title><meta>", "<textarea>x</textarea><title>y</title><meta><table></table>"},
		{"<table><button>a<table>b", "<button>a</button><table></table>b<table></table>"},
		{"<table><b>a<tr>b<td>c</td>d", "<b>a</b><b>b</b><b>d</b><table><tbody><tr><td>c</td></tr></tbody></table>"},
		{"<table>a</body>b</html>c", "abc<table></table>"},
	})
}

func TestP11TableScope(t *testing.T) {
	checkBodies(t, "P11", []tree{
		{"<table><tr><td><table><tfoot><tr></tbody><td>x", "<table><tbody><tr><td><table><tfoot><tr><td>x</td></tr></tfoot></table></td></tr></tbody></table>"},
		{"<table><tbody><td><table><tfoot></tbody><tr>x", "<table><tbody><tr><td>x<table><tfoot><tr></tr></tfoot></table></td></tr></tbody></table>"},
		{"<table><tfoot><td><table><td></tfoot>x", "<table><tfoot><tr><td><table><tbody><tr><td>x</td></tr></tbody></table></td></tr></tfoot></table>"},
		{"<table><tfoot><td><table><td><select></tfoot>x", "<table><tfoot><tr><td><table><tbody><tr><td><select>x</select></td></tr></tbody></table></td></tr></tfoot></table>"},
		{"<table><caption><table><td><select></caption>x", "<table><caption><table><tbody><tr><td><select>x</select></td></tr></tbody></table></caption></table>"},
		{"<table><th><table><td></th>x", "<table><tbody><tr><th><table><tbody><tr><td>x</td></tr></tbody></table></th></tr></tbody></table>"},
		{"<table><th><table><td><select></th>x", "<table><tbody><tr><th><table><tbody><tr><td><select>x</select></td></tr></tbody></table></th></tr></tbody></table>"},
		{"<table><caption><object></caption>x", "x<table><caption><object></object></caption></table>"},
		{"<table><td><object></td>x", "x<table><tbody><tr><td><object></object></td></tr></tbody></table>"},
		{"<table><td><object><ul><button></tr>x", "x<table><tbody><tr><td><object><ul><button></button></ul></object></td></tr></tbody></table>"},
	})
}

func TestP20Characters(t *testing.T) {
	checkBodies(t, "P20", []tree{
		{"<table> \n\t\f<tr> <td> ", "<table> \n\t\f<tbody><tr> <td> </td></tr></tbody></table>"},
		{"<table> x ", " x <table></table>"},
		{"<table> <!-- --> x<td>", " x<table> <!-- --><tbody><tr><td></td></tr></tbody></table>"},
		{"<table>&#32;&Tab;<td>", "<table> \t<tbody><tr><td></td></tr></tbody></table>"},
		{"<table>&#32;x", " x<table></table>"},
		{"<table>&lt;<td>", "&lt;<table><tbody><tr><td></td></tr></tbody></table>"},
		{"<table>\x00<td>", "<table><tbody><tr><td></td></tr></tbody></table>"},
		{"<table>\x00 \x00<td>", "<table> <tbody><tr><td></td></tr></tbody></table>"},
		{"<table> <b> <td>", "<b> </b><table> <tbody><tr><td></td></tr></tbody></table>"},
		{"<table>a</table>b", "a<table></table>b"},
		{"<table><tbody> <tr> </tr> a</tbody> b", " a b<table><tbody> <tr> </tr></tbody></table>"},
		{"<table><colgroup> a", "a<table><colgroup> </colgroup></table>"},
		{"<table> </x> a", " a<table> </table>"},
		{"<table> <!doctype x>a", "a<table> </table>"},
		{"<table> </> </>a", "  a<table></table>"},
		{"<table>a", "a<table></table>"},
		{"<table> ", "<table> </table>"},
	})
}

func TestP20Starts(t *testing.T) {
	checkBodies(t, "P20", []tree{
		{"<table a=1><caption b=2>x</caption><colgroup c=3><col d=4></colgroup><tbody e=5><tr f=6><td g=7>y<th>z", "<table a=\"1\"><caption b=\"2\">x</caption><colgroup c=\"3\"><col d=\"4\"></colgroup><tbody e=\"5\"><tr f=\"6\"><td g=\"7\">y</td><th>z</th></tr></tbody></table>"},
		{"<table><caption>x<caption>y", "<table><caption>x</caption><caption>y</caption></table>"},
		{"<table><span><caption>x", "<span></span><table><caption>x</caption></table>"},
		{"<table><span><colgroup>x", "<span></span>x<table><colgroup></colgroup></table>"},
		{"<table><span><col a>x", "<span></span>x<table><colgroup><col a=\"\"></colgroup></table>"},
		{"<table><span><tbody a>x", "<span></span>x<table><tbody a=\"\"></tbody></table>"},
		{"<table><span><tfoot>x", "<span></span>x<table><tfoot></tfoot></table>"},
		{"<table><span><thead>x", "<span></span>x<table><thead></thead></table>"},
		{"<table><span><tr a>x", "<span></span>x<table><tbody><tr a=\"\"></tr></tbody></table>"},
		{"<table><span><td a>x", "<span></span><table><tbody><tr><td a=\"\">x</td></tr></tbody></table>"},
		{"<table><span><th a>x", "<span></span><table><tbody><tr><th a=\"\">x</th></tr></tbody></table>"},
		{"<table><tr a><td>x", "<table><tbody><tr a=\"\"><td>x</td></tr></tbody></table>"},
		{"<table><td>a<th>b", "<table><tbody><tr><td>a</td><th>b</th></tr></tbody></table>"},
		{"<table><col><col a=1>", "<table><colgroup><col><col a=\"1\"></colgroup></table>"},
		{"<table><table>x", "<table></table>x<table></table>"},
		{"<table a><tr><td>x<table b><tr><table c>y", "<table a=\"\"><tbody><tr><td>x<table b=\"\"><tbody><tr></tr></tbody></table>y<table c=\"\"></table></td></tr></tbody></table>"},
		{"<table><style>a<b></style>c", "c<table><style>a<b></style></table>"},
		{"<table><tr><style> </style> <td>", "<table><tbody><tr><style> </style> <td></td></tr></tbody></table>"},
		{"<table><title>a<b></title>c", "<title>a&lt;b&gt;</title>c<table></table>"},
	})
}

func TestP20HTMLAndBody(t *testing.T) {
	checkTrees(t, "P20", []tree{
		{"<table><html a><head><body b>x", "<html a=\"\"><head></head><body b=\"\">x<table></table></body></html>"},
		{"<table><tr><html a><td><body b>x", "<html a=\"\"><head></head><body b=\"\"><table><tbody><tr><td>x</td></tr></tbody></table></body></html>"},
	})
}

func TestP20FormsAndInputs(t *testing.T) {
	checkBodies(t, "P20", []tree{
		{"<table><form a><td>x", "<table><form a=\"\"></form><tbody><tr><td>x</td></tr></tbody></table>"},
		{"<table><form a><form b><tr><form c><td><form d>x</table><form e>y", "<table><form a=\"\"></form><tbody><tr><td>x</td></tr></tbody></table>y"},
		{"<form a><table><form b><td>x", "<form a=\"\"><table><tbody><tr><td>x</td></tr></tbody></table></form>"},
		{"<form a><table></form><form b><td>x", "<form a=\"\"><table><form b=\"\"></form><tbody><tr><td>x</td></tr></tbody></table></form>"},
		{"<table><form></form><form a>x", "x<table><form></form><form a=\"\"></form></table>"},
		{"<table><input type=hidden>", "<table><input type=\"hidden\"></table>"},
		{"<table><input a type=HIDDEN type=text><tr><input type=hiDDen b>", "<table><input a=\"\" type=\"HIDDEN\"><tbody><tr><input type=\"hiDDen\" b=\"\"></tr></tbody></table>"},
		{"<table><input type=text><input><input type='hidden '><input a=hidden>", "<input type=\"text\"><input><input type=\"hidden \"><input a=\"hidden\"><table></table>"},
		{"<table><tr><input type=text type=hidden>", "<input type=\"text\"><table><tbody><tr></tr></tbody></table>"},
		{"<p><b>x</p><table><input type=hidden><input>", "<p><b>x</b></p><b><input></b><table><input type=\"hidden\"></table>"},
		{"<table><span><input type=hidden>x", "<span><input type=\"hidden\">x</span><table></table>"},
	})
}

func TestP20Ends(t *testing.T) {
	checkBodies(t, "P20", []tree{
		{"<table></table>x", "<table></table>x"},
		{"<table><tr><td>x</table>y", "<table><tbody><tr><td>x</td></tr></tbody></table>y"},
		{"<table><span>x</table>y", "<span>x</span><table></table>y"},
		{"<table>x</body></caption></col></colgroup></html></tbody></td></tfoot></th></thead></tr>y", "xy<table></table>"},
		{"<table><div>x</div>y</p>z", "<div>x</div>y<p></p>z<table></table>"},
		{"<table></table></table>x", "<table></table>x"},
		{"<div><table></div>x", "<div>x<table></table></div>"},
		{"<table><td><div></table>x", "<table><tbody><tr><td><div></div></td></tr></tbody></table>x"},
		{"</table>x", "x"},
		{"<object><table><td></table>x</object>y", "<object><table><tbody><tr><td></td></tr></tbody></table>x</object>y"},
		{"<table><b></table>x", "<b></b><table></table><b>x</b>"},
		{"<table></br>", "<br><table></table>"},
	})
}

func TestP21Captions(t *testing.T) {
	checkBodies(t, "P21", []tree{
		{"<table><caption>a<p>b</caption>c<caption>d</table>e", "c<table><caption>a<p>b</p></caption><caption>d</caption></table>e"},
		{"<table><caption>a</table>b", "<table><caption>a</caption></table>b"},
		{"<table><caption>a<col>b", "b<table><caption>a</caption><colgroup><col></colgroup></table>"},
		{"<table><caption>a<colgroup>b", "b<table><caption>a</caption><colgroup></colgroup></table>"},
		{"<table><caption>a<tbody>b", "b<table><caption>a</caption><tbody></tbody></table>"},
		{"<table><caption>a<td>b", "<table><caption>a</caption><tbody><tr><td>b</td></tr></tbody></table>"},
		{"<table><caption>a<tfoot>b", "b<table><caption>a</caption><tfoot></tfoot></table>"},
		{"<table><caption>a<th>b", "<table><caption>a</caption><tbody><tr><th>b</th></tr></tbody></table>"},
		{"<table><caption>a<thead>b", "b<table><caption>a</caption><thead></thead></table>"},
		{"<table><caption>a<tr>b", "b<table><caption>a</caption><tbody><tr></tr></tbody></table>"},
		{"<table><caption>a</body>b</col>c</colgroup>d</html>e</tbody>f</td>g</tfoot>h</th>i</thead>j</tr>k", "<table><caption>abcdefghijk</caption></table>"},
		{"<table><caption><li><p><div><span>a</caption>b", "b<table><caption><li><p></p><div><span>a</span></div></li></caption></table>"},
		{"<table><caption><b>a</caption>b<td>c", "b<table><caption><b>a</b></caption><tbody><tr><td>c</td></tr></tbody></table>"},
		{"<b><table><caption></b>a<i>b</caption><td>c", "<b><table><caption>a<i>b</i></caption><tbody><tr><td>c</td></tr></tbody></table></b>"},
		{"<table><caption><table>a</caption>b", "<table><caption>ab<table></table></caption></table>"},
		{"<table><caption><table><td>a</table>b</caption>c", "c<table><caption><table><tbody><tr><td>a</td></tr></tbody></table>b</caption></table>"},
		{"<table><caption> <!--a--><input type=hidden>b<style>c</style>", "<table><caption> <!--a--><input type=\"hidden\">b<style>c</style></caption></table>"},
		{"<table><caption><object>a</caption>b", "b<table><caption><object>a</object></caption></table>"},
		{"<table><caption><p>a<caption><p>b", "<table><caption><p>a</p></caption><caption><p>b</p></caption></table>"},
	})
}

func TestP21HTMLInColumnGroups(t *testing.T) {
	checkTrees(t, "P21", []tree{
		{"<table><colgroup><html a><col>", "<html a=\"\"><head></head><body><table><colgroup><col></colgroup></table></body></html>"},
		{"<table><colgroup><html a></colgroup><!--b-->", "<html a=\"\"><head></head><body><table><colgroup></colgroup><!--b--></table></body></html>"},
	})
}

func TestP21ColumnGroups(t *testing.T) {
	checkBodies(t, "P21", []tree{
		{"<table><colgroup> <!--a--><col><col b></colgroup> <!--c-->", "<table><colgroup> <!--a--><col><col b=\"\"></colgroup> <!--c--></table>"},
		{"<table><colgroup><!doctype x></col><col>", "<table><colgroup><col></colgroup></table>"},
		{"<table><colgroup></colgroup></colgroup>x", "x<table><colgroup></colgroup></table>"},
		{"<table><colgroup>a<col>b", "ab<table><colgroup></colgroup><colgroup><col></colgroup></table>"},
		{"<table><colgroup>\x00<col>", "<table><colgroup></colgroup><colgroup><col></colgroup></table>"},
		{"<table><colgroup><colgroup><caption>a", "<table><colgroup></colgroup><colgroup></colgroup><caption>a</caption></table>"},
		{"<table><colgroup><tr>a", "a<table><colgroup></colgroup><tbody><tr></tr></tbody></table>"},
		{"<table><colgroup></table>a", "<table><colgroup></colgroup></table>a"},
		{"<table><colgroup></tbody><col>", "<table><colgroup></colgroup><colgroup><col></colgroup></table>"},
		{"<table><colgroup></x><col>", "<table><colgroup></colgroup><colgroup><col></colgroup></table>"},
		{"<table><colgroup><p>x<col>", "<p>x</p><table><colgroup></colgroup><colgroup><col></colgroup></table>"},
		{"<table><col>", "<table><colgroup><col></colgroup></table>"},
		{"<table><col> x", "x<table><colgroup><col> </colgroup></table>"},
	})
}

func TestP22TableBodies(t *testing.T) {
	checkBodies(t, "P22", []tree{
		{"<table><tbody><tr a><td>x<tr b><td>y</tbody>z", "z<table><tbody><tr a=\"\"><td>x</td></tr><tr b=\"\"><td>y</td></tr></tbody></table>"},
		{"<table><tbody><td>x<tfoot><th>y<thead><tr>z", "z<table><tbody><tr><td>x</td></tr></tbody><tfoot><tr><th>y</th></tr></tfoot><thead><tr></tr></thead></table>"},
		{"<table><tbody><td>x</tbody></tbody><tbody>y</thead>z", "yz<table><tbody><tr><td>x</td></tr></tbody><tbody></tbody></table>"},
		{"<table><tbody></tfoot></thead><tr>x", "x<table><tbody><tr></tr></tbody></table>"},
		{"<table><tfoot></tfoot><tr>x", "x<table><tfoot></tfoot><tbody><tr></tr></tbody></table>"},
		{"<table><thead></thead><td>x", "<table><thead></thead><tbody><tr><td>x</td></tr></tbody></table>"},
		{"<table><thead>x</table>y", "x<table><thead></thead></table>y"},
		{"<table><tbody><caption>x", "<table><tbody></tbody><caption>x</caption></table>"},
		{"<table><tbody><col>x", "x<table><tbody></tbody><colgroup><col></colgroup></table>"},
		{"<table><tbody><colgroup>x", "x<table><tbody></tbody><colgroup></colgroup></table>"},
		{"<table><tbody><tbody>x", "x<table><tbody></tbody><tbody></tbody></table>"},
		{"<table><thead><tfoot>x", "x<table><thead></thead><tfoot></tfoot></table>"},
		{"<table><tfoot><thead>x", "x<table><tfoot></tfoot><thead></thead></table>"},
		{"<table><tbody>a</body>b</caption>c</col>d</colgroup>e</html>f</td>g</th>h</tr>i<tr>", "abcdefghi<table><tbody><tr></tr></tbody></table>"},
		{"<table><tbody><span><tr>x", "<span></span>x<table><tbody><tr></tr></tbody></table>"},
		{"<table><tbody><span><td>x", "<span></span><table><tbody><tr><td>x</td></tr></tbody></table>"},
		{"<table><tbody><span></tbody><tr>x", "<span></span>x<table><tbody></tbody><tbody><tr></tr></tbody></table>"},
		{"<table><tbody><span><tfoot>x", "<span></span>x<table><tbody></tbody><tfoot></tfoot></table>"},
		{"<table><tbody><form></form><input type=hidden><input>x<style>y</style><!--z--> <tr>", "<input>x<table><tbody><form></form><input type=\"hidden\"><style>y</style><!--z--> <tr></tr></tbody></table>"},
		{"<table><tbody><table>x", "<table><tbody></tbody></table>x<table></table>"},
	})
}

func TestP22Rows(t *testing.T) {
	checkBodies(t, "P22", []tree{
		{"<table><tr><td a>x<th b>y</tr>z", "z<table><tbody><tr><td a=\"\">x</td><th b=\"\">y</th></tr></tbody></table>"},
		{"<table><tr></tr><td>x", "<table><tbody><tr></tr><tr><td>x</td></tr></tbody></table>"},
		{"<table><tr></table>x", "<table><tbody><tr></tr></tbody></table>x"},
		{"<table><tr></tbody>a<tr>", "a<table><tbody><tr></tr></tbody><tbody><tr></tr></tbody></table>"},
		{"<table><tr></tfoot>a<td>", "a<table><tbody><tr><td></td></tr></tbody></table>"},
		{"<table><tr></thead>a<td>", "a<table><tbody><tr><td></td></tr></tbody></table>"},
		{"<table><tfoot><tr></tfoot>a<td>", "a<table><tfoot><tr></tr></tfoot><tbody><tr><td></td></tr></tbody></table>"},
		{"<table><thead><tr></thead>a<td>", "a<table><thead><tr></tr></thead><tbody><tr><td></td></tr></tbody></table>"},
		{"<table><tr><caption>x", "<table><tbody><tr></tr></tbody><caption>x</caption></table>"},
		{"<table><tr><col>x", "x<table><tbody><tr></tr></tbody><colgroup><col></colgroup></table>"},
		{"<table><tr><colgroup>x", "x<table><tbody><tr></tr></tbody><colgroup></colgroup></table>"},
		{"<table><tr><tbody>x", "x<table><tbody><tr></tr></tbody><tbody></tbody></table>"},
		{"<table><tr><tfoot>x", "x<table><tbody><tr></tr></tbody><tfoot></tfoot></table>"},
		{"<table><tr><thead>x", "x<table><tbody><tr></tr></tbody><thead></thead></table>"},
		{"<table><tr><tr>x", "x<table><tbody><tr></tr><tr></tr></tbody></table>"},
		{"<table><tr>a</body>b</caption>c</col>d</colgroup>e</html>f</td>g</th>h<td>", "abcdefgh<table><tbody><tr><td></td></tr></tbody></table>"},
		{"<table><tr><span><td>x", "<span></span><table><tbody><tr><td>x</td></tr></tbody></table>"},
		{"<table><tr><span><th>x", "<span></span><table><tbody><tr><th>x</th></tr></tbody></table>"},
		{"<table><tr><span></tr>x<tr>", "<span></span>x<table><tbody><tr></tr><tr></tr></tbody></table>"},
		{"<table><tr><span><tr>x", "<span></span>x<table><tbody><tr></tr><tr></tr></tbody></table>"},
		{"<table><tr><table>x", "<table><tbody><tr></tr></tbody></table>x<table></table>"},
		{"<table><tr><form a></form><input type=hidden><input>x<style>y</style><!--z--> <td>", "<input>x<table><tbody><tr><form a=\"\"></form><input type=\"hidden\"><style>y</style><!--z--> <td></td></tr></tbody></table>"},
	})
}

func TestP22Cells(t *testing.T) {
	checkBodies(t, "P22", []tree{
		{"<table><td>a</td>b<th>c</th>d", "bd<table><tbody><tr><td>a</td><th>c</th></tr></tbody></table>"},
		{"<table><td>a</th>b<th>c</td>d", "<table><tbody><tr><td>ab</td><th>cd</th></tr></tbody></table>"},
		{"<table><td><p><div><span>a</td>b", "b<table><tbody><tr><td><p></p><div><span>a</span></div></td></tr></tbody></table>"},
		{"<table><td><p>a<td><p>b<th><p>c", "<table><tbody><tr><td><p>a</p></td><td><p>b</p></td><th><p>c</p></th></tr></tbody></table>"},
		{"<table><td><b>a<td>b</table>c", "<table><tbody><tr><td><b>a</b></td><td>b</td></tr></tbody></table>c"},
		{"<table><td>a<caption>b", "<table><tbody><tr><td>a</td></tr></tbody><caption>b</caption></table>"},
		{"<table><td>a<col>b", "b<table><tbody><tr><td>a</td></tr></tbody><colgroup><col></colgroup></table>"},
		{"<table><td>a<colgroup>b", "b<table><tbody><tr><td>a</td></tr></tbody><colgroup></colgroup></table>"},
		{"<table><td>a<tbody>b", "b<table><tbody><tr><td>a</td></tr></tbody><tbody></tbody></table>"},
		{"<table><th>a<tfoot>b", "b<table><tbody><tr><th>a</th></tr></tbody><tfoot></tfoot></table>"},
		{"<table><th>a<thead>b", "b<table><tbody><tr><th>a</th></tr></tbody><thead></thead></table>"},
		{"<table><th>a<tr>b", "b<table><tbody><tr><th>a</th></tr><tr></tr></tbody></table>"},
		{"<table><td>a</table>b", "<table><tbody><tr><td>a</td></tr></tbody></table>b"},
		{"<table><td>a</tbody>b<tr>", "b<table><tbody><tr><td>a</td></tr></tbody><tbody><tr></tr></tbody></table>"},
		{"<table><td>a</tfoot>b", "<table><tbody><tr><td>ab</td></tr></tbody></table>"},
		{"<table><td>a</thead>b", "<table><tbody><tr><td>ab</td></tr></tbody></table>"},
		{"<table><tfoot><td>a</tfoot>b<tr>", "b<table><tfoot><tr><td>a</td></tr></tfoot><tbody><tr></tr></tbody></table>"},
		{"<table><thead><th>a</thead>b<tr>", "b<table><thead><tr><th>a</th></tr></thead><tbody><tr></tr></tbody></table>"},
		{"<table><td>a</tr>b<tr>", "b<table><tbody><tr><td>a</td></tr><tr></tr></tbody></table>"},
		{"<table><td>a</body>b</caption>c</col>d</colgroup>e</html>f", "<table><tbody><tr><td>abcdef</td></tr></tbody></table>"},
		{"<table><td><table></td></tr>x", "<table><tbody><tr><td>x<table></table></td></tr></tbody></table>"},
		{"<table><td><li><option>a</td>b", "b<table><tbody><tr><td><li><option>a</option></li></td></tr></tbody></table>"},
		{"<table><td>a<input type=hidden> <form><style>b</style><!--c-->d", "<table><tbody><tr><td>a<input type=\"hidden\"> <form><style>b</style><!--c-->d</form></td></tr></tbody></table>"},
		{"<table><td><object>a</td>b", "b<table><tbody><tr><td><object>a</object></td></tr></tbody></table>"},
		{"<table><td><table><td>a</td></tr>b</table>c</td>d", "d<table><tbody><tr><td>b<table><tbody><tr><td>a</td></tr></tbody></table>c</td></tr></tbody></table>"},
	})
}

func TestP24Reset(t *testing.T) {
	checkBodies(t, "P24", []tree{
		{"<table><td><table></table>a</td>b", "b<table><tbody><tr><td><table></table>a</td></tr></tbody></table>"},
		{"<table><th><table></table>a</th>b", "b<table><tbody><tr><th><table></table>a</th></tr></tbody></table>"},
		{"<table><td><select></select>a<td>b", "<table><tbody><tr><td><select></select>a</td><td>b</td></tr></tbody></table>"},
		{"<table><tr><select></select>a<td>b", "<select></select>a<table><tbody><tr><td>b</td></tr></tbody></table>"},
		{"<table><tbody><select></select>a<tr>b", "<select></select>ab<table><tbody><tr></tr></tbody></table>"},
		{"<table><thead><select></select>a<tr>b", "<select></select>ab<table><thead><tr></tr></thead></table>"},
		{"<table><tfoot><select></select>a<td>b", "<select></select>a<table><tfoot><tr><td>b</td></tr></tfoot></table>"},
		{"<table><caption><select></select>a<tr>b", "b<table><caption><select></select>a</caption><tbody><tr></tr></tbody></table>"},
		{"<table><caption><table></table>a</caption>b", "b<table><caption><table></table>a</caption></table>"},
		{"<table><select></select>a<tr>b", "<select></select>ab<table><tbody><tr></tr></tbody></table>"},
		{"<table></table>a<tr>b", "<table></table>ab"},
		{"<select></select>a<tr>b", "<select></select>ab"},
		{"<div><select></select>a</div>b", "<div><select></select>a</div>b"},
		{"<table><td><div><table></table>a<td>b", "<table><tbody><tr><td><div><table></table>a</div></td><td>b</td></tr></tbody></table>"},
		{"<table><table></table>a<td>b", "<table></table><table></table>ab"},
		{"<table><tr><select><option></select><td>x", "<select><option></option></select><table><tbody><tr><td>x</td></tr></tbody></table>"},
	})
}
