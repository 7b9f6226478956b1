package htmltree_test

import "testing"

func TestP23Selects(t *testing.T) {
	checkBodies(t, "P23", []tree{
		{"<select>a<option b=1>c<option>d</option>e<optgroup f>g<option>h<optgroup>i</optgroup>j</select>k", "<select>a<option b=\"1\">c</option><option>d</option>e<optgroup f=\"\">g<option>h</option></optgroup><optgroup>i</optgroup>j</select>k"},
		{"<select>a\x00b<!--c--> d", "<select>ab<!--c--> d</select>"},
		{"<select><p>a<b>b<div>c</div>d</b>e</p>f", "<select>abcdef</select>"},
		{"<select><table>a<tr>b<td>c<caption>d</table>e", "<select>abcde</select>"},
		{"<select><style>a<title>b<meta>c<button>d<img>e<br>f<object>g<select>h", "<select>abcdefg</select>h"},
		{"<select><textarea>a<b>", "<select></select><textarea>a&lt;b&gt;</textarea>"},
		{"<select><option><input>a", "<select><option></option></select><input>a"},
		{"<select><option><optgroup><option><textarea>\na", "<select><option></option><optgroup><option></option></optgroup></select><textarea>a</textarea>"},
		{"<select><option>a<select>b<select>c", "<select><option>a</option></select>b<select>c</select>"},
		{"<select></select>a</select>b", "<select></select>ab"},
		{"<select><option></select><option>a", "<select><option></option></select><option>a</option>"},
		{"<select><hr><option><hr a><optgroup><option><hr>b", "<select><hr><option></option><hr a=\"\"><optgroup><option></option></optgroup><hr>b</select>"},
		{"<select><optgroup><hr>a", "<select><optgroup></optgroup><hr>a</select>"},
		{"<select></optgroup>a</option>b", "<select>ab</select>"},
		{"<select><option></optgroup>a", "<select><option>a</option></select>"},
		{"<select><optgroup></option>a", "<select><optgroup>a</optgroup></select>"},
		{"<select><optgroup><option>a</optgroup>b", "<select><optgroup><option>a</option></optgroup>b</select>"},
		{"<select><optgroup>a</optgroup>b", "<select><optgroup>a</optgroup>b</select>"},
		{"<select><optgroup><option>a</option>b</optgroup>c", "<select><optgroup><option>a</option>b</optgroup>c</select>"},
		{"<select><option><optgroup>a<option>b</option></option></optgroup></optgroup>c", "<select><option></option><optgroup>a<option>b</option></optgroup>c</select>"},
		{"<select><!doctype x>a</body>b</html>c</p>d</br>e", "<select>abcde</select>"},
		{"<p><select>a</p>b</select>c</p>d", "<p><select>ab</select>c</p>d"},
		{"<select><a>b</a></select>c", "<select>b</select>c"},
		{"<p><b>a</p><select>b</select>c", "<p><b>a</b></p><b><select>b</select>c</b>"},
		{"<b><select>a</select>b", "<b><select>a</select>b</b>"},
		{"<select>", "<select></select>"},
		{"<pre><select>\na", "<pre><select>\na</select></pre>"},
		{"<select><pre>\na", "<select>\na</select>"},
		{"<option><select>a</select>b", "<option><select>a</select>b</option>"},
		{"<select><option>a</select>b</option>c", "<select><option>a</option></select>bc"},
	})
}

func TestP23HTMLInSelects(t *testing.T) {
	checkTrees(t, "P23", []tree{
		{"<select><html a><option>b", "<html a=\"\"><head></head><body><select><option>b</option></select></body></html>"},
		{"<table><td><select><html a><body c>b<td>", "<html a=\"\"><head></head><body><table><tbody><tr><td><select>b</select></td><td></td></tr></tbody></table></body></html>"},
	})
}

func TestP23SelectsInTables(t *testing.T) {
	checkBodies(t, "P23", []tree{
		{"<table><td><select>a<caption>b", "<table><tbody><tr><td><select>a</select></td></tr></tbody><caption>b</caption></table>"},
		{"<table><td><select>a<table>b", "<table><tbody><tr><td><select>a</select>b<table></table></td></tr></tbody></table>"},
		{"<table><td><select>a<tbody>b", "b<table><tbody><tr><td><select>a</select></td></tr></tbody><tbody></tbody></table>"},
		{"<table><td><select>a<tfoot>b", "b<table><tbody><tr><td><select>a</select></td></tr></tbody><tfoot></tfoot></table>"},
		{"<table><td><select>a<thead>b", "b<table><tbody><tr><td><select>a</select></td></tr></tbody><thead></thead></table>"},
		{"<table><td><select>a<tr>b", "b<table><tbody><tr><td><select>a</select></td></tr><tr></tr></tbody></table>"},
		{"<table><td><select>a<td>b", "<table><tbody><tr><td><select>a</select></td><td>b</td></tr></tbody></table>"},
		{"<table><td><select>a<th>b", "<table><tbody><tr><td><select>a</select></td><th>b</th></tr></tbody></table>"},
		{"<table><td><select>a<col>b<colgroup>c", "<table><tbody><tr><td><select>abc</select></td></tr></tbody></table>"},
		{"<table><td><select>a</table>b", "<table><tbody><tr><td><select>a</select></td></tr></tbody></table>b"},
		{"<table><td><select>a</tbody>b", "b<table><tbody><tr><td><select>a</select></td></tr></tbody></table>"},
		{"<table><td><select>a</tr>b", "b<table><tbody><tr><td><select>a</select></td></tr></tbody></table>"},
		{"<table><td><select>a</td>b", "b<table><tbody><tr><td><select>a</select></td></tr></tbody></table>"},
		{"<table><td><select>a</caption>b</tfoot>c</thead>d</th>e", "<table><tbody><tr><td><select>abcde</select></td></tr></tbody></table>"},
		{"<table><th><select>a</th>b", "b<table><tbody><tr><th><select>a</select></th></tr></tbody></table>"},
		{"<table><tfoot><th><select>a</tfoot>b", "b<table><tfoot><tr><th><select>a</select></th></tr></tfoot></table>"},
		{"<table><thead><th><select>a</thead>b", "b<table><thead><tr><th><select>a</select></th></tr></thead></table>"},
		{"<table><caption><select>a</caption>b", "b<table><caption><select>a</select></caption></table>"},
		{"<table><td><select><optgroup><option>a<td>b", "<table><tbody><tr><td><select><optgroup><option>a</option></optgroup></select></td><td>b</td></tr></tbody></table>"},
		{"<table><td><select><option>a</select>b<td>c", "<table><tbody><tr><td><select><option>a</option></select>b</td><td>c</td></tr></tbody></table>"},
		{"<table><td><select><option>a<select>b<td>c", "<table><tbody><tr><td><select><option>a</option></select>b</td><td>c</td></tr></tbody></table>"},
		{"<table><td><select>a<input>b<td>c", "<table><tbody><tr><td><select>a</select><input>b</td><td>c</td></tr></tbody></table>"},
		{"<table><td><select>\x00a<!--b--><p>c<hr>d", "<table><tbody><tr><td><select>a<!--b-->c<hr>d</select></td></tr></tbody></table>"},
		{"<table><select>a<tr><select>b<td>c", "<select>a</select><select>b</select><table><tbody><tr><td>c</td></tr></tbody></table>"},
		{"<table><tbody><select>a<td>b", "<select>a</select><table><tbody><tr><td>b</td></tr></tbody></table>"},
		{"<table><tr><select>a<td>b", "<select>a</select><table><tbody><tr><td>b</td></tr></tbody></table>"},
		{"<table><caption><select>a<td>b", "<table><caption><select>a</select></caption><tbody><tr><td>b</td></tr></tbody></table>"},
		{"<table><td><div><select>a<td>b", "<table><tbody><tr><td><div><select>a</select></div></td><td>b</td></tr></tbody></table>"},
		{"<table><select><textarea>a</textarea>b<td>c", "<select></select><textarea>a</textarea>b<table><tbody><tr><td>c</td></tr></tbody></table>"},
		{"<table><select><input type=hidden><td>a", "<select></select><table><input type=\"hidden\"><tbody><tr><td>a</td></tr></tbody></table>"},
		{"<table></table><select>a<td>b", "<table></table><select>ab</select>"},
		{"<table><b><select>a<td>b", "<b><select>a</select></b><table><tbody><tr><td>b</td></tr></tbody></table>"},
	})
}
