package htmltree_test

import "testing"

func TestP17Reconstruct(t *testing.T) {
	checkBodies(t, "P17", []tree{
		{"<p><b>a<p>c", "<p><b>a</b></p><p><b>c</b></p>"},
		{"<p><b x=1 y=2>a</p>c", "<p><b x=\"1\" y=\"2\">a</b></p><b x=\"1\" y=\"2\">c</b>"},
		{"<p><b><i><a>x</p>y</i>z", "<p><b><i><a>x</a></i></b></p><b><i><a>y</a></i><a>z</a></b>"},
		{"<b><p><i>x</p>y</i>z", "<b><p><i>x</i></p><i>y</i>z</b>"},
		{"<p><b>x</p>y</b>z", "<p><b>x</b></p><b>y</b>z"},
		{"<p><b>x</p> y", "<p><b>x</b></p><b> y</b>"},
		{"<p><b>x</p>\x00<!--y-->", "<p><b>x</b></p><!--y-->"},
		{"<p><b>x</p><br>y", "<p><b>x</b></p><b><br>y</b>"},
		{"<p><b>x</p><img>", "<p><b>x</b></p><b><img></b>"},
		{"<p><b>x</p><input>", "<p><b>x</b></p><b><input></b>"},
		{"<p><b>x</p></br>", "<p><b>x</b></p><b><br></b>"},
		{"<p><b>x</p><option>y", "<p><b>x</b></p><b><option>y</option></b>"},
		{"<p><b>x</p><optgroup>y", "<p><b>x</b></p><b><optgroup>y</optgroup></b>"},
		{"<p><b>x</p><select>y", "<p><b>x</b></p><b><select>y</select></b>"},
		{"<p><b>x</p><button>y", "<p><b>x</b></p><b><button>y</button></b>"},
		{"<p><b>x</p><span>y", "<p><b>x</b></p><b><span>y</span></b>"},
		{"<p><b>x</p><object>y", "<p><b>x</b></p><b><object>y</object></b>"},
		{"<p><b>x</p><i>y", "<p><b>x</b></p><b><i>y</i></b>"},
		{"<p><b>x</p></body> y", "<p><b>x</b></p><b> y</b>"},
	})
}

// What does not reconstruct.
func TestP17NoReconstruct(t *testing.T) {
	checkBodies(t, "P17", []tree{
		{"<p><b>x</p><!--y-->", "<p><b>x</b></p><!--y-->"},
		{"<p><b>x</p><hr>", "<p><b>x</b></p><hr>"},
		{"<p><b>x</p><div></div>", "<p><b>x</b></p><div></div>"},
		{"<p><b>x</p><li></li>", "<p><b>x</b></p><li></li>"},
		{"<p><b>x</p><pre></pre>", "<p><b>x</b></p><pre></pre>"},
		{"<p><b>x</p><h1></h1>", "<p><b>x</b></p><h1></h1>"},
		{"<p><b>x</p><form></form>", "<p><b>x</b></p><form></form>"},
		{"<p><b>x</p><table></table>", "<p><b>x</b></p><table></table>"},
		{"<p><b>x</p><textarea>y</textarea>", "<p><b>x</b></p><textarea>y</textarea>"},
		{"<p><b>x</p><meta>", "<p><b>x</b></p><meta>"},
		{"<p><b>x</p><style>y</style>", "<p><b>x</b></p><style>y</style>"},
		{"<p><b>x</p></p>", "<p><b>x</b></p><p></p>"},
		{"<p><b>x</p></div>", "<p><b>x</b></p>"},
	})
}

func TestP17Add(t *testing.T) {
	checkBodies(t, "P17", []tree{
		{"<p><b><b><b><b><b>x<p>y", "<p><b><b><b><b><b>x</b></b></b></b></b></p><p><b><b><b>y</b></b></b></p>"},
		{"<p><b><b><b>x<p>y", "<p><b><b><b>x</b></b></b></p><p><b><b><b>y</b></b></b></p>"},
		{"<p><b c=1 d=2><b d=2 c=1><b c=1 d=2><b d=2 c=1>x<p>y", "<p><b c=\"1\" d=\"2\"><b d=\"2\" c=\"1\"><b c=\"1\" d=\"2\"><b d=\"2\" c=\"1\">x</b></b></b></b></p><p><b d=\"2\" c=\"1\"><b c=\"1\" d=\"2\"><b d=\"2\" c=\"1\">y</b></b></b></p>"},
		{"<p><b c=1><b c=2><b c><b c=1 d=1><b d=1>x<p>y", "<p><b c=\"1\"><b c=\"2\"><b c=\"\"><b c=\"1\" d=\"1\"><b d=\"1\">x</b></b></b></b></b></p><p><b c=\"1\"><b c=\"2\"><b c=\"\"><b c=\"1\" d=\"1\"><b d=\"1\">y</b></b></b></b></b></p>"},
		{"<p><b><i><b><i><b><i>x<p>y", "<p><b><i><b><i><b><i>x</i></b></i></b></i></b></p><p><b><i><b><i><b><i>y</i></b></i></b></i></b></p>"},
		{"<p><b><i><b><b><b>x<p>y", "<p><b><i><b><b><b>x</b></b></b></i></b></p><p><i><b><b><b>y</b></b></b></i></p>"},
		{"<p><b><b><object><b><b></object></p>y", "<p><b><b><object><b><b></b></b></object></b></b></p><b><b>y</b></b>"},
		{"<b><b><object><p><b><b><p>y", "<b><b><object><p><b><b></b></b></p><p><b><b>y</b></b></p></object></b></b>"},
		{"<p><b><b><b></b><b><b>x<p>y", "<p><b><b><b></b><b><b>x</b></b></b></b></p><p><b><b><b>y</b></b></b></p>"},
	})
}

func TestP17Unmark(t *testing.T) {
	checkBodies(t, "P17", []tree{
		{"<object><b>x</object>y", "<object><b>x</b></object>y"},
		{"<b><object><i>x<object><a>y</object>z</object>t", "<b><object><i>x<object><a>y</a></object>z</i></object>t</b>"},
		{"<p><b>x<object><i>y</object></p>z", "<p><b>x<object><i>y</i></object></b></p><b>z</b>"},
		{"<table><td><b>x</td><td>y", "<table><tbody><tr><td><b>x</b></td><td>y</td></tr></tbody></table>"},
		{"<table><caption><b>x<tr><td>y</table>z", "<table><caption><b>x</b></caption><tbody><tr><td>y</td></tr></tbody></table>z"},
	})
}

func TestP18Links(t *testing.T) {
	checkBodies(t, "P18", []tree{
		{"<a>1<a>2", "<a>1</a><a>2</a>"},
		{"<a>1<a>2<a>3</a>4</a>5", "<a>1</a><a>2</a><a>3</a>45"},
		{"<a c=1>1<div>2<a c=2>3", "<a c=\"1\">1</a><div><a c=\"1\">2</a><a c=\"2\">3</a></div>"},
		{"<a>1<p>2<a>3</p>4", "<a>1</a><p><a>2</a><a>3</a></p><a>4</a>"},
		{"<p><a>x</p><a>y", "<p><a>x</a></p><a>y</a>"},
		{"<p><a>x</p>y<a>z", "<p><a>x</a></p><a>y</a><a>z</a>"},
		{"<a><object><a>x</object>y", "<a><object><a>x</a></object>y</a>"},
		{"<a>1<table><td><a>2</table>3", "<a>1<table><tbody><tr><td><a>2</a></td></tr></tbody></table>3</a>"},
		{"<a><table><a>x</table>y", "<a><a>x</a><table></table></a><a>y</a>"},
		{"<a>1<b>2<a>3", "<a>1<b>2</b></a><b><a>3</a></b>"},
		{"<a>1<span>2<a>3</a>4</span>5", "<a>1<span>2</span></a><a>3</a>45"},
		{"<a>1<button>2<a>3</button>4", "<a>1</a><button><a>2</a><a>3</a></button><a>4</a>"},
	})
}

func TestP18Nobr(t *testing.T) {
	checkBodies(t, "P18", []tree{
		{"<nobr>1<nobr>2", "<nobr>1</nobr><nobr>2</nobr>"},
		{"<nobr>1<div>2<nobr>3", "<nobr>1</nobr><div><nobr>2</nobr><nobr>3</nobr></div>"},
		{"<nobr><object><nobr>x</object>y", "<nobr><object><nobr>x</nobr></object>y</nobr>"},
		{"<p><nobr>x</p>y<nobr>z", "<p><nobr>x</nobr></p><nobr>y</nobr><nobr>z</nobr>"},
		{"<p><nobr>x</p><nobr>z", "<p><nobr>x</nobr></p><nobr></nobr><nobr>z</nobr>"},
		{"<nobr><table><td><nobr>x", "<nobr><table><tbody><tr><td><nobr>x</nobr></td></tr></tbody></table></nobr>"},
		{"<nobr><table><nobr>x", "<nobr><nobr>x</nobr><table></table></nobr>"},
		{"<nobr>1<b>2<nobr>3", "<nobr>1<b>2</b></nobr><b><nobr>3</nobr></b>"},
	})
}

func TestP18Objects(t *testing.T) {
	checkBodies(t, "P18", []tree{
		{"<b><object>x</b>y</object>z", "<b><object>xy</object>z</b>"},
		{"<object>x<p><div>y</object>z", "<object>x<p></p><div>y</div></object>z"},
		{"<object>x</object>y</object>z", "<object>x</object>yz"},
		{"<object><option><p>x</object>y", "<object><option><p>x</p></option></object>y"},
		{"<object><table></object>x", "<object>x<table></table></object>"},
		{"<b>1<object>2<b>3</object>4</b>5", "<b>1<object>2<b>3</b></object>4</b>5"},
		{"<p><b>x</p><object>y</object>z", "<p><b>x</b></p><b><object>y</object>z</b>"},
	})
}

func TestP19Plain(t *testing.T) {
	checkBodies(t, "P19", []tree{
		{"<b>1<i>2</b>3</i>4", "<b>1<i>2</i></b><i>3</i>4"},
		{"<b>1</b>2</b>3", "<b>1</b>23"},
		{"</b>x</a></i></nobr>", "x"},
		{"<b>1<span>2</b>3</span>4", "<b>1<span>2</span></b>34"},
		{"<span><b>1</span>2</b>3", "<span><b>1</b></span><b>2</b>3"},
		{"<p><b>x</p></b>y", "<p><b>x</b></p>y"},
		{"<a>1<b>2<i>3<nobr>4</a>5</nobr>6</i>7</b>8", "<a>1<b>2<i>3<nobr>4</nobr></i></b></a><b><i><nobr>5</nobr>6</i>7</b>8"},
	})
}

// The current one has the name, and is not active: it alone ends.
func TestP19NotActive(t *testing.T) {
	checkBodies(t, "P19", []tree{
		{"<b>1<p><b><b><b>x</p></b>y", "<b>1<p><b><b><b>x</b></b></b></p></b><b><b><b>y</b></b></b>"},
		{"<b><b><b><b>1</b>2</b>3</b>4</b>5", "<b><b><b><b>1</b>2</b>3</b>4</b>5"},
		{"<b><b><b><b></b></b></b><span>x</b>y", "<b><b><b><b></b></b></b><span>x</span></b>y"},
		{"<b><p><b><b><b></b></b></b><span>x</b>y", "<b><p><b><b><b></b></b></b><span>xy</span></p></b>"},
		{"<b><b><b><b></b></b></b><div>x</b>y", "<b><b><b><b></b></b></b><div>xy</div></b>"},
		{"<b><b><b><b><b></b></b></b><span>x</b>y", "<b><b><b><b><b></b></b></b><span>x</span></b>y</b>"},
		{"<p><b><b>x</p></b>y", "<p><b><b>x</b></b></p><b>y</b>"},
	})
}

func TestP19Scope(t *testing.T) {
	checkBodies(t, "P19", []tree{
		{"<b><table></b>x", "<b>x<table></table></b>"},
		{"<b><table><td></b>x", "<b><table><tbody><tr><td>x</td></tr></tbody></table></b>"},
		{"<b><button>x</b>y", "<b></b><button><b>x</b>y</button>"},
		{"<b><table><caption></b>x", "<b><table><caption>x</caption></table></b>"},
		{"<b><object><b>x</b></b>y", "<b><object><b>x</b>y</object></b>"},
	})
}

func TestP19Blocks(t *testing.T) {
	checkBodies(t, "P19", []tree{
		{"<b>1<p>2</b>3</p>4", "<b>1</b><p><b>2</b>3</p>4"},
		{"<b c=1>1<p d=2>2<!--e--><br>3</b>4</p>5", "<b c=\"1\">1</b><p d=\"2\"><b c=\"1\">2<!--e--><br>3</b>4</p>5"},
		{"<b>1<div>2<p>3</b>4", "<b>1</b><div><b>2</b><p><b>3</b>4</p></div>"},
		{"<b>1<i>2<p>3</b>4", "<b>1<i>2</i></b><i><p><b>3</b>4</p></i>"},
		{"<b>1<i>2<p>3</b>4</p>5</i>6", "<b>1<i>2</i></b><i><p><b>3</b>4</p>5</i>6"},
		{"<i><b><em><div>a</i>b", "<i><b><em></em></b></i><b><div><i>a</i>b</div></b>"},
		{"<b><i><a><em><u><div>x</b>y", "<b><i><a><em><u></u></em></a></i></b><a><div><b>x</b>y</div></a>"},
		{"<b><span><p>x</b>y", "<b><span></span></b><p><b>x</b>y</p>"},
		{"<p><b>1<div>2</b>3", "<p><b>1</b></p><div><b>2</b>3</div>"},
		{"<div><b>1<div>2<i>3<div>4</b>5</i>6", "<div><b>1</b><div><b>2<i>3</i></b><i></i><div><i><b>4</b>5</i>6</div></div></div>"},
		{"<b><li>1<li>2</b>3", "<b><li>1</li></b><li><b>2</b>3</li>"},
		{"<b><h1>1</b>2</h1>3", "<b></b><h1><b>1</b>2</h1>3"},
		{"<b><select>x</b>y</select></b>z", "<b><select>xy</select></b>z"},
		{"<b><br><hr>x</b>y", "<b><br><hr>x</b>y"},
	})
}

// The fourth and what comes behind it are not made anew.
func TestP19Numbers(t *testing.T) {
	checkBodies(t, "P19", []tree{
		{"<b><i><nobr><a><div>x</b>y", "<b><i><nobr><a></a></nobr></i></b><i><nobr><a><div><b>x</b>y</div></a></nobr></i>"},
		{"<b><i c><i><nobr><a><div>x</b>y", "<b><i c=\"\"><i><nobr><a></a></nobr></i></i></b><i><nobr><a><div><b>x</b>y</div></a></nobr></i>"},
		{"<b><i c><i d><i><nobr><a><div>x</b>y", "<b><i c=\"\"><i d=\"\"><i><nobr><a></a></nobr></i></i></i></b><i><nobr><a><div><b>x</b>y</div></a></nobr></i>"},
		{"<b><i c><span><nobr><a><div>x</b>y</div>z", "<b><i c=\"\"><span><nobr><a></a></nobr></span></i></b><nobr><a><div><b>x</b>y</div>z</a></nobr>"},
		{"<b><span><i c><nobr><a><div>x</b>y</div>z", "<b><span><i c=\"\"><nobr><a></a></nobr></i></span></b><i c=\"\"><nobr><a><div><b>x</b>y</div>z</a></nobr></i>"},
		{"<b><i c><nobr><a><span><div>x</b>y</div>z", "<b><i c=\"\"><nobr><a><span></span></a></nobr></i></b><nobr><a><div><b>x</b>y</div>z</a></nobr>"},
	})
}

// Eight rounds, and no more.
func TestP19Rounds(t *testing.T) {
	checkBodies(t, "P19", []tree{
		{"<b><div><div><div><div><div><div><div>x</b>y", "<b></b><div><b></b><div><b></b><div><b></b><div><b></b><div><b></b><div><b></b><div><b>x</b>y</div></div></div></div></div></div></div>"},
		{"<b><div><div><div><div><div><div><div><div>x</b>y", "<b></b><div><b></b><div><b></b><div><b></b><div><b></b><div><b></b><div><b></b><div><b></b><div><b>xy</b></div></div></div></div></div></div></div></div>"},
		{"<b><div><div><div><div><div><div><div><div><div>x</b>y", "<b></b><div><b></b><div><b></b><div><b></b><div><b></b><div><b></b><div><b></b><div><b></b><div><b><div>xy</div></b></div></div></div></div></div></div></div></div>"},
		{"<b><div><div><div><div><div><div><div><div><div><div>x</b>y", "<b></b><div><b></b><div><b></b><div><b></b><div><b></b><div><b></b><div><b></b><div><b></b><div><b><div><div>xy</div></div></b></div></div></div></div></div></div></div></div>"},
		{"<b><div><div><div><div><div><div><div><div><div><div>x</b>y</div>z", "<b></b><div><b></b><div><b></b><div><b></b><div><b></b><div><b></b><div><b></b><div><b></b><div><b><div><div>xy</div>z</div></b></div></div></div></div></div></div></div></div>"},
		{"<a><div><div><div><div><div><div><div><div><div><div>x<a>y", "<a></a><div><a></a><div><a></a><div><a></a><div><a></a><div><a></a><div><a></a><div><a></a><div><a><div><div>x<a>y</a></div></div></a></div></div></div></div></div></div></div></div>"},
		{"<nobr><div><div><div><div><div><div><div><div><div><div>x<nobr>y", "<nobr></nobr><div><nobr></nobr><div><nobr></nobr><div><nobr></nobr><div><nobr></nobr><div><nobr></nobr><div><nobr></nobr><div><nobr></nobr><div><nobr><div><div>x<nobr>y</nobr></div></div></nobr></div></div></div></div></div></div></div></div>"},
	})
}

// Where the new one is put in among the active ones.
func TestP19Marks(t *testing.T) {
	checkBodies(t, "P19", []tree{
		{"<b><i><div><div><div><div><div><div><div><div><div>x</b>y</div></div></div></div></div></div></div></div></div>z", "<b><i></i></b><i><div><b></b><div><b></b><div><b></b><div><b></b><div><b></b><div><b></b><div><b></b><div><b><div>xy</div></b></div></div></div></div></div></div></div></div><b>z</b></i>"},
		{"<b><i><div><a><div><div><div><div><div><div><div><div>x</b>y</div></div></div></div></div></div></div></div></div>z", "<b><i></i></b><i><div><b><a></a></b><a><div><b></b><div><b></b><div><b></b><div><b></b><div><b></b><div><b></b><div><b><div>xy</div></b></div></div></div></div></div></div></div></a></div><a><b>z</b></a></i>"},
		{"<i><b><div><div><div><div><div><div><div><div><div>x</b>y</div></div></div></div></div></div></div></div></div>z", "<i><b></b><div><b></b><div><b></b><div><b></b><div><b></b><div><b></b><div><b></b><div><b></b><div><b><div>xy</div></b></div></div></div></div></div></div></div></div><b>z</b></i>"},
		{"<b><b c><i><div>x</b>y</b>z", "<b><b c=\"\"><i></i></b><i></i></b><i><div><b><b c=\"\">x</b>y</b>z</div></i>"},
		{"<i><b>1<div><b>2<p>3</b>4</i>5</b>6", "<i><b>1</b></i><b></b><div><b><i><b>2</b></i></b><p><b><i><b>3</b>4</i>5</b>6</p></div>"},
	})
}

func TestP19Fostering(t *testing.T) {
	checkBodies(t, "P19", []tree{
		{"<table><b>1<div>2</b>3", "<b>1</b><div><b>2</b>3</div><table></table>"},
		{"<table><tr><b>1<div>2</b>3", "<b>1</b><div><b>2</b>3</div><table><tbody><tr></tr></tbody></table>"},
		{"<p><table><b>1<div>2</b>3<td>4", "<p><b>1</b><div><b>2</b>3</div><table><tbody><tr><td>4</td></tr></tbody></table></p>"},
		{"<div>0<table><b>1<p>2<i>3<p>4</b>5</i>6", "<div>0<b>1<p>2<i>3</i></p></b><p><b><i>4</i></b><i>5</i>6</p><table></table></div>"},
		{"<table><a>1<p>2<a>3<td>4", "<a>1</a><p><a>2</a><a>3</a></p><table><tbody><tr><td>4</td></tr></tbody></table>"},
		{"<table><b>1<div>2<table><td>3</b>4", "<b>1<div>2</div></b><table></table><table><tbody><tr><td>34</td></tr></tbody></table>"},
		{"<div><b>1<p><table><td>2</table>3</b>4", "<div><b>1</b><p><b><table><tbody><tr><td>2</td></tr></tbody></table>3</b>4</p></div>"},
	})
}
