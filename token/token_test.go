package token

import (
	"errors"
	"strconv"
	"strings"
	"testing"

	"htmltree/api"
)

// show tells a token in one line, with its bytes.
func show(t Token) string {
	from, to := t.Bytes()
	return strconv.Itoa(from) + "-" + strconv.Itoa(to) + " " + showKind(t)
}

func showKind(t Token) string {
	switch t := t.(type) {
	case Char:
		return "char " + t.Text
	case StartTag:
		return "start " + showTag(t.Tag)
	case EndTag:
		return "end " + showTag(t.Tag)
	case Comment:
		return "comment " + t.Text
	case Doctype:
		return "doctype " + t.Name + " " + strconv.FormatBool(t.Quirks)
	case Lost:
		return "lost"
	case TextEnd:
		return "text's end"
	}
	return "?"
}

func showTag(t Tag) string {
	s := t.Name
	for _, a := range t.Attrs {
		s += "|" + a.Name + "=" + a.Value
	}
	return s
}

// readAll tells all tokens of a text but its end.
func readAll(text string) []string {
	r := NewReader([]byte(text), 16)
	var l []string
	for {
		t := r.Next()
		if _, ok := t.(TextEnd); ok {
			return l
		}
		l = append(l, show(t))
	}
}

// check holds the tokens of a text, without their bytes, against some.
func check(t *testing.T, promise, text string, want ...string) {
	t.Helper()
	var got []string
	for _, s := range readAll(text) {
		_, kind, _ := strings.Cut(s, " ")
		got = append(got, kind)
	}
	if strings.Join(got, "\n") != strings.Join(want, "\n") {
		t.Errorf("%s: tokens of %q are %q, want %q", promise, text, got, want)
	}
}

func TestData(t *testing.T) {
	p := "P5"
	check(t, p, "")
	check(t, p, "a>\xff", "char a", "char >", "char \xff")
	check(t, p, "<p>", "start p")
	check(t, p, "<Z>", "start z")
	check(t, p, "</p>", "end p")
	check(t, p, "</>", "lost")
	check(t, p, "</", "char <", "char /")
	check(t, p, "<", "char <")
	check(t, p, "<<p>", "char <", "start p")
	for _, c := range []string{"1", " ", "=", "\xc3", "-", ">", "@", "[", "`", "{"} {
		check(t, p, "<"+c, "char <", "char "+c)
	}
	check(t, p, "</ p>x", "comment  p", "char x")
	check(t, p, "</1", "comment 1")
	check(t, p, "<//p>", "comment /p")
	check(t, p, "</?a>", "comment ?a")
	check(t, p, "</!--a-->", "comment !--a--")
	check(t, p, "<?a-->b", "comment ?a--", "char b")
	check(t, p, "<?>", "comment ?")
	check(t, p, "<?", "comment ?")
	check(t, p, "<!>", "comment ")
	check(t, p, "<!", "comment ")
	check(t, p, "<!-a>", "comment -a")
	check(t, p, "<!- ->", "comment - -")
	check(t, p, "<!doctyp>", "comment doctyp")
	check(t, p, "<! doctype>", "comment  doctype")
	check(t, p, "<![CDATA[a]]>", "comment [CDATA[a]]")
	check(t, p, "<!'>'", "comment '", "char '")
}

func TestReferencesInData(t *testing.T) {
	p := "P9"
	check(t, p, "&amp;amp;", "char &", "char a", "char m", "char p", "char ;")
	check(t, p, "&notit;&notin;", "char ¬", "char i", "char t", "char ;", "char ∉")
	check(t, p, "&lt=", "char <", "char =")
	check(t, p, "&notinE;", "char \u22f9\u0338")
	check(t, p, "&lt;p>", "char <", "char p", "char >")
	check(t, p, "&#x&#x3C;p", "char &", "char #", "char x", "char <", "char p")
	check(t, p, "&#13;&NewLine;", "char \r", "char \n")
	check(t, p, "&<p>", "char &", "start p")
	check(t, p, "&#\r\n", "char &", "char #", "char \n")
}

func TestNul(t *testing.T) {
	p := "P6"
	check(t, p, "\x00&#0;", "char \x00", "char \uFFFD")
	check(t, p, "<\x00", "char <", "char \x00")
	check(t, p, "<p\x00 \x00 a\x00='\x00' b=\x00 c=\"\x00\">", "start p\uFFFD|\uFFFD=|a\uFFFD=\uFFFD|b=\uFFFD|c=\uFFFD")
	check(t, p, "</p\x00>", "end p\uFFFD")
	check(t, p, "<p a\x00 a\xef\xbf\xbd>", "start p|a\uFFFD=")
	check(t, p, "<!--\x00-\x00-->", "comment \uFFFD-\uFFFD")
	check(t, p, "<!--\x00>", "comment \uFFFD>")
	check(t, p, "<?\x00>", "comment ?\uFFFD")
	check(t, p, "</\x00>", "comment \uFFFD")
	check(t, p, "<!\x00>", "comment \uFFFD")
	check(t, p, "<!doctype \x00>", "doctype \uFFFD false")
	check(t, p, "<!doctype\x00>", "doctype \uFFFD false")
	check(t, p, "<!doctype a \x00>", "doctype a true")
}

func TestNamesOfTags(t *testing.T) {
	p := "P7"
	for _, end := range []string{" ", "\t", "\n", "\f", "\r", "\r\n", "/"} {
		check(t, p, "<pQ"+end+">", "start pq")
		check(t, p, "</pQ"+end+">", "end pq")
		check(t, p, "<p"+end+"a>", "start p|a=")
		check(t, p, "<p"+end+end+"a"+end+end+">", "start p|a=")
	}
	check(t, p, "<p<=\"'&amp;É>", "start p<=\"'&amp;É")
	check(t, p, "</P A=1 a=2 B>", "end p|a=1|b=")
}

func TestAttributes(t *testing.T) {
	p := "P7"
	check(t, p, "<p a=1 B='2' c=\"3\" d>", "start p|a=1|b=2|c=3|d=")
	check(t, p, "<p a='1'b=\"2\"c>", "start p|a=1|b=2|c=")
	check(t, p, "<p =>", "start p|==")
	check(t, p, "<p =a=b>", "start p|=a=b")
	check(t, p, "<p ==a>", "start p|==a")
	check(t, p, "<p a==b>", "start p|a==b")
	check(t, p, "<p a = b>", "start p|a=b")
	check(t, p, "<p a\n\f=\t'b'>", "start p|a=b")
	check(t, p, "<p a= >b", "start p|a=", "char b")
	check(t, p, "<p a=>b", "start p|a=", "char b")
	check(t, p, "<p a / =b>", "start p|a=|=b=")
	check(t, p, "<p/a/b=c/d/>", "start p|a=|b=c/d/")
	check(t, p, "<p a=/>", "start p|a=/")
	check(t, p, "<p a='b/>\"c'/>", "start p|a=b/>\"c")
	check(t, p, "<p a=\"b'c\nd\r\ne\">", "start p|a=b'c\nd\ne")
	check(t, p, "<p a=b'c\"d=e<f`>", "start p|a=b'c\"d=e<f`")
	check(t, p, "<p a='' b=\"\">", "start p|a=|b=")
	check(t, p, "<p \"a' <&amp;É>", "start p|\"a'=|<&amp;É=")
	check(t, p, "<p a=1 A=2 b a='3'>", "start p|a=1|b=")
	check(t, p, "<p a A=2>", "start p|a=")
	check(t, p, "<p a=É\xff>", "start p|a=É\xff")
}

func TestReferencesInValues(t *testing.T) {
	p := "P7, P9"
	check(t, p, "<p a=&lt;&gt b='&quot;&apos;' c=\"&#65\">", "start p|a=<>|b=\"'|c=A")
	check(t, p, "<p a=?b&copy=c&copyd&copy1&copy;=&copy>", "start p|a=?b&copy=c&copyd&copy1©=©")
	check(t, p, "<p a='&notit;&not;it'>", "start p|a=&notit;¬it")
	check(t, p, "<p a='&amp'b>", "start p|a=&|b=")
	check(t, p, "<p a=&#39;b c>", "start p|a='b|c=")
	check(t, p, "<p a=&quot;b c&quot;>", "start p|a=\"b|c&quot;=")
}

func TestLostTags(t *testing.T) {
	p := "P7"
	whole := "<p a = 'b' c=d e=\"f\"/"
	for n := 2; n <= len(whole); n++ {
		check(t, p, whole[:n], "lost")
	}
	check(t, p, whole+">", "start p|a=b|c=d|e=f")
	check(t, p, "</p", "lost")
	check(t, p, "</p a='>", "lost")
	check(t, p, "x<p a=\"<b>", "char x", "lost")
}

func TestComments(t *testing.T) {
	p := "P8"
	check(t, p, "<!-->a", "comment ", "char a")
	check(t, p, "<!--->a", "comment ", "char a")
	check(t, p, "<!---->a", "comment ", "char a")
	check(t, p, "<!----!>a", "comment ", "char a")
	check(t, p, "<!----->a", "comment -", "char a")
	check(t, p, "<!--a-->b", "comment a", "char b")
	check(t, p, "<!--a--!>b-->", "comment a", "char b", "char -", "char -", "char >")
	check(t, p, "<!--a-->b--!>", "comment a", "char b", "char -", "char -", "char !", "char >")
	check(t, p, "<!--a--->b", "comment a-", "char b")
	check(t, p, "<!--a--!-->", "comment a--!")
	check(t, p, "<!--a-- >-->", "comment a-- >")
	check(t, p, "<!--a->-->", "comment a->")
	check(t, p, "<!-- > -> <!-- -->", "comment  > -> <!-- ")
	check(t, p, "<!--&amp;\r\nA-->", "comment &amp;\nA")
	check(t, p, "<!--", "comment ")
	check(t, p, "<!---", "comment ")
	check(t, p, "<!----", "comment ")
	check(t, p, "<!-----", "comment -")
	check(t, p, "<!----!", "comment ")
	check(t, p, "<!---!", "comment -!")
	check(t, p, "<!--a", "comment a")
	check(t, p, "<!--a-", "comment a")
	check(t, p, "<!--a--", "comment a")
	check(t, p, "<!--a--!", "comment a")
	check(t, p, "<!--a---", "comment a-")
	check(t, p, "<!--a!", "comment a!")
	check(t, p, "<!--a-!", "comment a-!")
	check(t, p, "<?a--", "comment ?a--")
}

func TestDoctypes(t *testing.T) {
	p := "P8"
	check(t, p, "<!DOCTYPE html>a", "doctype html false", "char a")
	check(t, p, "<!dOcTyPe HtMl>", "doctype html false")
	check(t, p, "<!doctypehtml>", "doctype html false")
	check(t, p, "<!doctype\t\n\f\r html\n >", "doctype html false")
	check(t, p, "<!doctype É&amp;/\"-->", "doctype É&amp;/\"-- false")
	check(t, p, "<!doctype>", "doctype  true")
	check(t, p, "<!doctype \n>", "doctype  true")
	check(t, p, "<!doctype html public>", "doctype html true")
	check(t, p, "<!doctype html '>'>", "doctype html true", "char '", "char >")
	check(t, p, "<!doctype html/>", "doctype html/ false")
	check(t, p, "<!doctype html /", "doctype html true")
	check(t, p, "<!doctype html", "doctype html true")
	check(t, p, "<!doctype html ", "doctype html true")
	check(t, p, "<!doctype", "doctype  true")
}

func TestPlaces(t *testing.T) {
	text := "\r\na<p\r\nb>&amp;&amp</\r\n><!--\r--></p></>\r<!doctype\r\n><b"
	want := []string{"0-2 char \n", "2-3 char a", "3-9 start p|b=", "9-14 char &", "14-18 char &", "18-23 comment \n", "23-31 comment \n", "31-35 end p", "35-38 lost", "38-39 char \n", "39-51 doctype  true", "51-53 lost"}
	if got := readAll(text); strings.Join(got, ";") != strings.Join(want, ";") {
		t.Errorf("P5: tokens of %q are %q, want %q", text, got, want)
	}
	r := NewReader([]byte("\r\n"), 1)
	r.Next()
	for range 3 {
		if s := show(r.Next()); s != "2-2 text's end" {
			t.Errorf("P5: behind the last token: %s", s)
		}
	}
}

// readText tells the tokens of a text that is an element's from its beginning, without their bytes, characters put together.
func readText(text, of string, plain bool) []string {
	r := NewReader([]byte(text), 16)
	r.AsText(of, plain)
	var l []string
	chars := false
	for {
		t := r.Next()
		switch t := t.(type) {
		case TextEnd:
			return l
		case Char:
			if chars {
				l[len(l)-1] += t.Text
				continue
			}
		}
		_, chars = t.(Char)
		l = append(l, showKind(t))
	}
}

func TestTextOfElements(t *testing.T) {
	for _, c := range []struct {
		text string
		want []string
	}{
		{"", nil},
		{"a<b></c><!--d--><!doctype e></>", []string{"char a<b></c><!--d--><!doctype e></>"}},
		{"a</title>b", []string{"char a", "end title", "char b"}},
		{"</title>", []string{"end title"}},
		{"</TiTlE\n>", []string{"end title"}},
		{"</title\t>", []string{"end title"}},
		{"</title\f>", []string{"end title"}},
		{"</title\r>", []string{"end title"}},
		{"</title >", []string{"end title"}},
		{"</title/>", []string{"end title"}},
		{"</title a='>'>b", []string{"end title|a=>", "char b"}},
		{"</title", []string{"char </title"}},
		{"</titl", []string{"char </titl"}},
		{"</", []string{"char </"}},
		{"<", []string{"char <"}},
		{"</titles>", []string{"char </titles>"}},
		{"</title\x00>", []string{"char </title\uFFFD>"}},
		{"</title\v>", []string{"char </title\v>"}},
		{"< /title>", []string{"char < /title>"}},
		{"</ title>", []string{"char </ title>"}},
		{"<title>", []string{"char <title>"}},
		{"</style></textarea>", []string{"char </style></textarea>"}},
		{"</</title>", []string{"char </", "end title"}},
		{"</title </title>", []string{"end title|<=|title="}},
		{"a</title ", []string{"char a", "lost"}},
		{"a</title/b='", []string{"char a", "lost"}},
		{"a</title><b></title>&lt;\x00", []string{"char a", "end title", "start b", "end title", "char <\x00"}},
		{"\x00a\r\nb\xff", []string{"char \uFFFDa\nb\xff"}},
	} {
		for _, plain := range []bool{false, true} {
			if got := readText(c.text, "title", plain); strings.Join(got, "\n") != strings.Join(c.want, "\n") {
				t.Errorf("P10: %q is %q, want %q (plain: %v)", c.text, got, c.want, plain)
			}
		}
	}
}

func TestReferencesInTextOfElements(t *testing.T) {
	const text = "&lt;&#65;&notin;&ampx&#0;&x;&"
	if got := readText(text+"</style>"+text, "textarea", false); strings.Join(got, "\n") != "char <A\u2209&x\uFFFD&x;&</style><A\u2209&x\uFFFD&x;&" {
		t.Errorf("P10: %q", got)
	}
	if got := readText(text+"</style>&lt;", "style", true); strings.Join(got, "\n") != "char "+text+"\nend style\nchar <" {
		t.Errorf("P10: %q", got)
	}
}

// limited reads all tokens; what was thrown.
func limited(text string, attrs int) (stop *api.Stop) {
	defer func() {
		if x := recover(); x != nil {
			stop = x.(*api.Stop)
		}
	}()
	r := NewReader([]byte(text), attrs)
	for {
		if _, ok := r.Next().(TextEnd); ok {
			return nil
		}
	}
}

func TestTooManyAttributes(t *testing.T) {
	for _, c := range []struct {
		text  string
		attrs int
		at    int // -1: no limit is passed
	}{
		{"<p a>", 1, -1}, {"<p a b>", 1, 0}, {"<p a b>", 2, -1}, {"<p a b c=d>", 2, 0},
		{"x</p a b>", 1, 1}, {"\r\n<p><p a b>", 1, 5},
		{"<p a a A=b a>", 1, -1}, {"<p a a b>", 1, 0},
		{"<p a b", 1, -1}, {"<p a b ", 1, 0}, {"<p a b=", 1, 0}, {"<p a b/", 1, 0}, {"<p a a ", 1, -1}, {"</p a b=\"", 1, 0},
		{"<p a><p b></p c>", 1, -1},
	} {
		stop := limited(c.text, c.attrs)
		if c.at < 0 && stop != nil || c.at >= 0 && (stop == nil || stop.At != c.at || !errors.Is(stop, api.ErrAttr)) {
			t.Errorf("P4: %q with %d attributes: %v, want a stop at %d", c.text, c.attrs, stop, c.at)
		}
	}
}
