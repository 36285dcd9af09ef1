package token_test

import (
	"math/big"
	"regexp"
	"slices"
	"strings"
	"testing"
	"unsafe"

	"quillon/api"
	"quillon/num"
	"quillon/token"
)

const (
	greatest = "340282366920938463463374607431768211455" // 2^128 - 1
	tooGreat = "340282366920938463463374607431768211456"
	keywords = "header metadata bit parser state extract transition select accept reject default action table key actions exact lpm ternary control apply if else drop forward valid invalid deparser emit meta port isValid _"
	allMarks = "&&& == != <= >= << >> && || ++ -> { } ( ) [ ] ; : , = < > + - & | ^ ~ ! . /"
)

func name(s string, at int) api.Token { return api.Token{Kind: api.TokName, S: s, At: at} }

func mark(s string, at int) api.Token { return api.Token{Kind: api.TokMark, S: s, At: at} }

func number(s string, w int, n api.Num, at int) api.Token {
	return api.Token{Kind: api.TokNumber, S: s, W: w, N: n, At: at}
}

func end(at int) api.Token { return api.Token{Kind: api.TokEnd, At: at} }

func fault(e api.Errno, line, col int) api.Fault {
	return api.Fault{E: e, At: api.Place{Line: line, Col: col}}
}

func wantTokens(t *testing.T, s string, want ...api.Token) {
	t.Helper()
	l, f := token.Lex(s)
	if f != (api.Fault{}) || !slices.Equal(l, want) {
		t.Errorf("Lex(%.60q) = %v, %v, want %v", s, l, f, want)
	}
}

func wantFault(t *testing.T, s string, want api.Fault) {
	t.Helper()
	l, f := token.Lex(s)
	if f != want || len(l) > 0 {
		t.Errorf("Lex(%.60q) = %v, %v, want %v", s, l, f, want)
	}
}

// texts are all texts of at most so many pieces.
func texts(most int, pieces ...string) []string {
	all := []string{""}
	for from, many := 0, 0; many < most; many++ {
		to := len(all)
		for ; from < to; from++ {
			for _, p := range pieces {
				all = append(all, all[from]+p)
			}
		}
	}
	return all
}

var (
	aGap    = regexp.MustCompile(`^(?:[ \t\n]|//[^\n]*)*`)
	aWord   = regexp.MustCompile(`^[0-9A-Za-z_]+`)
	aMark   = regexp.MustCompile(`^(?:&&&|==|!=|<=|>=|<<|>>|&&|\|\||\+\+|->|[{}()\[\];:,=<>+\-&|^~!./])`)
	aNumber = regexp.MustCompile(`^(?:[0-9]+|0x[0-9a-fA-F]+)$`)
	aWidth  = regexp.MustCompile(`^[0-9]{1,3}$`)
)

// toldNumber tells by regular expressions and whole numbers of any size what a number is.
func toldNumber(s string) (w int, n api.Num, e api.Errno) {
	value, below := s, 128
	if ahead, behind, is := strings.Cut(s, "w"); is {
		if !aWidth.MatchString(ahead) {
			return 0, n, api.ErrForm
		}
		for _, d := range ahead {
			w = 10*w + int(d-'0')
		}
		if w < 1 || w > 128 {
			return 0, n, api.ErrWidth
		}
		value, below = behind, w
	}
	if !aNumber.MatchString(value) {
		return 0, n, api.ErrForm
	}
	b, base := new(big.Int), 10
	if strings.HasPrefix(value, "0x") {
		value, base = value[2:], 16
	}
	b.SetString(value, base)
	if b.BitLen() > below {
		return 0, n, api.ErrOver
	}
	half := new(big.Int).SetUint64(1<<64 - 1)
	n.Lo = new(big.Int).And(b, half).Uint64()
	n.Hi = new(big.Int).Rsh(b, 64).Uint64()
	return w, n, api.OK
}

// told tells by regular expressions what Lex tells; a fault by its byte.
func told(s string) (l []api.Token, at int, e api.Errno) {
	for {
		at += len(aGap.FindString(s[at:]))
		if at == len(s) {
			return append(l, end(at)), 0, api.OK
		}
		word := aWord.FindString(s[at:])
		t := name(word, at)
		switch {
		case word == "":
			t = mark(aMark.FindString(s[at:]), at)
			if t.S == "" {
				return nil, at, api.ErrForm
			}
		case word[0] <= '9':
			w, n, e := toldNumber(word)
			if e != api.OK {
				return nil, at, e
			}
			t = number(word, w, n, at)
		case len(word) > 16:
			return nil, at, api.ErrLong
		}
		l = append(l, t)
		at += len(t.S)
	}
}

func wantTold(t *testing.T, s string) {
	t.Helper()
	want, at, e := told(s)
	if e == api.OK {
		wantTokens(t, s, want...)
		return
	}
	line := strings.Count(s[:at], "\n") + 1
	col := at - strings.LastIndex(s[:at], "\n")
	wantFault(t, s, fault(e, line, col))
}

// P3.1

func TestP3_1Examples(t *testing.T) {
	wantTokens(t, "x1=0x1F;", name("x1", 0), mark("=", 2), number("0x1F", 0, num.Of(31), 3), mark(";", 7), end(8))
	wantFault(t, "8w255 8w256", fault(api.ErrOver, 1, 7))
	wantTokens(t, "8w255", number("8w255", 8, num.Of(255), 0), end(5))
}

func TestP3_1NoTokens(t *testing.T) {
	for _, s := range []string{
		"", " ", "\t", "\n", " \t\n \n\t", "//", "// a $ \x00 \xff \r 8w256 //", "//\n", "//a\n//b", "// a\n\n\t // b\n ", "//\r",
	} {
		wantTokens(t, s, end(len(s)))
	}
}

func TestP3_1Between(t *testing.T) {
	for _, gap := range []string{
		" ", "\t", "\n", "  ", " \t\n", "\n\n", "//\n", "// b\n", "//\n//\n", " // b $ c\n\t", "//// /\n", "//\x00\xff\xe2\x82\r\n", "\n//\n\n",
	} {
		wantTokens(t, "a"+gap+"b", name("a", 0), name("b", 1+len(gap)), end(2+len(gap)))
		wantTokens(t, "1"+gap+"2", number("1", 0, num.Of(1), 0), number("2", 0, num.Of(2), 1+len(gap)), end(2+len(gap)))
		wantTokens(t, gap+"="+gap+"="+gap, mark("=", len(gap)), mark("=", 2*len(gap)+1), end(3*len(gap)+2))
	}
	// Behind a comment that no line end ends there is nothing.
	wantTokens(t, "a// b = 1", name("a", 0), end(9))
	wantTokens(t, "a//", name("a", 0), end(3))
	// A / alone begins no comment, nor do a / and an asterisk.
	wantTokens(t, "a/b", name("a", 0), mark("/", 1), name("b", 2), end(3))
	wantTokens(t, "a/", name("a", 0), mark("/", 1), end(2))
	wantTokens(t, "/ /", mark("/", 0), mark("/", 2), end(3))
	wantTokens(t, "/\n/", mark("/", 0), mark("/", 2), end(3))
	wantTokens(t, "a///b\n/", name("a", 0), mark("/", 6), end(7))
	wantFault(t, "/* a */", fault(api.ErrForm, 1, 2))
}

// All bytes: those between tokens, those of words, those that begin marks; all others begin none.
func TestP3_1Bytes(t *testing.T) {
	for i := range 256 {
		b := string([]byte{byte(i)})
		switch {
		case strings.Contains(" \t\n", b):
			wantTokens(t, b, end(1))
			wantTokens(t, "a"+b+"b", name("a", 0), name("b", 2), end(3))
		case i >= '0' && i <= '9':
			wantTokens(t, b, number(b, 0, num.Of(uint64(i-'0')), 0), end(1))
			wantTokens(t, "a"+b+"b", name("a"+b+"b", 0), end(3))
		case i >= 'a' && i <= 'z' || i >= 'A' && i <= 'Z' || i == '_':
			wantTokens(t, b, name(b, 0), end(1))
			wantTokens(t, "a"+b+"b", name("a"+b+"b", 0), end(3))
		case strings.Contains("{}()[];:,=<>+-&|^~!./", b):
			wantTokens(t, b, mark(b, 0), end(1))
			wantTokens(t, "a"+b+"b", name("a", 0), mark(b, 1), name("b", 2), end(3))
		default:
			wantFault(t, b, fault(api.ErrForm, 1, 1))
			wantFault(t, "a"+b+"b", fault(api.ErrForm, 1, 2))
			wantFault(t, "1"+b, fault(api.ErrForm, 1, 2))
			wantFault(t, "+\n "+b, fault(api.ErrForm, 2, 2))
		}
	}
}

func TestP3_1Marks(t *testing.T) {
	for _, m := range strings.Fields(allMarks) {
		wantTokens(t, m, mark(m, 0), end(len(m)))
		wantTokens(t, "a"+m+"1", name("a", 0), mark(m, 1), number("1", 0, num.Of(1), 1+len(m)), end(2+len(m)))
		wantTokens(t, m+" "+m, mark(m, 0), mark(m, len(m)+1), end(2*len(m)+1))
	}
}

func TestP3_1TheLongestMarkThatFits(t *testing.T) {
	for _, x := range []struct{ s, want string }{
		{"&&&&", "&&& &"}, {"&&&&&", "&&& &&"}, {"&&&&&&", "&&& &&&"}, {"& &&", "& &&"}, {"&&=", "&& ="},
		{"===", "== ="}, {"====", "== =="}, {"!==", "!= ="}, {"!!=", "! !="}, {"=!=", "= !="}, {"=>", "= >"}, {"=<", "= <"},
		{"<<<", "<< <"}, {"<<=", "<< ="}, {"<=<", "<= <"}, {"<>", "< >"}, {">>>", ">> >"}, {">>=", ">> ="}, {">==", ">= ="},
		{"|||", "|| |"}, {"+++", "++ +"}, {"++++", "++ ++"}, {"+=", "+ ="}, {"-->", "- ->"}, {"->>", "-> >"}, {"->=", "-> ="}, {"--", "- -"}, {"<-", "< -"}, {"->->", "-> ->"},
		{"[[]]", "[ [ ] ]"}, {"::", ": :"}, {"..", ". ."}, {"~~", "~ ~"}, {"^^", "^ ^"}, {"/=", "/ ="}, {"-1", "- 1"}, {"1.5", "1 . 5"}, {"meta.x", "meta . x"},
	} {
		l, f := token.Lex(x.s)
		var got []string
		for _, k := range l {
			got = append(got, k.S)
		}
		if f != (api.Fault{}) || strings.Join(got, " ") != x.want+" " {
			t.Errorf("Lex(%q) = %q, %v", x.s, got, f)
		}
	}
}

func TestP3_1Names(t *testing.T) {
	for _, s := range []string{
		"a", "Z", "z", "A", "a1", "x_1", "_1", "__", "_a", "w", "w8", "x1F", "Port", "ports", "isvalid", "prio", "abcdefghijklmnop", "A234567890123456", "_______________1",
	} {
		wantTokens(t, s, name(s, 0), end(len(s)))
	}
	// Keywords are names as all others.
	for _, s := range strings.Fields(keywords) {
		wantTokens(t, s, name(s, 0), end(len(s)))
	}
}

func TestP3_1Numbers(t *testing.T) {
	for _, x := range []struct {
		s string
		w int
		n api.Num
	}{
		{"0", 0, num.Of(0)}, {"7", 0, num.Of(7)}, {"007", 0, num.Of(7)}, {"0x0", 0, num.Of(0)}, {"0xfF", 0, num.Of(255)},
		{"18446744073709551616", 0, api.Num{Hi: 1}}, {greatest, 0, num.Mask(128)}, {"0x" + strings.Repeat("f", 32), 0, num.Mask(128)},
		{strings.Repeat("0", 900) + "9", 0, num.Of(9)},
		{"8w255", 8, num.Of(255)}, {"8w0xff", 8, num.Of(255)}, {"8w0xFF", 8, num.Of(255)}, {"8w0", 8, num.Of(0)}, {"8w0255", 8, num.Of(255)}, {"8w" + strings.Repeat("0", 900), 8, num.Of(0)},
		{"1w0", 1, num.Of(0)}, {"1w1", 1, num.Of(1)}, {"9w511", 9, num.Of(511)}, {"64w18446744073709551615", 64, num.Mask(64)}, {"65w18446744073709551616", 65, api.Num{Hi: 1}},
		{"128w" + greatest, 128, num.Mask(128)}, {"128w0", 128, num.Of(0)}, {"128w0x" + strings.Repeat("F", 32), 128, num.Mask(128)},
		{"08w255", 8, num.Of(255)}, {"008w255", 8, num.Of(255)}, {"001w1", 1, num.Of(1)}, {"010w1023", 10, num.Of(1023)},
	} {
		wantTokens(t, x.s, number(x.s, x.w, x.n, 0), end(len(x.s)))
		wantTokens(t, "//\n "+x.s+";", number(x.s, x.w, x.n, 4), mark(";", 4+len(x.s)), end(5+len(x.s)))
	}
}

// Of each width the greatest value that it has room for, and the next one.
func TestP3_1NumbersOfAllWidths(t *testing.T) {
	for w := 1; w <= 128; w++ {
		digits := num.Text(num.Of(uint64(w)))
		s := digits + "w" + num.Text(num.Mask(w))
		wantTokens(t, s, number(s, w, num.Mask(w), 0), end(len(s)))
		next := tooGreat
		if w < 128 {
			next = num.Text(num.Add(num.Mask(w), num.Of(1), 128))
		}
		wantFault(t, digits+"w"+next, fault(api.ErrOver, 1, 1))
	}
}

func TestP3_1FaultsOfWords(t *testing.T) {
	for _, x := range []struct {
		s string
		e api.Errno
	}{
		// numbers that are none
		{"1a", api.ErrForm}, {"12x", api.ErrForm}, {"0x", api.ErrForm}, {"0xg", api.ErrForm}, {"0X1", api.ErrForm}, {"00x1", api.ErrForm}, {"1_000", api.ErrForm}, {"1_", api.ErrForm}, {"0b1", api.ErrForm}, {"8W255", api.ErrForm}, {"1e3", api.ErrForm},
		{tooGreat + "a", api.ErrForm}, {"0" + strings.Repeat("a", 40), api.ErrForm},
		// too great
		{tooGreat, api.ErrOver}, {"0x1" + strings.Repeat("0", 32), api.ErrOver}, {strings.Repeat("9", 900), api.ErrOver},
		{"8w256", api.ErrOver}, {"8w0x100", api.ErrOver}, {"1w2", api.ErrOver}, {"127w" + greatest, api.ErrOver}, {"128w" + tooGreat, api.ErrOver}, {"8w" + strings.Repeat("9", 900), api.ErrOver},
		// what is ahead of the first w
		{"0x8w1", api.ErrForm}, {"0xw1", api.ErrForm}, {"0001w1", api.ErrForm}, {"1000w1", api.ErrForm}, {"0000w1", api.ErrForm}, {"8_w1", api.ErrForm}, {"8aw1", api.ErrForm}, {strings.Repeat("9", 900) + "w1", api.ErrForm},
		// widths
		{"0w0", api.ErrWidth}, {"00w0", api.ErrWidth}, {"000w1", api.ErrWidth}, {"129w1", api.ErrWidth}, {"130w0", api.ErrWidth}, {"256w1", api.ErrWidth}, {"999w1", api.ErrWidth},
		// what is behind it
		{"8w", api.ErrForm}, {"8wx", api.ErrForm}, {"8w0x", api.ErrForm}, {"8ww1", api.ErrForm}, {"8w8w1", api.ErrForm}, {"8w1_", api.ErrForm}, {"8w0X1", api.ErrForm}, {"8w" + tooGreat + "a", api.ErrForm},
		// first what is ahead, then the width, then the value
		{"0001w", api.ErrForm}, {"1000wx", api.ErrForm}, {"0000w" + tooGreat, api.ErrForm}, {"0w", api.ErrWidth}, {"129wx", api.ErrWidth}, {"0w1", api.ErrWidth}, {"129w" + tooGreat, api.ErrWidth}, {"999w8w1", api.ErrWidth},
		// names that are too long
		{"abcdefghijklmnopq", api.ErrLong}, {strings.Repeat("_", 17), api.ErrLong}, {"A2345678901234567", api.ErrLong}, {strings.Repeat("z", 900), api.ErrLong},
	} {
		wantFault(t, x.s, fault(x.e, 1, 1))
		wantFault(t, "a b\n =// 1a\n\t"+x.s+" 1a", fault(x.e, 3, 2))
		wantFault(t, "+"+x.s+"+", fault(x.e, 1, 2))
	}
}

// The first fault is that of the first byte, whatever comes behind.
func TestP3_1TheFirstFault(t *testing.T) {
	for _, x := range []struct {
		s    string
		want api.Fault
	}{
		{"$ 8w256", fault(api.ErrForm, 1, 1)}, {"8w256 $", fault(api.ErrOver, 1, 1)}, {"a 129w1 $", fault(api.ErrWidth, 1, 3)}, {"abcdefghijklmnopq$", fault(api.ErrLong, 1, 1)},
		{"a\n\nb $ 1a", fault(api.ErrForm, 3, 3)}, {"a\r\nb", fault(api.ErrForm, 1, 2)}, {"\ufeffa", fault(api.ErrForm, 1, 1)}, {"a\u00e9", fault(api.ErrForm, 1, 2)}, {"\u0663", fault(api.ErrForm, 1, 1)},
		{"a \"b\"", fault(api.ErrForm, 1, 3)}, {"a%b", fault(api.ErrForm, 1, 2)}, {"// $\n#", fault(api.ErrForm, 2, 1)}, {"a\x00", fault(api.ErrForm, 1, 2)}, {"\x80", fault(api.ErrForm, 1, 1)},
	} {
		wantFault(t, x.s, x.want)
	}
}

func TestP3_1LongTexts(t *testing.T) {
	const most = api.MaxText
	blank := strings.Repeat(" ", most)
	wantTokens(t, blank, end(most))
	wantTokens(t, blank[1:]+"a", name("a", most-1), end(most))
	wantTokens(t, "//"+blank[2:], end(most))
	wantTokens(t, strings.Repeat("\n", most-2)+"++", mark("++", most-2), end(most))
	wantTokens(t, strings.Repeat("0", most), number(strings.Repeat("0", most), 0, num.Of(0), 0), end(most))
	wantFault(t, strings.Repeat("a", most), fault(api.ErrLong, 1, 1))
	wantFault(t, blank[1:]+"$", fault(api.ErrForm, 1, most))
	l, f := token.Lex(strings.Repeat("&", most))
	if len(l) != most/3+2 || f != (api.Fault{}) || l[most/3] != mark("&", most-1) || l[most/3+1] != end(most) {
		t.Errorf("Lex of %d marks = %d tokens, %v", most, len(l), f)
	}
	// One byte more is too long at the first byte, whatever else is wrong with the text.
	for _, s := range []string{
		blank + " ", blank + "a", blank + "\n", "//" + blank, strings.Repeat("\n", most+1), strings.Repeat("a", most+1), "$" + blank, blank + "$", "\n8w256" + blank, strings.Repeat(blank, 40),
	} {
		wantFault(t, s, fault(api.ErrLong, 1, 1))
	}
}

func TestP3_1OfAllSmallTexts(t *testing.T) {
	for _, s := range texts(6, "a", "0", "8", "w", "x", " ") {
		wantTold(t, s)
	}
	for _, s := range texts(4, "_", "9w", "12", "0xf", "\n", "//", "/", "&", "=", "-", ">", "|", "$", "\xe2") {
		wantTold(t, s)
	}
	for _, s := range texts(5, "&", "=", "<", ">", "-", "+", "!", "|") {
		wantTold(t, s)
	}
}

// Tokens side by side, with blanks between, are lexed as the same ones.
func TestP3_1TokensSideBySide(t *testing.T) {
	for _, s := range []string{
		"header h{bit<8>f;}// a header\nmetadata{}parser{state start{extract(h);transition select(h.f){8w3&&&8w0xf,_:accept;default:reject;}}}",
		"meta.x=(a.b++meta.c)[7:0]<<2>>1^~port|-1&!isValid(a)&&&&x<=1||y>=2!=3==4<5->6/7;",
		keywords, allMarks, strings.ReplaceAll(allMarks, " ", "\n// "+allMarks+"\n"), "",
	} {
		l, f := token.Lex(s)
		if f != (api.Fault{}) {
			t.Fatalf("Lex(%q): %v", s, f)
		}
		for _, gap := range []string{" ", "\t ", "\n", " // a\n"} {
			var again strings.Builder
			var want []api.Token
			for _, k := range l {
				k.At = again.Len()
				want = append(want, k)
				again.WriteString(k.S)
				if k.Kind != api.TokEnd {
					again.WriteString(gap)
				}
			}
			wantTokens(t, again.String(), want...)
		}
	}
}

// What is told is in memory of its own: it stays as it is, whatever becomes of the bytes that were handed in.
func TestP3_1TokensOfTheirOwn(t *testing.T) {
	b := []byte("abc 8w255 &&& port // x\n;")
	s := unsafe.String(&b[0], len(b))
	l, f := token.Lex(s)
	want := []api.Token{name("abc", 0), number("8w255", 8, num.Of(255), 4), mark("&&&", 10), name("port", 14), mark(";", 24), end(25)}
	if string(b) != "abc 8w255 &&& port // x\n;" {
		t.Error("Lex changed its text")
	}
	for i := range b {
		b[i] = '?'
	}
	if f != (api.Fault{}) || !slices.Equal(l, want) {
		t.Errorf("Lex = %v, %v, want %v", l, f, want)
	}
	one, _ := token.Lex("a b")
	one[0] = mark("+", 7)
	wantTokens(t, "a b", name("a", 0), name("b", 2), end(3))
}

// P3.2

func TestP3_2IsKeyword(t *testing.T) {
	l := strings.Fields(keywords)
	if len(l) != 32 {
		t.Fatalf("%d keywords", len(l))
	}
	for _, s := range l {
		if !token.IsKeyword(s) {
			t.Errorf("IsKeyword(%q) is false", s)
		}
		for _, x := range []string{s + " ", " " + s, s + "1", "1" + s, s + s, "x" + s, s + "\x00", s + "\n"} {
			if token.IsKeyword(x) {
				t.Errorf("IsKeyword(%q) is true", x)
			}
		}
		for _, x := range []string{strings.ToUpper(s), strings.ToUpper(s[:1]) + s[1:], s[1:], s[:len(s)-1]} {
			if token.IsKeyword(x) != slices.Contains(l, x) {
				t.Errorf("IsKeyword(%q) is %v", x, token.IsKeyword(x))
			}
		}
	}
	for _, s := range []string{
		"", " ", "a", "x1", "headers", "Header", "HEADER", "isvalid", "IsValid", "prio", "where", "reach", "start", "prefix", "length", "__", "0", "8w1", ".", "=", "&&&", "header metadata", keywords, strings.Repeat("_", 1<<20), "\xff",
	} {
		if token.IsKeyword(s) {
			t.Errorf("IsKeyword(%q) is true", s)
		}
	}
}

func TestP3_2IsName(t *testing.T) {
	for _, s := range []string{
		"a", "z", "A", "Z", "x1", "_1", "__", "_a", "a_", "w8", "xF", "Port", "PORT", "ports", "isvalid", "IsValid", "prio", "where", "abcdefghijklmnop", "A234567890123456", "________________",
	} {
		if !token.IsName(s) {
			t.Errorf("IsName(%q) is false", s)
		}
	}
	for _, s := range []string{
		"", " ", "0", "1a", "8w1", "0x1", "9", " a", "a ", "a b", "a\n", "\na", "a//", "a.b", "a-b", "a;", "=", ".", "&&&", "a\x00", "\x00", "a\xff", "\u00e9", "a\u00e9", "\u00aa", "\u0663", "a\u0663", "@", "[", "`", "{", "/", ":", "^", "-",
		"abcdefghijklmnopq", "_________________", "abcdefghijklmno\u00e9", strings.Repeat("a", 1<<20),
	} {
		if token.IsName(s) {
			t.Errorf("IsName(%q) is true", s)
		}
	}
	for _, s := range strings.Fields(keywords) {
		if token.IsName(s) {
			t.Errorf("IsName(%q) is true of a keyword", s)
		}
		if !token.IsName(s + "1") {
			t.Errorf("IsName(%q) is false", s+"1")
		}
	}
	for n := 1; n <= 40; n++ {
		if s := strings.Repeat("a", n); token.IsName(s) != (n <= 16) {
			t.Errorf("IsName of %d bytes is %v", n, n > 16)
		}
	}
}

// A name is what is lexed as one token that is a name, and is no keyword.
func TestP3_2NamesAreTokens(t *testing.T) {
	all := texts(4, "a", "Z", "_", "0", "w", " ", ".", "\n", "//", "\xc3")
	all = append(all, texts(2, strings.Fields(keywords)...)...)
	for i := range 256 {
		b := string([]byte{byte(i)})
		all = append(all, b, b+"a", "a"+b, "a"+b+"a")
	}
	for _, s := range all {
		l, _ := token.Lex(s)
		want := len(l) == 2 && l[0] == name(s, 0) && !token.IsKeyword(s)
		if got := token.IsName(s); got != want {
			t.Errorf("IsName(%q) is %v", s, got)
		}
	}
}
