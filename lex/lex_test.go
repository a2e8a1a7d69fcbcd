package lex

import (
	"fmt"
	"math/rand/v2"
	"regexp"
	"slices"
	"strconv"
	"strings"
	"testing"
	"unsafe"

	"hauberk/api"
)

// The document's own lists, letter by letter.
var (
	language = strings.Fields("fn pub sec out let var if else for max return u32 u8 mask mulhi carry select word ror")
	signs    = strings.Fields("<< >> == != <= >= ( ) { } [ ] , ; : = + - * & | ^ ~ ! < >")
	parters  = []string{" ", "\t", "\n", "\r"}
)

const (
	capitals   = "ABCDEFGHIJKLMNOPQRSTUVWXYZ"
	lowercase  = "abcdefghijklmnopqrstuvwxyz"
	tenDigits  = "0123456789"
	allLetters = capitals + lowercase + "_"
)

// Tokens, each with its place.
func name(pos int, s string) api.Token  { return api.Token{Kind: api.KName, Pos: pos, Text: s} }
func word(pos int, s string) api.Token  { return api.Token{Kind: api.KWord, Pos: pos, Text: s} }
func mark(pos int, s string) api.Token  { return api.Token{Kind: api.KSign, Pos: pos, Text: s} }
func numeral(pos, n int) api.Token      { return api.Token{Kind: api.KNumber, Pos: pos, Num: n} }
func end(pos int) api.Token             { return api.Token{Kind: api.KEnd, Pos: pos} }
func repeat(s string, times int) string { return strings.Repeat(s, times) }

// short tells a text that can be told.
func short(s string) string {
	if len(s) > 60 {
		return fmt.Sprintf("%q.. (%d bytes)", s[:60], len(s))
	}
	return strconv.Quote(s)
}

// lexed fails if Lex does not tell those tokens of a text, and behind them its end.
func lexed(t *testing.T, s string, want ...api.Token) {
	t.Helper()
	want = append(slices.Clone(want), end(len(s)))
	l, bad := Lex(s)
	if bad != (api.Bad{}) || !slices.Equal(l, want) {
		t.Errorf("Lex(%s) = %+v, %+v, want %+v", short(s), l[:min(len(l), 20)], bad, want[:min(len(want), 20)])
	}
}

// refused fails if Lex does not tell that error, or tells tokens beside it.
func refused(t *testing.T, s string, e api.Errno, pos int) {
	t.Helper()
	if l, bad := Lex(s); bad != (api.Bad{Err: e, Pos: pos}) || len(l) != 0 {
		t.Errorf("Lex(%s) = %d tokens, %+v, want %v at %d", short(s), len(l), bad, e, pos)
	}
}

// The chapter's tokens by regular expressions, of which each takes the longest piece that it can.
var (
	spelledPart = regexp.MustCompile(`^(?:[ \x09\x0a\x0d]|//[^\x0a]*)+`)
	spelledRun  = regexp.MustCompile(`^[a-zA-Z0-9_]+`)
	spelledName = regexp.MustCompile(`^[a-zA-Z_][a-zA-Z0-9_]{0,39}$`)
	spelledTen  = regexp.MustCompile(`^(?:0|[1-9][0-9]{0,9})$`)
	spelledHex  = regexp.MustCompile(`^0x[0-9a-f]{1,8}$`)
	spelledSign = func() *regexp.Regexp {
		var l []string
		for _, s := range signs {
			l = append(l, regexp.QuoteMeta(s))
		}
		return regexp.MustCompile("^(?:" + strings.Join(l, "|") + ")")
	}()
)

// spelled tells Lex's answer by the document's own words.
func spelled(s string) ([]api.Token, api.Bad) {
	if len(s) > 65536 {
		return nil, api.Bad{Err: api.ErrBig}
	}
	var l []api.Token
	at := len(spelledPart.FindString(s))
	for at < len(s) {
		piece := spelledRun.FindString(s[at:])
		piece += spelledSign.FindString(s[at:]) // either of the two is empty
		t, ok := spelledToken(piece)
		if !ok {
			return nil, api.Bad{Err: api.ErrLex, Pos: at}
		}
		t.Pos = at
		l = append(l, t)
		at += len(piece)
		at += len(spelledPart.FindString(s[at:]))
	}
	return append(l, end(len(s))), api.Bad{}
}

// spelledToken tells the token of one piece.
func spelledToken(piece string) (api.Token, bool) {
	switch {
	case slices.Contains(language, piece):
		return word(0, piece), true
	case slices.Contains(signs, piece):
		return mark(0, piece), true
	case spelledName.MatchString(piece):
		return name(0, piece), true
	case spelledTen.MatchString(piece), spelledHex.MatchString(piece):
		n, _ := strconv.ParseInt(piece, 0, 64)
		return numeral(0, int(n)), n <= 4294967295
	}
	return api.Token{}, false
}

// asSpelled fails if Lex does not answer what the document's words do.
func asSpelled(t *testing.T, s string) {
	t.Helper()
	l, bad := spelled(s)
	if bad != (api.Bad{}) {
		refused(t, s, bad.Err, bad.Pos)
		return
	}
	lexed(t, s, l[:len(l)-1]...)
}

// The constants of the chapter's head, and its example.

func TestConstants(t *testing.T) {
	if Most != 65536 || Name != 40 {
		t.Errorf("%d, %d, want 65536, 40", Most, Name)
	}
	// They are plain numbers, without a type of their own.
	var _ = []uint32{Most, Name}
}

func TestExample(t *testing.T) {
	refused(t, "a<<0x1F", api.ErrLex, 3)
	lexed(t, "a<<0x1f", name(0, "a"), mark(1, "<<"), numeral(3, 31))
}

func TestWholeProgram(t *testing.T) {
	lexed(t, "fn main(sec a: u32, out sec o: u32[1]) { o[0] = a + 1; }",
		word(0, "fn"), name(3, "main"), mark(7, "("), word(8, "sec"), name(12, "a"), mark(13, ":"), word(15, "u32"), mark(18, ","),
		word(20, "out"), word(24, "sec"), name(28, "o"), mark(29, ":"), word(31, "u32"), mark(34, "["), numeral(35, 1), mark(36, "]"), mark(37, ")"),
		mark(39, "{"), name(41, "o"), mark(42, "["), numeral(43, 0), mark(44, "]"), mark(46, "="), name(48, "a"), mark(50, "+"), numeral(52, 1), mark(53, ";"), mark(55, "}"))
}

// P11.1: blanks and remarks

func TestEmptyText(t *testing.T) {
	lexed(t, "")
}

func TestBlanksAlone(t *testing.T) {
	for _, a := range parters {
		lexed(t, a)
		for _, b := range parters {
			lexed(t, a+b)
			for _, c := range parters {
				lexed(t, a+b+c)
				lexed(t, a+"x"+b+"y"+c, name(1, "x"), name(3, "y"))
			}
		}
		for _, n := range []int{2, 7, 100, 65536} {
			lexed(t, repeat(a, n))
		}
	}
}

func TestWhatIsNoBlank(t *testing.T) {
	// 11, 12, 0, 133, 160 and longer ones are blanks elsewhere, and none here.
	for _, b := range []string{"\x0b", "\x0c", "\x00", "\x08", "\x0e", "\x1c", "\x1f", "\x7f", "\x85", "\xa0", "\u0085", "\u00a0", "\u2028", "\u3000", "\ufeff"} {
		refused(t, b, api.ErrLex, 0)
		refused(t, "a"+b+"b", api.ErrLex, 1)
		for _, a := range parters {
			refused(t, a+b, api.ErrLex, 1)
			refused(t, b+a, api.ErrLex, 0)
		}
	}
}

func TestRemarks(t *testing.T) {
	for _, r := range []string{"//", "///", "////", "// /", "// //", "//x", "// fn main() { 01 }", "//\r", "//\t", "//\x00", "//\xff\xfe", "//\"'", "// é", "//\\", "//" + repeat("/", 99)} {
		lexed(t, r)
		lexed(t, r+"\n")
		lexed(t, r+"\n\n")
		lexed(t, "\n"+r)
		lexed(t, r+"\n"+r)
		lexed(t, r+"\n"+r+"\n")
		lexed(t, "a"+r, name(0, "a"))
		lexed(t, "a "+r+"\n", name(0, "a"))
		lexed(t, "if"+r, word(0, "if"))
		lexed(t, "10"+r, numeral(0, 10))
		lexed(t, "<"+r, mark(0, "<"))
		lexed(t, r+"\nb", name(len(r)+1, "b"))
		lexed(t, r+"\n b", name(len(r)+2, "b"))
		lexed(t, "a"+r+"\nb", name(0, "a"), name(len(r)+2, "b"))
		lexed(t, "a"+r+"\n"+r+"\nb", name(0, "a"), name(2*len(r)+3, "b"))
		refused(t, r+"\n/", api.ErrLex, len(r)+1)
	}
}

func TestOnlyByte10EndsARemark(t *testing.T) {
	for b := range 256 {
		s := "//" + string([]byte{byte(b)}) + "a"
		if b == 10 {
			lexed(t, s, name(3, "a"))
		} else {
			lexed(t, s)
		}
	}
}

func TestSlashes(t *testing.T) {
	for _, x := range []struct {
		s   string
		pos int
	}{
		{"/", 0}, {"/ ", 0}, {" /", 1}, {"/\n", 0}, {"/ /", 0}, {"/\n/", 0}, {"/a", 0}, {"a/", 1}, {"a/b", 1}, {"a / b", 2},
		{"/*", 0}, {"/* a */", 0}, {"1/2", 1}, {"//\n/", 3}, {"a//\n/", 4}, {"</", 1}, {"</ /", 1}, {"\\\\", 0},
	} {
		refused(t, x.s, api.ErrLex, x.pos)
	}
}

// P11.1: words and names

func TestEachWord(t *testing.T) {
	for _, w := range language {
		lexed(t, w, word(0, w))
		lexed(t, " "+w+" ", word(1, w))
		lexed(t, w+" "+w, word(0, w), word(len(w)+1, w))
		lexed(t, "("+w+")", mark(0, "("), word(1, w), mark(1+len(w), ")"))
	}
}

func TestThoseThatAreNoWords(t *testing.T) {
	for _, w := range language {
		for _, b := range allLetters + tenDigits {
			c := string(b)
			lexed(t, w+c, name(0, w+c))
			if !strings.ContainsAny(c, tenDigits) {
				lexed(t, c+w, name(0, c+w))
			}
		}
		for n := 1; n < len(w); n++ {
			lexed(t, w[:n], name(0, w[:n])) // no word begins another one
		}
		for n := range w {
			capital := w[:n] + strings.ToUpper(w[n:n+1]) + w[n+1:]
			if capital != w {
				lexed(t, capital, name(0, capital))
			}
		}
		lexed(t, strings.ToUpper(w), name(0, strings.ToUpper(w)))
		for _, v := range language {
			lexed(t, w+v, name(0, w+v))
			lexed(t, w+"_"+v, name(0, w+"_"+v))
		}
	}
	for _, s := range []string{"main", "u16", "u64", "u", "u3", "u32x", "u8_", "int", "true", "false", "while", "func", "bool", "let1", "a", "x9", "byte", "rol", "mul", "secret", "public", "returns"} {
		lexed(t, s, name(0, s))
	}
}

func TestNamesOfEachLetter(t *testing.T) {
	for _, b := range allLetters {
		c := string(b)
		lexed(t, c, name(0, c))
		lexed(t, c+c, name(0, c+c))
		for _, d := range allLetters + tenDigits {
			if s := c + string(d); s != "fn" && s != "if" && s != "u8" {
				lexed(t, s, name(0, s))
			}
		}
	}
	for _, s := range []string{"_", "__", "_1", "a_b", "aB1_", "A0", "x_0_", "_0x1f", "a" + tenDigits, "z" + lowercase} {
		lexed(t, s, name(0, s))
	}
}

func TestLongNames(t *testing.T) {
	for _, c := range allLetters {
		for _, rest := range []string{string(c), "_", "0", "9", "fn", "Zz"} {
			long := string(c) + repeat(rest, 41)
			for _, n := range []int{1, 2, 39, 40} {
				if s := long[:n]; !slices.Contains(language, s) {
					lexed(t, s, name(0, s))
					lexed(t, s+" "+s, name(0, s), name(n+1, s))
				}
			}
			refused(t, long[:41], api.ErrLex, 0)
			refused(t, long[:40]+" "+long[:41]+" a", api.ErrLex, 41)
			refused(t, long[:41]+"//", api.ErrLex, 0)
		}
	}
	for _, n := range []int{42, 79, 80, 81, 255, 256, 257, 65535, 65536} {
		refused(t, repeat("a", n), api.ErrLex, 0)
	}
	// Two names that would be too long together.
	a := repeat("a", 40)
	lexed(t, a+"+"+a, name(0, a), mark(40, "+"), name(41, a))
}

// P11.1: numbers

func TestNumbers(t *testing.T) {
	for _, x := range []struct {
		s string
		n int
	}{
		{"0", 0}, {"1", 1}, {"9", 9}, {"10", 10}, {"42", 42}, {"100", 100}, {"1234567890", 1234567890}, {"2147483647", 2147483647}, {"2147483648", 2147483648},
		{"4294967294", 4294967294}, {"4294967295", 4294967295},
		{"0x0", 0}, {"0x1", 1}, {"0xa", 10}, {"0xf", 15}, {"0x10", 16}, {"0x1f", 31}, {"0xff", 255}, {"0x01", 1}, {"0x00", 0}, {"0x00000000", 0}, {"0x00000001", 1},
		{"0x7fffffff", 2147483647}, {"0x80000000", 2147483648}, {"0xffffffff", 4294967295}, {"0x12345678", 0x12345678}, {"0x9abcdef0", 0x9abcdef0}, {"0xbad", 0xbad}, {"0xe1", 0xe1},
	} {
		lexed(t, x.s, numeral(0, x.n))
		lexed(t, " "+x.s+"\n", numeral(1, x.n))
		lexed(t, x.s+"+"+x.s, numeral(0, x.n), mark(len(x.s), "+"), numeral(len(x.s)+1, x.n))
		lexed(t, "-"+x.s, mark(0, "-"), numeral(1, x.n))
	}
}

func TestThoseThatAreNoNumbers(t *testing.T) {
	for _, s := range []string{
		"00", "01", "000", "007", "08", "09", "010", "0123456789", "00x1", "0" + repeat("0", 100),
		"4294967296", "4294967297", "4294967300", "4294967305", "4300000000", "5000000000", "9999999999", "10000000000", "42949672950", "42949672960",
		"9223372036854775807", "9223372036854775808", "18446744073709551615", "18446744073709551616", "18446744073709551617", "36893488147419103232",
		"340282366920938463463374607431768211456", "1" + repeat("0", 100), repeat("9", 65536), "1" + repeat("0", 65535),
		"0x", "0x000000000", "0x000000001", "0x100000000", "0x123456789", "0xffffffff0", "0x0ffffffff", "0x10000000000000000", "0x" + repeat("0", 100), "0x" + repeat("f", 65534),
		"0X", "0X1", "0X1f", "0xA", "0xF", "0x1F", "0xaB", "0xABCDEF", "0xg", "0xG", "0xx", "0x0x1", "0x_", "0x1_", "0x_1", "0x1g", "0b1", "0o7", "0b", "0o17",
		"1a", "1x", "0a", "0_", "0e", "0u", "1_000", "1e3", "1_", "12ab", "9z", "9Z", "1u", "3fn", "0xfn", "1L", "0x1u", "32u", "1x1", "10x1", "2x",
	} {
		refused(t, s, api.ErrLex, 0)
		refused(t, "a "+s[:min(len(s), 65534)], api.ErrLex, 2)
		if len(s) < 65536 {
			refused(t, s+";", api.ErrLex, 0)
		}
	}
}

func TestNumbersOfEachLength(t *testing.T) {
	for n := 1; n <= 30; n++ {
		for _, d := range tenDigits {
			asSpelled(t, repeat(string(d), n))
			asSpelled(t, "1"+repeat("0", n-1)+string(d))
			asSpelled(t, "429496729"+repeat(string(d), n))
		}
		for _, d := range tenDigits + lowercase + capitals + "_" {
			asSpelled(t, "0x"+repeat(string(d), n))
			asSpelled(t, "0x"+repeat("0", n-1)+string(d))
			asSpelled(t, "0x"+string(d)+repeat("f", n))
		}
	}
	for n := 4294967295 - 300; n < 4294967295+300; n++ {
		asSpelled(t, strconv.Itoa(n))
		asSpelled(t, "0x"+strconv.FormatInt(int64(n), 16))
	}
}

func TestEachLetterBehindANumber(t *testing.T) {
	for _, s := range []string{"0", "1", "42", "4294967295", "0x0", "0xff"} {
		for _, c := range allLetters {
			// A letter may be another digit in base 16, or make it so; else there is no number.
			if strings.HasPrefix(s, "0x") && strings.ContainsRune("abcdef", c) {
				n, _ := strconv.ParseInt(s[2:]+string(c), 16, 64)
				lexed(t, s+string(c), numeral(0, int(n)))
				continue
			}
			refused(t, s+string(c), api.ErrLex, 0)
			refused(t, "("+s+string(c), api.ErrLex, 1)
		}
	}
}

func TestNumbersAreHeldToNoName(t *testing.T) {
	// 40 bytes are a bound of names alone: a number has a bound of its own.
	refused(t, repeat("0", 40), api.ErrLex, 0)
	refused(t, "0x"+repeat("0", 38), api.ErrLex, 0)
	refused(t, repeat("1", 40), api.ErrLex, 0)
}

// P11.1: signs and other bytes

func TestEachSign(t *testing.T) {
	for _, s := range signs {
		lexed(t, s, mark(0, s))
		lexed(t, " "+s+" ", mark(1, s))
		lexed(t, "a"+s+"b", name(0, "a"), mark(1, s), name(1+len(s), "b"))
		lexed(t, "1"+s+"2", numeral(0, 1), mark(1, s), numeral(1+len(s), 2))
		lexed(t, "if"+s+"fn", word(0, "if"), mark(2, s), word(2+len(s), "fn"))
		lexed(t, s+"//", mark(0, s))
		refused(t, s+"/", api.ErrLex, len(s))
	}
}

// greedy tells the signs of a text that has nothing but signs, each as long as it may be.
func greedy(s string) []api.Token {
	var l []api.Token
	for at := 0; at < len(s); {
		n := 1
		if at+2 <= len(s) && slices.Contains(signs, s[at:at+2]) {
			n = 2
		}
		l = append(l, mark(at, s[at:at+n]))
		at += n
	}
	return l
}

func TestSignsBehindOneAnother(t *testing.T) {
	for _, a := range signs {
		for _, b := range signs {
			lexed(t, a+b, greedy(a+b)...)
			lexed(t, a+" "+b, mark(0, a), mark(len(a)+1, b))
			for _, c := range signs {
				lexed(t, a+b+c, greedy(a+b+c)...)
			}
		}
	}
}

func TestSignsThatBeginAnotherOne(t *testing.T) {
	lexed(t, "<<<", mark(0, "<<"), mark(2, "<"))
	lexed(t, "<<<<", mark(0, "<<"), mark(2, "<<"))
	lexed(t, "<<=", mark(0, "<<"), mark(2, "="))
	lexed(t, "<=<", mark(0, "<="), mark(2, "<"))
	lexed(t, "<==", mark(0, "<="), mark(2, "="))
	lexed(t, "<<==", mark(0, "<<"), mark(2, "=="))
	lexed(t, ">>>", mark(0, ">>"), mark(2, ">"))
	lexed(t, ">>=", mark(0, ">>"), mark(2, "="))
	lexed(t, ">=>", mark(0, ">="), mark(2, ">"))
	lexed(t, ">==", mark(0, ">="), mark(2, "="))
	lexed(t, "===", mark(0, "=="), mark(2, "="))
	lexed(t, "====", mark(0, "=="), mark(2, "=="))
	lexed(t, "!==", mark(0, "!="), mark(2, "="))
	lexed(t, "!!=", mark(0, "!"), mark(1, "!="))
	lexed(t, "=!=", mark(0, "="), mark(1, "!="))
	lexed(t, "=<", mark(0, "="), mark(1, "<"))
	lexed(t, "=>", mark(0, "="), mark(1, ">"))
	lexed(t, "=<<", mark(0, "="), mark(1, "<<"))
	lexed(t, "<>", mark(0, "<"), mark(1, ">"))
	lexed(t, "><", mark(0, ">"), mark(1, "<"))
	lexed(t, "=!", mark(0, "="), mark(1, "!"))
	lexed(t, "&&", mark(0, "&"), mark(1, "&"))
	lexed(t, "||", mark(0, "|"), mark(1, "|"))
	lexed(t, "++", mark(0, "+"), mark(1, "+"))
	lexed(t, "->", mark(0, "-"), mark(1, ">"))
	lexed(t, ":=", mark(0, ":"), mark(1, "="))
	lexed(t, "+=", mark(0, "+"), mark(1, "="))
	lexed(t, "~=", mark(0, "~"), mark(1, "="))
	lexed(t, "< <", mark(0, "<"), mark(2, "<"))
	lexed(t, "=//\n=", mark(0, "="), mark(4, "="))
	lexed(t, "!\n=", mark(0, "!"), mark(2, "="))
}

func TestEachByte(t *testing.T) {
	for b := range 256 {
		c := string([]byte{byte(b)})
		switch {
		case strings.Contains(" \t\n\r", c):
			lexed(t, c)
			lexed(t, "a"+c+"b", name(0, "a"), name(2, "b"))
		case strings.Contains(allLetters, c):
			lexed(t, c, name(0, c))
			lexed(t, "a"+c+"b", name(0, "a"+c+"b"))
		case strings.Contains(tenDigits, c):
			lexed(t, c, numeral(0, b-'0'))
			lexed(t, "a"+c+"b", name(0, "a"+c+"b"))
		case strings.Contains("(){}[],;:=+-*&|^~!<>", c):
			lexed(t, c, mark(0, c))
			lexed(t, "a"+c+"b", name(0, "a"), mark(1, c), name(2, "b"))
		default:
			refused(t, c, api.ErrLex, 0)
			for _, ahead := range []string{" ", "a", "fn", "0", "0x1", "+", "<<", "<", "// x\n", "a b ", repeat("(", 99)} {
				refused(t, ahead+c, api.ErrLex, len(ahead))
				refused(t, ahead+c+"b", api.ErrLex, len(ahead))
			}
		}
	}
}

func TestEachTwoBytes(t *testing.T) {
	for a := range 256 {
		for b := range 256 {
			asSpelled(t, string([]byte{byte(a), byte(b)}))
			asSpelled(t, "x"+string([]byte{byte(a), byte(b)})+"=")
		}
	}
}

func TestLettersOfOtherTongues(t *testing.T) {
	for _, s := range []string{"é", "ß", "я", "世", "\uff41", "\uff11", "\u0663", "µ", "\u017f", "\u212a"} {
		refused(t, s, api.ErrLex, 0)
		refused(t, "a"+s, api.ErrLex, 1)
		refused(t, "1"+s, api.ErrLex, 1)
		refused(t, "ma"+s+"k", api.ErrLex, 2)
		lexed(t, "a//"+s+"\nb", name(0, "a"), name(len(s)+4, "b"))
	}
}

// P11.1: how long a text may be

func TestGreatestTexts(t *testing.T) {
	for _, piece := range []string{" ", "\n", "/", "(", "<", "a", "1", "0", "\x00", "\xff", "a ", "//\n", "x=", "01 ", repeat("a", 40) + "\n", "<<= "} {
		s := repeat(piece, 65537)
		asSpelled(t, s[:65535])
		asSpelled(t, s[:65536])
		refused(t, s[:65537], api.ErrBig, 0)
		refused(t, s[:65536]+"\n", api.ErrBig, 0)
		refused(t, "\n"+s[:65536], api.ErrBig, 0)
	}
	for _, n := range []int{65538, 70000, 131072, 1 << 20} {
		refused(t, repeat(" ", n), api.ErrBig, 0)
		refused(t, repeat("\xff", n), api.ErrBig, 0)
	}
	lexed(t, repeat(" ", 65535)+"a", name(65535, "a"))
	lexed(t, "a"+repeat(" ", 65535), name(0, "a"))
	lexed(t, "//"+repeat("x", 65534))
	lexed(t, "//"+repeat("x", 65532)+"\na", name(65535, "a"))
	refused(t, repeat(" ", 65535)+"\x00", api.ErrLex, 65535)
	refused(t, repeat("(", 65535)+"/", api.ErrLex, 65535)
	refused(t, "//"+repeat("x", 65532)+"\n/", api.ErrLex, 65535)
}

func TestAsManyTokensAsBytes(t *testing.T) {
	var want []api.Token
	for k := range 65536 {
		want = append(want, mark(k, "("))
	}
	lexed(t, repeat("(", 65536), want...)
}

// P11.1: places, and which error is told

func TestPlaces(t *testing.T) {
	for ahead := range 70 {
		for _, a := range parters {
			gap := repeat(a, ahead)
			lexed(t, gap+"a"+gap+"=="+gap+"12;", spread(ahead)...)
			refused(t, gap+"#", api.ErrLex, ahead)
			refused(t, gap+"a = 01;", api.ErrLex, ahead+4)
			refused(t, gap+"a = 01; #", api.ErrLex, ahead+4)
		}
	}
}

// spread tells the tokens of a, == and 12; with so many blanks ahead of each but the last.
func spread(gap int) []api.Token {
	if gap == 0 {
		return []api.Token{name(0, "a"), mark(1, "=="), numeral(3, 12), mark(5, ";")}
	}
	return []api.Token{name(gap, "a"), mark(2*gap+1, "=="), numeral(3*gap+3, 12), mark(3*gap+5, ";")}
}

func TestFirstErrorOfSeveral(t *testing.T) {
	wrong := []string{"#", "01", "/", "0x", "4294967296", "1a", "\xff", "\x00", repeat("b", 41), "0xA", "\"", "é"}
	right := []string{"a", "fn", "12", "<<", "// #\n", "\t", "(", "0xff", "_"}
	for _, a := range wrong {
		for _, b := range wrong {
			refused(t, a+" "+b, api.ErrLex, 0)
			refused(t, a+"\n"+b, api.ErrLex, 0)
			for _, r := range right {
				refused(t, r+" "+a+" "+b, api.ErrLex, len(r)+1)
				refused(t, r+" "+a+" "+r+" "+b+" "+r, api.ErrLex, len(r)+1)
				refused(t, a+" "+r+" "+b, api.ErrLex, 0)
			}
		}
	}
}

func TestNoTokensBesideAnError(t *testing.T) {
	for _, s := range []string{"a b c #", "#", "fn main() { } 00", repeat("(", 65535) + "#", repeat("(", 65537), repeat("a ", 1000) + repeat("a", 41)} {
		if l, bad := Lex(s); bad == (api.Bad{}) || len(l) != 0 {
			t.Errorf("Lex(%s) = %d tokens, %+v, want an error and no tokens", short(s), len(l), bad)
		}
	}
}

// texts are texts of which some are right and some are not, ending in each way that a text may end.
var texts = []string{
	"", " ", "\n", "\r", "a", "fn", "0", "0x", "0x1", "12", "01", "<", "<<", "=", "!", ">", "/", "//", "// x", "///", "//\n", "a//b", "a //b\n", "// /\n/",
	"fn f(pub x: u32) { // y\n  let y = x<<=0xff; }", "fn g() {}", "a b", "a\tb\r\n", "#", "a #", "a # b", "\xff", "// \xff", "4294967295", "4294967296", "9", "e", "x1f", "f", "_",
	repeat("a", 40), repeat("a", 41), repeat("a", 20), "return", "re", "turn", "u", "32", "8", "(", ")", "[1]", "}", "a=", "=b", "\x00", "é", "!!", "<=>=",
}

// P11.2

func TestJoined(t *testing.T) {
	for _, a := range texts {
		for _, b := range texts {
			joined(t, a, b)
		}
	}
}

// joined fails if a text behind another one, with a line's end between, is not told as the two of them are.
func joined(t *testing.T, a, b string) {
	t.Helper()
	further := len(a) + 1
	first, bad := Lex(a)
	if bad != (api.Bad{}) {
		refused(t, a+"\n"+b, bad.Err, bad.Pos)
		return
	}
	second, bad := Lex(b)
	if bad != (api.Bad{}) {
		refused(t, a+"\n"+b, bad.Err, bad.Pos+further)
		return
	}
	want := first[:len(first)-1]
	for _, x := range second[:len(second)-1] {
		x.Pos += further
		want = append(want, x)
	}
	lexed(t, a+"\n"+b, want...)
}

func TestJoinedByHand(t *testing.T) {
	lexed(t, "a\nb", name(0, "a"), name(2, "b"))
	lexed(t, "<\n<", mark(0, "<"), mark(2, "<"))
	lexed(t, "0\nx1", numeral(0, 0), name(2, "x1"))
	lexed(t, "a // b\nc", name(0, "a"), name(7, "c"))
	lexed(t, "//\n//")
	lexed(t, "fn\nf", word(0, "fn"), name(3, "f"))
	refused(t, "/\n/", api.ErrLex, 0)
	refused(t, "a\n/", api.ErrLex, 2)
	refused(t, "#\na", api.ErrLex, 0)
	refused(t, "a //#\n#", api.ErrLex, 6)
}

func TestJoinedOfChance(t *testing.T) {
	r := rand.New(rand.NewPCG(11, 2))
	for range 20000 {
		joined(t, chance(r), chance(r))
	}
}

func TestJoinedGreatOnes(t *testing.T) {
	for _, n := range []int{0, 1, 1000, 32767, 32768, 65534, 65535} {
		joined(t, repeat("(", n), repeat(")", 65535-n))
		joined(t, repeat(" ", n), repeat("a ", 32768)[:65535-n])
		joined(t, "//"+repeat("/", max(n-2, 0)), repeat("1 ", 32768)[:65535-max(n, 2)])
		refused(t, repeat("(", n)+"\n"+repeat(")", 65536-n), api.ErrBig, 0)
	}
}

// P11.3

// written tells tokens as a text with a blank between them, and ahead of the first one and behind the last one, and those that such a text has.
func written(l []api.Token, blank func() string, numbers func(int) string) (string, []api.Token) {
	var b strings.Builder
	var want []api.Token
	b.WriteString(blank())
	for _, x := range l {
		if x.Kind == api.KEnd {
			continue
		}
		x.Pos = b.Len()
		want = append(want, x)
		if x.Kind == api.KNumber {
			b.WriteString(numbers(x.Num))
		} else {
			b.WriteString(x.Text)
		}
		b.WriteString(blank())
	}
	return b.String(), want
}

// hexadecimal tells a number in base 16.
func hexadecimal(n int) string { return "0x" + strconv.FormatInt(int64(n), 16) }

// again fails if the tokens of a text, written with blanks between, are not those tokens.
func again(t *testing.T, s string) {
	t.Helper()
	l, bad := Lex(s)
	if bad != (api.Bad{}) {
		return
	}
	for _, a := range append([]string{"\r\n", "  \t", "//\n", " // a + 01 #\n"}, parters...) {
		for _, f := range []func(int) string{strconv.Itoa, hexadecimal} {
			text, want := written(l, func() string { return a }, f)
			if len(text) <= Most {
				lexed(t, text, want...)
			}
		}
	}
}

func TestAgain(t *testing.T) {
	for _, s := range texts {
		again(t, s)
	}
	for _, a := range signs {
		for _, b := range signs {
			for _, c := range signs {
				again(t, a+b+c)
			}
		}
	}
	again(t, strings.Join(language, " "))
	again(t, strings.Join(signs, " "))
	again(t, repeat("(", 20000))
}

func TestAgainOfChance(t *testing.T) {
	r := rand.New(rand.NewPCG(11, 3))
	for range 20000 {
		var l []api.Token
		for range r.IntN(20) {
			l = append(l, anyToken(r))
		}
		s, want := written(l, func() string { return parters[r.IntN(len(parters))] }, strconv.Itoa)
		lexed(t, s, want...)
	}
}

// anyToken tells a token of chance, without its place.
func anyToken(r *rand.Rand) api.Token {
	switch r.IntN(4) {
	case 0:
		return word(0, language[r.IntN(len(language))])
	case 1:
		return mark(0, signs[r.IntN(len(signs))])
	case 2:
		return numeral(0, int(r.Uint32()>>r.IntN(32)))
	}
	s := []byte{allLetters[r.IntN(len(allLetters))]}
	for range r.IntN(40) {
		s = append(s, (allLetters + tenDigits)[r.IntN(63)])
	}
	if slices.Contains(language, string(s)) {
		return word(0, string(s))
	}
	return name(0, string(s))
}

// All together

// chance tells a text of chance, of pieces that meet in ways that matter.
func chance(r *rand.Rand) string {
	var b strings.Builder
	for range r.IntN(12) {
		switch r.IntN(10) {
		case 0:
			b.WriteByte(byte(r.IntN(128)))
		case 1, 2:
			b.WriteString(parters[r.IntN(len(parters))])
		case 3:
			b.WriteString([]string{"/", "//", "// x", "//\n", "a", "x", "0", "0x", "f", "_", "u", "8"}[r.IntN(12)])
		case 4, 5:
			b.WriteString(strconv.Itoa(int(r.Uint64() >> 28 >> r.IntN(36))))
		default:
			b.WriteString(anyToken(r).Text)
		}
	}
	if r.IntN(20) == 0 {
		b.WriteByte(byte(r.IntN(256)))
	}
	return b.String()
}

func TestTextsOfChance(t *testing.T) {
	r := rand.New(rand.NewPCG(11, 1))
	right := 0
	for range 100000 {
		s := chance(r)
		asSpelled(t, s)
		if _, bad := Lex(s); bad == (api.Bad{}) {
			right++
		}
	}
	if right < 20000 || right > 80000 {
		t.Errorf("%d of 100000 texts are right: too few of one kind", right)
	}
}

func TestBytesOfChance(t *testing.T) {
	r := rand.New(rand.NewPCG(11, 4))
	const few = "ab_0x19fFnui8/ \n\r\t<>=!(+\x00\xff"
	for range 100000 {
		s := make([]byte, r.IntN(10))
		for k := range s {
			s[k] = few[r.IntN(len(few))]
		}
		asSpelled(t, string(s))
	}
}

// What holds in every layer

func TestAnswersAreNewMemory(t *testing.T) {
	text := strings.Clone("fn name + 12 << name fn +")
	first, _ := Lex(text)
	second, _ := Lex(text)
	from := uintptr(unsafe.Pointer(unsafe.StringData(text)))
	for k, x := range first {
		at := uintptr(unsafe.Pointer(unsafe.StringData(x.Text)))
		if x.Text != "" && at >= from && at < from+uintptr(len(text)) {
			t.Errorf("the text of %+v is the memory that was handed in", x)
		}
		for j, y := range first {
			if j != k && x.Text != "" && y.Text != "" && unsafe.StringData(x.Text) == unsafe.StringData(y.Text) {
				t.Errorf("the texts of tokens %d and %d are one memory", k, j)
			}
		}
		first[k] = api.Token{}
	}
	third, _ := Lex(text)
	if !slices.Equal(second, third) {
		t.Errorf("%+v, and once more %+v", second, third)
	}
}

func TestNothingIsKept(t *testing.T) {
	l, bad := Lex("a b c")
	for _, s := range texts {
		Lex(s)
		if m, worse := Lex("a b c"); bad != worse || !slices.Equal(l, m) {
			t.Fatalf("Lex(\"a b c\") = %+v, %+v behind Lex(%s), %+v, %+v ahead of it", m, worse, short(s), l, bad)
		}
	}
}
