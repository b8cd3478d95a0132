package tests

import (
	"fmt"
	"math"
	"regexp"
	"slices"
	"strconv"
	"strings"
	"testing"
	"unsafe"

	"loop.example/kilnyard/impl"
)

const clayWordList = "and def else emit false fn for has if in let load none not or then true"

const clayMarkList = "( ) [ ] { } , ; : . = == != < <= > >= + - * / % =>"

// clayPiece is a piece of text beside the token that it is.
type clayPiece struct {
	piece string
	token impl.ClayToken
}

func clayName(s string) clayPiece {
	return clayPiece{s, impl.ClayToken{Kind: impl.ClayTokName, Text: s}}
}

func clayWord(s string) clayPiece {
	return clayPiece{s, impl.ClayToken{Kind: impl.ClayTokWord, Text: s}}
}

func clayMark(s string) clayPiece {
	return clayPiece{s, impl.ClayToken{Kind: impl.ClayTokMark, Text: s}}
}

func clayInt(n int64) clayPiece {
	return clayPiece{strconv.FormatInt(n, 10), impl.ClayToken{Kind: impl.ClayTokInt, N: n}}
}

func clayText(piece, text string) clayPiece {
	return clayPiece{piece, impl.ClayToken{Kind: impl.ClayTokText, Text: text}}
}

// wantTokens asks that src is read without a fault as just these tokens.
func wantTokens(t *testing.T, src string, want []impl.ClayToken) {
	t.Helper()
	got, fault := impl.ClayScan(src)
	if fault != (impl.ClayFault{}) {
		t.Errorf("%.60q: fault %+v", src, fault)
	}
	if !slices.Equal(got, want) {
		t.Errorf("%.60q: got %+v, want %+v", src, got, want)
	}
}

// wantPieces asks that the pieces, behind lead and each with the next one of gaps behind it, are read as their tokens, and each alone as its own.
func wantPieces(t *testing.T, pieces []clayPiece, lead string, gaps ...string) {
	t.Helper()
	src := lead
	var want []impl.ClayToken
	for i, p := range pieces {
		wantTokens(t, p.piece, []impl.ClayToken{p.token})
		token := p.token
		token.At = len(src)
		want = append(want, token)
		src += p.piece
		if len(gaps) > 0 {
			src += gaps[i%len(gaps)]
		}
	}
	wantTokens(t, src, want)
}

func wantFault(t *testing.T, src string, code, at int) {
	t.Helper()
	got, fault := impl.ClayScan(src)
	if fault != (impl.ClayFault{Code: code, At: at}) {
		t.Errorf("%.60q: got %+v, want code %d at %d", src, fault, code, at)
	}
	if len(got) != 0 {
		t.Errorf("%.60q: %d tokens beside a fault", src, len(got))
	}
}

func TestClayScanConstants(t *testing.T) {
	limits := [3]int{impl.ClayMaxSrc, impl.ClayMaxName, impl.ClayMaxText}
	if limits != [3]int{8000, 30, 1000} {
		t.Errorf("limits %v", limits)
	}
	kinds := [5]int{impl.ClayTokName, impl.ClayTokWord, impl.ClayTokInt, impl.ClayTokText, impl.ClayTokMark}
	if kinds != [5]int{1, 2, 3, 4, 5} {
		t.Errorf("kinds %v", kinds)
	}
}

func everyKindOfPiece() []clayPiece {
	pieces := []clayPiece{
		clayName("a"), clayName("_"), clayName("__0"), clayName("a_1z9"), clayName("x86"),
		clayInt(0), clayInt(7), clayInt(10), clayInt(1234567890), clayInt(math.MaxInt64),
		clayText(`""`, ""), clayText(`"a b"`, "a b"), clayText(`"# no note"`, "# no note"),
		clayText(`"\00\ff\0a"`, "\x00\xff\n"), clayText(`"\22\5c"`, `"\`), clayText(`"\41A\61"`, "AAa"),
	}
	for _, w := range strings.Fields(clayWordList) {
		pieces = append(pieces, clayWord(w))
	}
	for _, m := range strings.Fields(clayMarkList) {
		pieces = append(pieces, clayMark(m))
	}
	return pieces
}

// Promise 1.
func TestClayScanPiecesWithGaps(t *testing.T) {
	pieces := everyKindOfPiece()
	wantPieces(t, pieces, "", " ")
	wantPieces(t, pieces, "\n", "\n")
	wantPieces(t, pieces, "#\n", "#\n")
	wantPieces(t, pieces, "", " ", "\n", "  \n ", "# a note\n", " # \"not a text\n# @\x80\t one more\n\n")
	slices.Reverse(pieces)
	wantPieces(t, pieces, " #end\n", "\n")
}

// Promise 1, for pieces between which no gap is needed.
func TestClayScanPiecesWithoutGaps(t *testing.T) {
	wantPieces(t, []clayPiece{
		clayWord("let"), clayMark("("), clayName("a"), clayMark("=>"), clayInt(12), clayText(`"x"`, "x"), clayText(`"y"`, "y"),
		clayWord("has"), clayMark("-"), clayMark("-"), clayInt(0), clayMark("."), clayName("b"), clayText(`"\7a"`, "z"), clayInt(5),
		clayMark("!="), clayMark("="), clayMark("["), clayMark("]"), clayMark("{"), clayMark("}"), clayName("_9"), clayMark(";"),
	}, "")
}

func TestClayScanOnlyGaps(t *testing.T) {
	for _, src := range []string{"", " ", "\n", "#", "##", "#\n", "\n#", " \n # a \n\n", "# @\x00\x80\"", "#\r\t\n #"} {
		wantTokens(t, src, nil)
	}
	wantTokens(t, "#a\nb#c", []impl.ClayToken{{Kind: impl.ClayTokName, Text: "b", At: 3}})
	wantTokens(t, "#a\n#b\nc\n", []impl.ClayToken{{Kind: impl.ClayTokName, Text: "c", At: 6}})
}

func TestClayScanWords(t *testing.T) {
	for _, w := range strings.Fields(clayWordList) {
		wantPieces(t, []clayPiece{clayWord(w)}, "")
		for _, n := range []string{w + "s", w + "_", w + "0", w + w, "_" + w, "a" + w, w[:1] + "_" + w[1:]} {
			wantPieces(t, []clayPiece{clayName(n)}, "")
		}
		wantPieces(t, []clayPiece{clayWord(w), clayMark("."), clayWord(w)}, "")
		wantFault(t, strings.ToUpper(w), 2, 0)
	}
	for _, n := range []string{"iff", "i", "f", "nott", "no", "tru", "e", "loads", "emitted", "el", "is", "when", "while", "func", "nil", "null"} {
		wantPieces(t, []clayPiece{clayName(n)}, " ")
	}
}

func TestClayScanNames(t *testing.T) {
	for b := range 256 {
		s := string([]byte{byte(b)})
		begins := b >= 'a' && b <= 'z' || b == '_'
		if begins {
			wantPieces(t, []clayPiece{clayName(s)}, "")
		}
		if begins || b >= '0' && b <= '9' {
			wantPieces(t, []clayPiece{clayName("q" + s + "q")}, "")
		}
	}
	for size := 1; size <= impl.ClayMaxName; size++ {
		wantPieces(t, []clayPiece{clayName(strings.Repeat("z", size))}, " ")
	}
	most := strings.Repeat("a_9", 10)
	wantPieces(t, []clayPiece{clayName(most), clayMark("."), clayName(most)}, "")
	wantFault(t, most+"0", 5, 0)
	wantFault(t, most+"_", 5, 0)
	wantFault(t, " #\n"+most+"a", 5, 3)
	wantFault(t, "a "+strings.Repeat("n", 7000)+" @", 5, 2)
}

func TestClayScanNumbers(t *testing.T) {
	for _, n := range []int64{0, 1, 9, 10, 99, 100, 1 << 31, 1 << 53, math.MaxInt64 - 1, math.MaxInt64} {
		wantPieces(t, []clayPiece{clayInt(n), clayMark("-"), clayInt(n)}, "")
	}
	for _, n := range []string{
		"9223372036854775808", "9223372036854775810", "9999999999999999999", "10000000000000000000",
		"18446744073709551615", "18446744073709551616", "18446744073709551617", "36893488147419103233",
		strings.Repeat("9", 100), "1" + strings.Repeat("0", 7000),
	} {
		wantFault(t, n, 3, 0)
		wantFault(t, "a = "+n+";", 3, 4)
	}
	for _, n := range []string{"00", "01", "007", "000000000000000000000000", "09223372036854775807", "0_", "0x1", "0b1", "0a"} {
		wantFault(t, n, 3, 0)
		wantFault(t, "-"+n, 3, 1)
	}
	wantPieces(t, []clayPiece{clayInt(0), clayInt(0), clayInt(1)}, "", " ")
}

func TestClayScanBytesBehindNumbers(t *testing.T) {
	for b := range 256 {
		c := byte(b)
		src := "  7" + string([]byte{c})
		switch {
		case c >= 'a' && c <= 'z' || c == '_':
			wantFault(t, src, 3, 2)
			wantFault(t, "9223372036854775807"+src[3:], 3, 0)
			wantFault(t, src+"!", 3, 2)
		case c >= '0' && c <= '9':
			wantTokens(t, src, []impl.ClayToken{{Kind: impl.ClayTokInt, N: 70 + int64(c-'0'), At: 2}})
		case c == '"':
			wantFault(t, src, 4, 3)
		case strings.IndexByte(" \n#", c) >= 0:
			wantTokens(t, src, []impl.ClayToken{{Kind: impl.ClayTokInt, N: 7, At: 2}})
		case strings.IndexByte("()[]{},;:.=<>+-*/%", c) >= 0:
			wantTokens(t, src, []impl.ClayToken{{Kind: impl.ClayTokInt, N: 7, At: 2}, {Kind: impl.ClayTokMark, Text: src[3:], At: 3}})
		default:
			wantFault(t, src, 2, 3)
		}
	}
}

func TestClayScanTextBytes(t *testing.T) {
	for b := range 256 {
		s := string([]byte{byte(b)})
		written := fmt.Sprintf(`\%02x`, b)
		wantPieces(t, []clayPiece{clayText(`"`+written+`"`, s), clayText(`"1`+written+`2`+written+`"`, "1"+s+"2"+s)}, "")
		if b >= 32 && b <= 126 && b != '"' && b != '\\' {
			wantPieces(t, []clayPiece{clayText(`"`+s+`"`, s), clayText(`"`+written+s+written+`"`, s+s+s)}, "")
		} else if b != '"' {
			wantFault(t, `"`+s+`"`, 4, 0)
			wantFault(t, ` "a`+s+`" b`, 4, 1)
		}
		digit := b >= '0' && b <= '9' || b >= 'a' && b <= 'f'
		if !digit {
			wantFault(t, `"\`+s+`0"`, 4, 0)
			wantFault(t, `"\0`+s+`"`, 4, 0)
			wantFault(t, `x "\0`+s+`00"`, 4, 2)
		}
	}
	wantPieces(t, []clayPiece{clayText(`"\411"`, "A1"), clayText(`"\5c41"`, `\41`), clayText(`"\22"`, `"`)}, "")
}

func TestClayScanTextsNotEnded(t *testing.T) {
	for _, src := range []string{`"`, `"a`, `"a # b`, `"\22`, `"\`, `"\4`, `"\4"`, `"\"`, `"\""`, "\"a\nb\"", "\"a\n"} {
		wantFault(t, src, 4, 0)
		wantFault(t, "a #\"\n"+src, 4, 5)
		wantFault(t, `""`+src, 4, 2)
	}
}

func TestClayScanLongTexts(t *testing.T) {
	most := strings.Repeat("x", impl.ClayMaxText)
	wantPieces(t, []clayPiece{clayText(`"`+most+`"`, most), clayText(`"`+most[1:]+`\78"`, most)}, "", " ")
	wantPieces(t, []clayPiece{clayText(`"`+strings.Repeat(`\78`, impl.ClayMaxText)+`"`, most)}, "")
	wantFault(t, `"`+most+`y"`, 5, 0)
	wantFault(t, ` "`+most+`\00"`, 5, 1)
	wantFault(t, `a "`+strings.Repeat(`\00`, impl.ClayMaxText+1)+`"`, 5, 2)
	wantFault(t, `"`+strings.Repeat("x", impl.ClayMaxSrc-2)+`"`, 5, 0)
	// The lesser code counts where a text is too long and not written so.
	wantFault(t, `"`+most+`y`, 4, 0)
	wantFault(t, `"`+most+"y\n\"", 4, 0)
	wantFault(t, `"`+most+`y\0g"`, 4, 0)
}

func TestClayScanMarks(t *testing.T) {
	marks := strings.Fields(clayMarkList)
	if len(marks) != 23 {
		t.Fatalf("%d marks", len(marks))
	}
	for _, a := range marks {
		for _, b := range marks {
			if !slices.Contains(marks, a+b[:1]) {
				wantPieces(t, []clayPiece{clayMark(a), clayMark(b)}, "")
			}
			wantPieces(t, []clayPiece{clayMark(a), clayMark(b)}, "", " ")
			wantPieces(t, []clayPiece{clayMark(a), clayMark(b)}, "", "#\n")
		}
	}
	for _, parts := range []string{
		"== =", "== >", "=> =", "=> >", "<= =", "<= >", ">= =", ">= >", "!= =", "!= >", "< <=", "> >=", "== ==", "== !=", "=> ==", ". .", "* *",
	} {
		var pieces []clayPiece
		for m := range strings.FieldsSeq(parts) {
			pieces = append(pieces, clayMark(m))
		}
		wantPieces(t, pieces, "")
	}
	wantFault(t, "!", 2, 0)
	wantFault(t, "a ! = b", 2, 2)
	wantFault(t, "=!", 2, 1)
	wantFault(t, "!!=", 2, 0)
}

func TestClayScanEveryFirstByte(t *testing.T) {
	const begins = " \n#()[]{},;:.=<>+-*/%_0123456789abcdefghijklmnopqrstuvwxyz"
	for b := range 256 {
		s := string([]byte{byte(b)})
		switch {
		case s == `"`:
			wantFault(t, "a "+s, 4, 2)
		case strings.Contains(begins, s):
			if _, fault := impl.ClayScan(s); fault != (impl.ClayFault{}) {
				t.Errorf("%q: %+v", s, fault)
			}
		default:
			wantFault(t, s, 2, 0)
			wantFault(t, "a# \n"+s+" 01 \"", 2, 4)
		}
	}
	for _, s := range []string{"\t", "\r", "é", "A", "@", "$", "&", "'", "?", "^", "`", "|", "~", "\\"} {
		wantFault(t, "1 "+s, 2, 2)
	}
}

func TestClayScanSizeOfSrc(t *testing.T) {
	src := strings.Repeat("a ", impl.ClayMaxSrc/2)
	got, fault := impl.ClayScan(src)
	if fault != (impl.ClayFault{}) || len(got) != impl.ClayMaxSrc/2 {
		t.Fatalf("%d tokens, %+v", len(got), fault)
	}
	for i, k := range got {
		if k != (impl.ClayToken{Kind: impl.ClayTokName, Text: "a", At: 2 * i}) {
			t.Fatalf("%d: %+v", i, k)
		}
	}
	if got, fault = impl.ClayScan(strings.Repeat(";", impl.ClayMaxSrc)); fault != (impl.ClayFault{}) || len(got) != impl.ClayMaxSrc {
		t.Errorf("%d tokens, %+v", len(got), fault)
	}
	for _, s := range []string{src + " ", src + "@", "@" + src, strings.Repeat("\"", impl.ClayMaxSrc+1), strings.Repeat("#", impl.ClayMaxSrc+1), strings.Repeat("0", 100000)} {
		wantFault(t, s, 1, 0)
	}
	wantTokens(t, strings.Repeat("#", impl.ClayMaxSrc), nil)
	wantFault(t, src[1:]+"@", 2, impl.ClayMaxSrc-1)
}

func TestClayScanFirstFaultCounts(t *testing.T) {
	long := strings.Repeat("n", impl.ClayMaxName+1)
	for _, c := range []struct {
		src      string
		code, at int
	}{
		{"a @ 01 \"", 2, 2}, {"a 01 @ \"", 3, 2}, {"a \"\x01\" @ 01", 4, 2}, {long + " @", 5, 0}, {"a\n" + long + " 01", 5, 2},
		{"1a @", 3, 0}, {"1 a01 01", 3, 6}, {"@" + long, 2, 0}, {"01" + long, 3, 0}, {"\"\" \"", 4, 3},
	} {
		wantFault(t, c.src, c.code, c.at)
	}
}

// clayRule is one form of token or gap, with what reads a piece of that form.
type clayRule struct {
	form *regexp.Regexp
	read func(piece string) (impl.ClayToken, int)
}

// clayRules are the forms of the document, written once more in another way.
func clayRules() []clayRule {
	return []clayRule{
		{regexp.MustCompile(`^[a-z_][a-z0-9_]*`), func(p string) (impl.ClayToken, int) {
			if len(p) > impl.ClayMaxName {
				return impl.ClayToken{}, 5
			}
			if slices.Contains(strings.Fields(clayWordList), p) {
				return clayWord(p).token, 0
			}
			return clayName(p).token, 0
		}},
		{regexp.MustCompile(`^[0-9][a-z0-9_]*`), func(p string) (impl.ClayToken, int) {
			n, err := strconv.ParseUint(p, 10, 64)
			if err != nil || n > math.MaxInt64 || strconv.FormatUint(n, 10) != p {
				return impl.ClayToken{}, 3
			}
			return clayInt(int64(n)).token, 0
		}},
		{regexp.MustCompile(`^"([ !#-\[\]-~]|\\[0-9a-f][0-9a-f])*"`), func(p string) (impl.ClayToken, int) {
			text, err := strconv.Unquote(strings.ReplaceAll(p, `\`, `\x`))
			if err != nil || len(text) > impl.ClayMaxText {
				return impl.ClayToken{}, 5
			}
			return clayText(p, text).token, 0
		}},
		{regexp.MustCompile(`^"`), func(string) (impl.ClayToken, int) { return impl.ClayToken{}, 4 }},
		{regexp.MustCompile(`^([=!<>]=|=>|[][(){},;:.=<>+*/%-])`), func(p string) (impl.ClayToken, int) { return clayMark(p).token, 0 }},
	}
}

var clayGaps = regexp.MustCompile(`^([ \n]|#[^\n]*)*`)

// scanByRules is what the rules make of src, with the end of each token.
func scanByRules(rules []clayRule, src string) (tokens []impl.ClayToken, ends []int, fault impl.ClayFault) {
	at := len(clayGaps.FindString(src))
	for at < len(src) {
		token, code, piece := impl.ClayToken{}, 2, ""
		for _, r := range rules {
			if piece = r.form.FindString(src[at:]); piece != "" {
				token, code = r.read(piece)
				break
			}
		}
		if code != 0 {
			return nil, nil, impl.ClayFault{Code: code, At: at}
		}
		token.At = at
		at += len(piece)
		tokens, ends = append(tokens, token), append(ends, at)
		at += len(clayGaps.FindString(src[at:]))
	}
	return tokens, ends, impl.ClayFault{}
}

// wantAsByRules also asks for promise 1 by the ends that the rules tell.
func wantAsByRules(t *testing.T, rules []clayRule, src string) {
	t.Helper()
	want, ends, fault := scanByRules(rules, src)
	got, gotFault := impl.ClayScan(src)
	if gotFault != fault || !slices.Equal(got, want) {
		t.Fatalf("%q: got %+v %+v, want %+v %+v", src, got, gotFault, want, fault)
	}
	for i, token := range got {
		if i > 0 && token.At <= got[i-1].At {
			t.Fatalf("%q: not in order: %+v", src, got)
		}
		piece := src[token.At:ends[i]]
		alone, pieceFault := impl.ClayScan(piece)
		token.At = 0
		if pieceFault != (impl.ClayFault{}) || !slices.Equal(alone, []impl.ClayToken{token}) {
			t.Fatalf("%q: %q alone: %+v %+v", src, piece, alone, pieceFault)
		}
	}
}

// Promise 1, for all short texts of bytes that have to do with each other.
func TestClayScanAllShortTexts(t *testing.T) {
	const bytes = "a0f1_\"\\=!<> \n#.@"
	rules := clayRules()
	var readOn func(src string, left int)
	readOn = func(src string, left int) {
		wantAsByRules(t, rules, src)
		for i := 0; left > 0 && i < len(bytes); i++ {
			readOn(src+bytes[i:i+1], left-1)
		}
	}
	readOn("", 4)
}

// Promise 1, for longer texts that are put together by a fixed rule.
func TestClayScanMixedTexts(t *testing.T) {
	pieces := everyKindOfPiece()
	gaps := []string{"", "", " ", "\n", "#x\n", " # \"\n  "}
	spoilt := []string{"@", "01", "\"", "!", "\t", "\"\\4\"", strings.Repeat("m", 31)}
	rules := clayRules()
	state := uint32(1)
	next := func(below int) int {
		state = state*1664525 + 1013904223
		return int(state>>8) % below
	}
	for range 4000 {
		var src strings.Builder
		for range next(12) {
			src.WriteString(pieces[next(len(pieces))].piece)
			src.WriteString(gaps[next(len(gaps))])
			if next(40) == 0 {
				src.WriteString(spoilt[next(len(spoilt))])
			}
		}
		wantAsByRules(t, rules, src.String())
	}
}

func FuzzClayScan(f *testing.F) {
	f.Add("let a_1=>==12# c\n\"x\\41\\0a\"has _b")
	rules := clayRules()
	f.Fuzz(func(t *testing.T, src string) {
		if len(src) <= impl.ClayMaxSrc {
			wantAsByRules(t, rules, src)
		}
	})
}

// sharesBytes says whether b lies inside a.
func sharesBytes(a, b string) bool {
	if len(a) == 0 || len(b) == 0 {
		return false
	}
	from := uintptr(unsafe.Pointer(unsafe.StringData(a)))
	at := uintptr(unsafe.Pointer(unsafe.StringData(b)))
	return at >= from && at < from+uintptr(len(a))
}

func TestClayScanAnswersNewMemory(t *testing.T) {
	src := string([]byte("let abc = \"text\" + 12; # note"))
	first, _ := impl.ClayScan(src)
	for _, k := range first {
		if sharesBytes(src, k.Text) {
			t.Errorf("%+v shares memory with src", k)
		}
	}
	want := slices.Clone(first)
	for i := range first {
		first[i] = impl.ClayToken{Kind: -1}
	}
	_ = append(first, impl.ClayToken{Kind: -2})
	second, fault := impl.ClayScan(src)
	if fault != (impl.ClayFault{}) || !slices.Equal(second, want) {
		t.Errorf("read again: %+v %+v", second, fault)
	}
}
