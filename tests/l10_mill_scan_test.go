package tests

import (
	"fmt"
	"math"
	"math/big"
	"regexp"
	"slices"
	"strconv"
	"strings"
	"testing"

	"loop.example/kilnyard/impl"
)

const millTypeWords = "bool text u8 u16 u32 u64 i8 i16 i32 i64"

const millOtherWords = "fn let if else while break continue return fail write say true false read has list tool arg len at cut find chr dec num"

const millMarkList = "( ) { } , ; = < > + - * / % & | ^ ! ~ -> == != <= >= << >> && ||"

func millWordList() []string {
	return strings.Fields(millTypeWords + " " + millOtherWords)
}

// millPiece is a piece of text beside the token that it is.
type millPiece struct {
	piece string
	token impl.MillToken
}

func millName(s string) millPiece {
	return millPiece{s, impl.MillToken{Kind: impl.MillTokName, Text: s}}
}

func millWord(s string) millPiece {
	return millPiece{s, impl.MillToken{Kind: impl.MillTokWord, Text: s}}
}

func millMark(s string) millPiece {
	return millPiece{s, impl.MillToken{Kind: impl.MillTokMark, Text: s}}
}

func millInt(piece string, kind int, n int64) millPiece {
	return millPiece{piece, impl.MillToken{Kind: impl.MillTokInt, Type: kind, N: n}}
}

func millText(piece, text string) millPiece {
	return millPiece{piece, impl.MillToken{Kind: impl.MillTokText, Text: text}}
}

// millIntKind is an integer type with its word and its greatest number.
type millIntKind struct {
	kind int
	word string
	most string
}

func millIntKinds() []millIntKind {
	return []millIntKind{
		{impl.MillTypeU8, "u8", "255"}, {impl.MillTypeU16, "u16", "65535"}, {impl.MillTypeU32, "u32", "4294967295"},
		{impl.MillTypeU64, "u64", "18446744073709551615"},
		{impl.MillTypeI8, "i8", "127"}, {impl.MillTypeI16, "i16", "32767"}, {impl.MillTypeI32, "i32", "2147483647"},
		{impl.MillTypeI64, "i64", "9223372036854775807"}, {impl.MillTypeI64, "", "9223372036854775807"},
	}
}

// wantMillTokens asks that src is read without a fault as just these tokens.
func wantMillTokens(t *testing.T, src string, want []impl.MillToken) {
	t.Helper()
	got, fault := impl.MillScan(src)
	if fault != (impl.MillFault{}) {
		t.Errorf("%.60q: fault %+v", src, fault)
	}
	if !slices.Equal(got, want) {
		t.Errorf("%.60q: got %+v, want %+v", src, got, want)
	}
}

// wantMillPieces asks that the pieces, behind lead and each with the next one of gaps behind it, are read as their tokens, and each alone as its own.
func wantMillPieces(t *testing.T, pieces []millPiece, lead string, gaps ...string) {
	t.Helper()
	src := lead
	var want []impl.MillToken
	for i, p := range pieces {
		wantMillTokens(t, p.piece, []impl.MillToken{p.token})
		token := p.token
		token.At = len(src)
		want = append(want, token)
		src += p.piece
		if len(gaps) > 0 {
			src += gaps[i%len(gaps)]
		}
	}
	wantMillTokens(t, src, want)
}

func wantMillFault(t *testing.T, src string, code, at int) {
	t.Helper()
	got, fault := impl.MillScan(src)
	if fault != (impl.MillFault{Code: code, At: at}) {
		t.Errorf("%.60q: got %+v, want code %d at %d", src, fault, code, at)
	}
	if len(got) != 0 {
		t.Errorf("%.60q: %d tokens beside a fault", src, len(got))
	}
}

func TestMillScanConstants(t *testing.T) {
	limits := [4]int{impl.MillMaxSrc, impl.MillMaxName, impl.MillMaxText, impl.MillMaxPath}
	if limits != [4]int{12000, 30, 3000, 60} {
		t.Errorf("limits %v", limits)
	}
	kinds := [5]int{impl.MillTokName, impl.MillTokWord, impl.MillTokInt, impl.MillTokText, impl.MillTokMark}
	if kinds != [5]int{1, 2, 3, 4, 5} {
		t.Errorf("kinds %v", kinds)
	}
	types := [11]int{
		impl.MillTypeNone, impl.MillTypeBool, impl.MillTypeText, impl.MillTypeU8, impl.MillTypeU16, impl.MillTypeU32,
		impl.MillTypeU64, impl.MillTypeI8, impl.MillTypeI16, impl.MillTypeI32, impl.MillTypeI64,
	}
	if types != [11]int{0, 1, 2, 3, 4, 5, 6, 7, 8, 9, 10} {
		t.Errorf("types %v", types)
	}
}

func everyKindOfMillPiece() []millPiece {
	pieces := []millPiece{
		millName("a"), millName("z_"), millName("b__0"), millName("a_1z9"), millName("x86"), millName("i"), millName("u"), millName("i8u8"),
		millInt("0", impl.MillTypeI64, 0), millInt("7", impl.MillTypeI64, 7), millInt("1234567890", impl.MillTypeI64, 1234567890),
		millInt("200u8", impl.MillTypeU8, 200), millInt("0i16", impl.MillTypeI16, 0), millInt("18446744073709551615u64", impl.MillTypeU64, -1),
		millText(`""`, ""), millText(`"a b"`, "a b"), millText(`"# no remark"`, "# no remark"),
		millText(`"\00\ff\0a"`, "\x00\xff\n"), millText(`"\22\5c"`, `"\`), millText(`"\41A\61"`, "AAa"),
	}
	for _, w := range millWordList() {
		pieces = append(pieces, millWord(w))
	}
	for _, m := range strings.Fields(millMarkList) {
		pieces = append(pieces, millMark(m))
	}
	return pieces
}

// Promise 13.
func TestMillScanPiecesWithGaps(t *testing.T) {
	pieces := everyKindOfMillPiece()
	for range 2 {
		wantMillPieces(t, pieces, "", " ")
		wantMillPieces(t, pieces, "\n", "\n")
		wantMillPieces(t, pieces, "#\n", "#\n")
		wantMillPieces(t, pieces, "", " ", "\n", "  \n ", "# a remark\n", " # \"not a text\n# @\x80\t one more\n\n")
		slices.Reverse(pieces)
	}
}

func TestMillScanPiecesWithoutGaps(t *testing.T) {
	seven := millInt("7", impl.MillTypeI64, 7)
	byteSeven := millInt("7u8", impl.MillTypeU8, 7)
	wantMillPieces(t, []millPiece{
		millWord("let"), millMark("("), millName("a"), millMark("->"), seven, millText(`"x"`, "x"), millText(`"y"`, "y"),
		millWord("has"), millMark("-"), millMark("-"), byteSeven, millMark("{"), millName("b"), millText(`"\7a"`, "z"), seven,
		millMark("!="), millMark("="), millMark("}"), millName("q_9"), millMark(";"), millText(`""`, ""), millWord("u8"), millMark("~"), millName("n"),
	}, "")
	for _, p := range []millPiece{millName("ab_1"), millWord("while"), millWord("u64"), seven, byteSeven} {
		for _, m := range strings.Fields(millMarkList) {
			wantMillPieces(t, []millPiece{millMark(m), p, millMark(m), p}, "")
		}
		wantMillPieces(t, []millPiece{millText(`"t"`, "t"), p, millText(`"t"`, "t")}, "")
	}
}

// A name, a word and a number that stand right behind each other are one token.
func TestMillScanRunTogether(t *testing.T) {
	for _, w := range millWordList() {
		for _, v := range millWordList() {
			wantMillPieces(t, []millPiece{millName(w + v)}, "")
		}
		wantMillPieces(t, []millPiece{millName(w + "12u8"), millMark("+"), millName("a" + w)}, "")
	}
	wantMillFault(t, "12a", 3, 0)
	wantMillFault(t, "12while", 3, 0)
}

func TestMillScanOnlyGaps(t *testing.T) {
	for _, src := range []string{"", " ", "\n", "#", "##", "#\n", "\n#", " \n # a \n\n", "# @\x00\x80\"", "#\r\t\n #", "#\n#\n#"} {
		wantMillTokens(t, src, nil)
	}
	for b := range 256 {
		s := string([]byte{byte(b)})
		if s != "\n" {
			wantMillTokens(t, "#"+s, nil)
			wantMillTokens(t, "# "+s+" fn", nil)
			wantMillTokens(t, "#"+s+s+"\na#"+s, []impl.MillToken{{Kind: impl.MillTokName, Text: "a", At: 4}})
		}
	}
	wantMillTokens(t, "#a\nb#c", []impl.MillToken{{Kind: impl.MillTokName, Text: "b", At: 3}})
	wantMillTokens(t, "#a\n#b\nc\n", []impl.MillToken{{Kind: impl.MillTokName, Text: "c", At: 6}})
}

func TestMillScanWords(t *testing.T) {
	words := millWordList()
	if len(words) != 35 {
		t.Fatalf("%d words", len(words))
	}
	for _, w := range words {
		wantMillPieces(t, []millPiece{millWord(w)}, "")
		wantMillPieces(t, []millPiece{millWord(w), millMark("("), millWord(w)}, "")
		for _, n := range []string{w + "s", w + "_", w + "0", w + w, "a" + w, "z_" + w, w[:1] + "_" + w[1:]} {
			wantMillPieces(t, []millPiece{millName(n)}, "")
		}
		less := w[:len(w)-1]
		wantMillPieces(t, []millPiece{millName(less)}, " ")
		if first := w[1:]; first[0] >= 'a' && !slices.Contains(words, first) {
			wantMillPieces(t, []millPiece{millName(first)}, " ")
		}
		wantMillFault(t, "_"+w, 2, 0)
		wantMillFault(t, strings.ToUpper(w), 2, 0)
		wantMillFault(t, w+"A", 2, len(w))
	}
	for _, n := range []string{"def", "emit", "for", "in", "load", "none", "not", "or", "and", "then", "main", "u128", "u7", "i9", "u6", "int", "uint", "string", "byte", "f64", "case", "func", "nil"} {
		wantMillPieces(t, []millPiece{millName(n)}, " ")
	}
}

func TestMillScanNames(t *testing.T) {
	for b := range 256 {
		s := string([]byte{byte(b)})
		letter := b >= 'a' && b <= 'z'
		if letter {
			wantMillPieces(t, []millPiece{millName(s)}, "")
			wantMillPieces(t, []millPiece{millName(s + "_"), millMark(";"), millName(s + "0")}, "")
		}
		if letter || b == '_' || b >= '0' && b <= '9' {
			wantMillPieces(t, []millPiece{millName("q" + s), millName("q" + s + "q"), millName("q" + s + s)}, "", " ")
		} else if strings.IndexByte("(){},;=<>+-*/%&|^!~ \n#\"", byte(b)) < 0 {
			wantMillFault(t, "q"+s, 2, 1)
			wantMillFault(t, "qq"+s+"q", 2, 2)
		}
	}
	for size := 1; size <= impl.MillMaxName; size++ {
		wantMillPieces(t, []millPiece{millName(strings.Repeat("z", size))}, " ")
	}
	most := strings.Repeat("a_9", 10)
	wantMillPieces(t, []millPiece{millName(most), millMark("="), millName(most)}, "")
	for _, c := range []string{"0", "_", "a", "z", "9"} {
		wantMillFault(t, most+c, 5, 0)
		wantMillFault(t, most+c+";", 5, 0)
	}
	wantMillFault(t, " #\n"+most+"a", 5, 3)
	wantMillFault(t, "a "+strings.Repeat("n", 11000)+" @", 5, 2)
	// The words of a type behind it make a name no shorter.
	wantMillFault(t, strings.Repeat("n", 28)+"u16", 5, 0)
}

// millBits is the int64 with the bits of a number that is not below 0.
func millBits(t *testing.T, n *big.Int) int64 {
	t.Helper()
	if !n.IsUint64() {
		t.Fatalf("%s is too great for 64 bits", n)
	}
	return int64(n.Uint64())
}

func TestMillScanGreatestNumbers(t *testing.T) {
	for _, k := range millIntKinds() {
		most, _ := new(big.Int).SetString(k.most, 10)
		for less := range int64(3) {
			n := new(big.Int).Sub(most, big.NewInt(less))
			wantMillPieces(t, []millPiece{millInt(n.String()+k.word, k.kind, millBits(t, n))}, "")
		}
		half := new(big.Int).Rsh(most, 1)
		for more := range int64(3) {
			n := new(big.Int).Add(half, big.NewInt(more))
			wantMillPieces(t, []millPiece{millInt(n.String()+k.word, k.kind, millBits(t, n))}, " ")
		}
		for small := range int64(12) {
			wantMillPieces(t, []millPiece{millInt(strconv.FormatInt(small, 10)+k.word, k.kind, small)}, " ")
		}
		for _, n := range []*big.Int{
			new(big.Int).Add(most, big.NewInt(1)), new(big.Int).Add(most, big.NewInt(2)), new(big.Int).Mul(most, big.NewInt(10)),
			new(big.Int).Mul(most, big.NewInt(2)), new(big.Int).Mul(most, most), new(big.Int).Lsh(big.NewInt(1), 64),
			new(big.Int).Add(new(big.Int).Lsh(big.NewInt(1), 64), big.NewInt(1)), new(big.Int).Lsh(big.NewInt(1), 128),
		} {
			wantMillFault(t, n.String()+k.word, 3, 0)
			wantMillFault(t, "a = "+n.String()+k.word+";", 3, 4)
		}
		wantMillFault(t, strings.Repeat("9", 100)+k.word, 3, 0)
		wantMillFault(t, "1"+strings.Repeat("0", 11000)+k.word, 3, 0)
	}
	greatest, fault := impl.MillScan("18446744073709551615u64")
	if fault != (impl.MillFault{}) || len(greatest) != 1 || uint64(greatest[0].N) != math.MaxUint64 {
		t.Errorf("%+v %+v", greatest, fault)
	}
}

func TestMillScanNeedlessZeros(t *testing.T) {
	for _, k := range millIntKinds() {
		wantMillPieces(t, []millPiece{millInt("0"+k.word, k.kind, 0), millInt("0"+k.word, k.kind, 0)}, "", " ")
		for _, n := range []string{"00", "01", "007", "0" + k.most, strings.Repeat("0", 64)} {
			wantMillFault(t, n+k.word, 3, 0)
			wantMillFault(t, "-"+n+k.word, 3, 1)
		}
		wantMillPieces(t, []millPiece{millMark("-"), millInt("100"+k.word, k.kind, 100)}, "")
	}
}

func TestMillScanWordsBehindNumbers(t *testing.T) {
	kinds := millIntKinds()
	for _, n := range []string{"0", "1", "12", "127"} {
		value, _ := strconv.ParseInt(n, 10, 64)
		for _, k := range kinds {
			wantMillPieces(t, []millPiece{millInt(n+k.word, k.kind, value), millMark("+"), millInt(n+k.word, k.kind, value)}, "")
			if k.word == "" {
				continue
			}
			for _, rest := range []string{k.word[:1], k.word + k.word, k.word + "_", "_" + k.word, k.word + "x", "x" + k.word, k.word + "0", k.word[:1] + "_" + k.word[1:], k.word + "bool", "u", "i"} {
				wantMillFault(t, n+rest, 3, 0)
				wantMillFault(t, "  "+n+rest+" ", 3, 2)
			}
			for _, other := range kinds {
				if other.word != "" {
					wantMillFault(t, n+k.word+other.word, 3, 0)
				}
			}
			// A capital is no part of a number, and begins no token.
			wantMillFault(t, n+strings.ToUpper(k.word), 2, len(n))
		}
		for _, w := range strings.Fields("bool text " + millOtherWords) {
			wantMillFault(t, n+w, 3, 0)
			wantMillFault(t, "a "+n+w+")", 3, 2)
		}
		for _, w := range []string{"u128", "u7", "i1", "u1", "u3", "u6", "i6", "i3", "u18", "x", "x1", "b1", "e1", "_", "_1", "1_", "u_8", "int"} {
			wantMillFault(t, n+w, 3, 0)
		}
	}
	wantMillFault(t, "0x1f", 3, 0)
	wantMillFault(t, "1_000", 3, 0)
	wantMillFault(t, "1_000i64", 3, 0)
}

func TestMillScanBytesBehindNumbers(t *testing.T) {
	for b := range 256 {
		c := string([]byte{byte(b)})
		for _, k := range millIntKinds() {
			src := "  7" + k.word + c
			end := len(src) - 1
			seven := impl.MillToken{Kind: impl.MillTokInt, Type: k.kind, N: 7, At: 2}
			switch {
			case b >= 'a' && b <= 'z' || b == '_' || b >= '0' && b <= '9' && k.word != "":
				wantMillFault(t, src, 3, 2)
				wantMillFault(t, src+"@", 3, 2)
			case b >= '0' && b <= '9':
				seven.N = 70 + int64(b-'0')
				wantMillTokens(t, src, []impl.MillToken{seven})
			case b == '"':
				wantMillFault(t, src, 4, end)
			case strings.Contains(" \n#", c):
				wantMillTokens(t, src, []impl.MillToken{seven})
			case strings.Contains("(){},;=<>+-*/%&|^!~", c):
				wantMillTokens(t, src, []impl.MillToken{seven, {Kind: impl.MillTokMark, Text: c, At: end}})
			default:
				wantMillFault(t, src, 2, end)
			}
		}
	}
}

func TestMillScanTextBytes(t *testing.T) {
	for b := range 256 {
		s := string([]byte{byte(b)})
		written := fmt.Sprintf(`\%02x`, b)
		wantMillPieces(t, []millPiece{millText(`"`+written+`"`, s), millText(`"1`+written+`2`+written+`"`, "1"+s+"2"+s)}, "")
		if b >= 32 && b <= 126 && b != '"' && b != '\\' {
			wantMillPieces(t, []millPiece{millText(`"`+s+`"`, s), millText(`"`+written+s+written+`"`, s+s+s)}, "")
		} else if b != '"' {
			wantMillFault(t, `"`+s+`"`, 4, 0)
			wantMillFault(t, ` "a`+s+`" b`, 4, 1)
		}
		if upper := strings.ToUpper(written); upper != written {
			wantMillFault(t, `"`+upper+`"`, 4, 0)
		}
		if digit := b >= '0' && b <= '9' || b >= 'a' && b <= 'f'; !digit {
			wantMillFault(t, `"\`+s+`0"`, 4, 0)
			wantMillFault(t, `"\0`+s+`"`, 4, 0)
			wantMillFault(t, `x "\0`+s+`00"`, 4, 2)
		}
	}
	wantMillPieces(t, []millPiece{millText(`"\411"`, "A1"), millText(`"\5c41"`, `\41`), millText(`"\22"`, `"`), millText(`"# "`, "# ")}, "")
}

func TestMillScanTextsNotEnded(t *testing.T) {
	for _, src := range []string{`"`, `"a`, `"a # b`, `"\22`, `"\`, `"\4`, `"\41`, `"\4"`, `"\"`, `"\""`, `"\4" "`, "\"a\nb\"", "\"a\n", "\"\x7f\"", "\"é\""} {
		wantMillFault(t, src, 4, 0)
		wantMillFault(t, "a #\"\n"+src, 4, 5)
		wantMillFault(t, `""`+src, 4, 2)
	}
}

func TestMillScanLongTexts(t *testing.T) {
	most := strings.Repeat("x", impl.MillMaxText)
	wantMillPieces(t, []millPiece{millText(`"`+most+`"`, most), millText(`"`+most[1:]+`\78"`, most)}, "", " ")
	wantMillPieces(t, []millPiece{millText(`"`+strings.Repeat(`\78`, impl.MillMaxText)+`"`, most)}, "")
	wantMillFault(t, `"`+most+`y"`, 5, 0)
	wantMillFault(t, ` "`+most+`\00"`, 5, 1)
	wantMillFault(t, `a "`+strings.Repeat(`\00`, impl.MillMaxText+1)+`"`, 5, 2)
	wantMillFault(t, `"`+strings.Repeat("x", impl.MillMaxSrc-2)+`"`, 5, 0)
	// The lesser code counts where a text is too long and not written so.
	wantMillFault(t, `"`+most+`y`, 4, 0)
	wantMillFault(t, `"`+most+"y\n\"", 4, 0)
	wantMillFault(t, `"`+most+`y\0g"`, 4, 0)
	wantMillFault(t, `"`+most+`y\0"`, 4, 0)
	wantMillFault(t, `""`+`"`+most+`yyyy\`, 4, 2)
}

func TestMillScanMarks(t *testing.T) {
	marks := strings.Fields(millMarkList)
	if len(marks) != 28 {
		t.Fatalf("%d marks", len(marks))
	}
	for _, a := range marks {
		wantMillTokens(t, a, []impl.MillToken{{Kind: impl.MillTokMark, Text: a}})
		for _, b := range marks {
			pair := []millPiece{millMark(a), millMark(b)}
			if !slices.Contains(marks, a+b[:1]) {
				wantMillPieces(t, pair, "")
			}
			wantMillPieces(t, pair, "", " ")
			wantMillPieces(t, pair, "", "\n")
			wantMillPieces(t, pair, "", "#\n")
		}
	}
	for _, parts := range []string{
		"== =", "== >", "== ==", "-> =", "-> >", "-> >=", "-> >>", "- ->", "- - ->", "<= =", "<= >", "<= <", ">= =", ">= >", "!= =", "!= ==", "! !=",
		"<< <", "<< <=", "<< =", "<< <<", ">> >", ">> >=", ">> =", ">> >>", "< >", "< >=", "< >>", "> <", "> <<", "= <", "= <<", "= !", "= !=", "= ->", "= -",
		"&& &", "&& &&", "& |", "& ||", "|| |", "|| ||", "| &", "| &&", "~ ~", "^ ^", "* *", "/ /", "> -", "= >", "= >=", "< -", "< ->",
	} {
		var pieces []millPiece
		for m := range strings.FieldsSeq(parts) {
			pieces = append(pieces, millMark(m))
		}
		wantMillPieces(t, pieces, "")
	}
}

// millCutMarks cuts a text of marks into the longest ones, with spaces between them.
func millCutMarks(marks []string, text string) string {
	var parts []string
	for text != "" {
		size := 1
		if len(text) > 1 && slices.Contains(marks, text[:2]) {
			size = 2
		}
		parts = append(parts, text[:size])
		text = text[size:]
	}
	return strings.Join(parts, " ")
}

// Each text of up to four bytes of marks is cut from the left, the longest mark first.
func TestMillScanAllMarkTexts(t *testing.T) {
	const bytes = "(=<>-&|!~+"
	marks := strings.Fields(millMarkList)
	var goOn func(text string, left int)
	goOn = func(text string, left int) {
		var want []impl.MillToken
		at := 0
		for m := range strings.FieldsSeq(millCutMarks(marks, text)) {
			want = append(want, impl.MillToken{Kind: impl.MillTokMark, Text: m, At: at})
			at += len(m)
		}
		wantMillTokens(t, text, want)
		for i := 0; left > 0 && i < len(bytes); i++ {
			goOn(text+bytes[i:i+1], left-1)
		}
	}
	goOn("", 4)
}

func TestMillScanEveryFirstByte(t *testing.T) {
	const begins = " \n#(){},;=<>+-*/%&|^!~0123456789abcdefghijklmnopqrstuvwxyz"
	for b := range 256 {
		s := string([]byte{byte(b)})
		switch {
		case s == `"`:
			wantMillFault(t, "a "+s, 4, 2)
		case strings.Contains(begins, s):
			if _, fault := impl.MillScan(s); fault != (impl.MillFault{}) {
				t.Errorf("%q: %+v", s, fault)
			}
		default:
			wantMillFault(t, s, 2, 0)
			wantMillFault(t, "a# \n"+s+" 01 \"", 2, 4)
			wantMillFault(t, "=="+s, 2, 2)
		}
	}
	for _, s := range []string{"\x00", "\t", "\r", "é", "A", "Z", "@", "$", "'", "?", "`", "\\", "_", "_a", ".", ":", "[", "]", "\x7f", "\x80", "\xff", "\u00a0", "\ufeff"} {
		wantMillFault(t, "1 "+s, 2, 2)
		wantMillFault(t, s, 2, 0)
	}
}

func TestMillScanSizeOfSrc(t *testing.T) {
	src := strings.Repeat("a ", impl.MillMaxSrc/2)
	got, fault := impl.MillScan(src)
	if fault != (impl.MillFault{}) || len(got) != impl.MillMaxSrc/2 {
		t.Fatalf("%d tokens, %+v", len(got), fault)
	}
	for i, k := range got {
		if k != (impl.MillToken{Kind: impl.MillTokName, Text: "a", At: 2 * i}) {
			t.Fatalf("%d: %+v", i, k)
		}
	}
	if got, fault = impl.MillScan(strings.Repeat(";", impl.MillMaxSrc)); fault != (impl.MillFault{}) || len(got) != impl.MillMaxSrc {
		t.Errorf("%d tokens, %+v", len(got), fault)
	}
	for _, s := range []string{src + " ", src + "@", "@" + src, strings.Repeat("\"", impl.MillMaxSrc+1), strings.Repeat("#", impl.MillMaxSrc+1), strings.Repeat("0", 100000)} {
		wantMillFault(t, s, 1, 0)
	}
	wantMillTokens(t, strings.Repeat("#", impl.MillMaxSrc), nil)
	wantMillFault(t, src[1:]+"@", 2, impl.MillMaxSrc-1)
}

func TestMillScanFirstFaultCounts(t *testing.T) {
	long := strings.Repeat("n", impl.MillMaxName+1)
	most := strings.Repeat("x", impl.MillMaxText)
	for _, c := range []struct {
		src      string
		code, at int
	}{
		{"a @ 01 \"", 2, 2}, {"a 01 @ \"", 3, 2}, {"a \"\x01\" @ 01", 4, 2}, {long + " @", 5, 0}, {"a\n" + long + " 01", 5, 2},
		{"1a @", 3, 0}, {"1 a01 01", 3, 6}, {"@" + long, 2, 0}, {"01" + long, 3, 0}, {"\"\" \"", 4, 3},
		{"256u8 @", 3, 0}, {"a 300u8x \"", 3, 2}, {"99999999999999999999bool", 3, 0}, {"0256u8", 3, 0}, {strings.Repeat("7", 40) + "zz", 3, 0},
		{"\"" + most + "yy", 4, 0}, {"a \"" + most + "yy\" \"", 5, 2}, {"\"" + most + "y\" " + "\"", 5, 0}, {"\" 01", 4, 0}, {"# @\n_", 2, 4},
		{long + long + "@\"", 5, 0}, {"255u8 256u8 257u8", 3, 6}, {"fn fN", 2, 4},
	} {
		wantMillFault(t, c.src, c.code, c.at)
	}
}

// millRule is one form of token, with what reads a piece of that form.
type millRule struct {
	form *regexp.Regexp
	read func(piece string) (impl.MillToken, int)
}

// millNumberByRule reads a piece that begins with a digit.
func millNumberByRule(number *regexp.Regexp, piece string) (impl.MillToken, int) {
	parts := number.FindStringSubmatch(piece)
	if parts == nil {
		return impl.MillToken{}, 3
	}
	n, _ := new(big.Int).SetString(parts[1], 10)
	for _, k := range millIntKinds() {
		most, _ := new(big.Int).SetString(k.most, 10)
		if k.word == parts[2] && n.Cmp(most) <= 0 {
			return millInt(piece, k.kind, int64(n.Uint64())).token, 0
		}
	}
	return impl.MillToken{}, 3
}

// millRules are the forms of the document, written once more in another way.
func millRules() []millRule {
	words := millWordList()
	number := regexp.MustCompile(`^(0|[1-9][0-9]*)((?:[ui](?:8|16|32|64))?)$`)
	return []millRule{
		{regexp.MustCompile(`^[a-z][a-z0-9_]*`), func(p string) (impl.MillToken, int) {
			if len(p) > impl.MillMaxName {
				return impl.MillToken{}, 5
			}
			if slices.Contains(words, p) {
				return millWord(p).token, 0
			}
			return millName(p).token, 0
		}},
		{regexp.MustCompile(`^[0-9][a-z0-9_]*`), func(p string) (impl.MillToken, int) { return millNumberByRule(number, p) }},
		{regexp.MustCompile(`^"([ !#-\[\]-~]|\\[0-9a-f][0-9a-f])*"`), func(p string) (impl.MillToken, int) {
			text, err := strconv.Unquote(strings.ReplaceAll(p, `\`, `\x`))
			if err != nil || len(text) > impl.MillMaxText {
				return impl.MillToken{}, 5
			}
			return millText(p, text).token, 0
		}},
		{regexp.MustCompile(`^"`), func(string) (impl.MillToken, int) { return impl.MillToken{}, 4 }},
		{regexp.MustCompile(`^(->|[=!<>]=|<<|>>|&&|\|\||[(){},;=<>+*/%&|^!~-])`), func(p string) (impl.MillToken, int) { return millMark(p).token, 0 }},
	}
}

var millGaps = regexp.MustCompile(`^([ \n]|#[^\n]*)*`)

// millScanByRules is what the rules make of src, with the end of each token.
func millScanByRules(rules []millRule, src string) (tokens []impl.MillToken, ends []int, fault impl.MillFault) {
	at := len(millGaps.FindString(src))
	for at < len(src) {
		token, code, piece := impl.MillToken{}, 2, ""
		for _, r := range rules {
			if piece = r.form.FindString(src[at:]); piece != "" {
				token, code = r.read(piece)
				break
			}
		}
		if code != 0 {
			return nil, nil, impl.MillFault{Code: code, At: at}
		}
		token.At = at
		at += len(piece)
		tokens, ends = append(tokens, token), append(ends, at)
		at += len(millGaps.FindString(src[at:]))
	}
	return tokens, ends, impl.MillFault{}
}

// wantMillAsByRules also asks for promise 13: the pieces of the tokens, with a gap written between them, are the same tokens but for At.
func wantMillAsByRules(t *testing.T, rules []millRule, src string) {
	t.Helper()
	want, ends, fault := millScanByRules(rules, src)
	got, gotFault := impl.MillScan(src)
	if gotFault != fault || !slices.Equal(got, want) {
		t.Fatalf("%q: got %+v %+v, want %+v %+v", src, got, gotFault, want, fault)
	}
	for _, gap := range []string{" ", "\n", "# \"a@\n"} {
		var again strings.Builder
		var moved []impl.MillToken
		for i, token := range got {
			piece := src[token.At:ends[i]]
			token.At = again.Len()
			moved = append(moved, token)
			again.WriteString(piece + gap)
		}
		if again.Len() > impl.MillMaxSrc {
			continue
		}
		read, fault := impl.MillScan(again.String())
		if fault != (impl.MillFault{}) || !slices.Equal(read, moved) {
			t.Fatalf("%q: %q: got %+v %+v, want %+v", src, again.String(), read, fault, moved)
		}
	}
}

// Promise 13, for all short texts of bytes that have to do with each other.
func TestMillScanAllShortTexts(t *testing.T) {
	t.Parallel()
	const bytes = "a0u81_\"\\=-> \n#&@"
	rules := millRules()
	var readOn func(src string, left int)
	readOn = func(src string, left int) {
		wantMillAsByRules(t, rules, src)
		for i := 0; left > 0 && i < len(bytes); i++ {
			readOn(src+bytes[i:i+1], left-1)
		}
	}
	readOn("", 4)
}

// Promise 13, for longer texts that are put together by a fixed rule.
func TestMillScanMixedTexts(t *testing.T) {
	pieces := everyKindOfMillPiece()
	gaps := []string{"", "", " ", "\n", "#x\n", " # \"\n  "}
	spoilt := []string{"@", "01", "\"", "_", "\t", "\"\\4\"", "256u8", "7text", strings.Repeat("m", 31)}
	rules := millRules()
	dice := clayDice(1)
	for range 4000 {
		var src strings.Builder
		for range dice.below(12) {
			src.WriteString(pieces[dice.below(len(pieces))].piece)
			src.WriteString(gaps[dice.below(len(gaps))])
			if dice.below(40) == 0 {
				src.WriteString(spoilt[dice.below(len(spoilt))])
			}
		}
		wantMillAsByRules(t, rules, src.String())
	}
}

// Promise 13: every text is read, whatever its bytes are.
func TestMillScanAnyBytes(t *testing.T) {
	rules := millRules()
	dice := clayDice(7)
	for range 4000 {
		src := make([]byte, dice.below(20))
		for i := range src {
			src[i] = byte(dice.below(256))
			if dice.below(3) > 0 {
				src[i] &= 0x7f
			}
		}
		wantMillAsByRules(t, rules, string(src))
	}
}

func FuzzMillScan(f *testing.F) {
	f.Add("fn a_1(b u8) -> u16 { # c\nlet x = \"x\\41\\0a\" << 255u8; }")
	rules := millRules()
	f.Fuzz(func(t *testing.T, src string) {
		if len(src) <= impl.MillMaxSrc {
			wantMillAsByRules(t, rules, src)
		}
	})
}

func TestMillScanAnswersNewMemory(t *testing.T) {
	src := string([]byte("let abc = \"text\" + 12u8 -> while; # remark"))
	first, _ := impl.MillScan(src)
	if len(first) != 9 {
		t.Fatalf("%+v", first)
	}
	for _, k := range first {
		if sharesBytes(src, k.Text) {
			t.Errorf("%+v shares memory with src", k)
		}
	}
	want := slices.Clone(first)
	for i := range first {
		first[i] = impl.MillToken{Kind: -1}
	}
	_ = append(first, impl.MillToken{Kind: -2})
	second, fault := impl.MillScan(src)
	if fault != (impl.MillFault{}) || !slices.Equal(second, want) {
		t.Errorf("read again: %+v %+v", second, fault)
	}
}
