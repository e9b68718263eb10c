package tok

import (
	"math/big"
	"slices"
	"strconv"
	"strings"
	"testing"

	"servitor/api"
)

// based is a base: what tells it, and its digits, written out.
type based struct{ head, digits string }

func bases() []based {
	return []based{{"", "0123456789"}, {"2#", "01"}, {"8#", "01234567"}, {"16#", "0123456789ABCDEF"}}
}

// edgesOf numbers: small ones, and those about powers of 2, with and without room.
func edgesOf() []*big.Int {
	var edges []*big.Int
	for power := range 70 {
		for near := int64(-3); near <= 3; near++ {
			n := new(big.Int).Lsh(big.NewInt(1), uint(power))
			if n.Add(n, big.NewInt(near)); n.Sign() >= 0 {
				edges = append(edges, n)
			}
		}
	}
	return edges
}

// P17.1: numbers about each power of 2, in each base, with zeros ahead and without.
func TestNumbersInEachBase(t *testing.T) {
	for _, b := range bases() {
		for _, n := range edgesOf() {
			for _, zeros := range []string{"", "0", "000", strings.Repeat("0", 100)} {
				text := b.head + zeros + strings.ToUpper(n.Text(len(b.digits)))
				if !n.IsInt64() {
					tryError(t, text, api.ErrOver, 1, 1)
					continue
				}
				tryLex(t, text, "num "+text+" "+n.String())
				tryLex(t, "-"+text+";", "sign -, num "+text+" "+n.String()+", sign ;")
			}
		}
	}
}

// P17.1: numbers written out.
func TestNumbers(t *testing.T) {
	for _, c := range []struct {
		text string
		n    int64
	}{
		{"0", 0}, {"1", 1}, {"9", 9}, {"10", 10}, {"00", 0}, {"007", 7}, {"08", 8}, {"0016", 16}, {"16", 16}, {"12345678909876543", 12345678909876543},
		{"2#0", 0}, {"2#1", 1}, {"2#10", 2}, {"2#0101", 5}, {"2#11111111", 255},
		{"8#0", 0}, {"8#7", 7}, {"8#10", 8}, {"8#0017", 15}, {"8#377", 255},
		{"16#0", 0}, {"16#9", 9}, {"16#A", 10}, {"16#B", 11}, {"16#C", 12}, {"16#D", 13}, {"16#E", 14}, {"16#F", 15}, {"16#10", 16}, {"16#00FF", 255}, {"16#DEADBEEF", 3735928559}, {"16#16", 22},
		{"9223372036854775806", 9223372036854775806}, {"9223372036854775807", 9223372036854775807}, {"0009223372036854775807", 9223372036854775807},
		{"16#7FFFFFFFFFFFFFFF", 9223372036854775807}, {"16#0007FFFFFFFFFFFFFFF", 9223372036854775807},
		{"8#777777777777777777777", 9223372036854775807},
		{"2#111111111111111111111111111111111111111111111111111111111111111", 9223372036854775807},
	} {
		signs, e, at := Lex(c.text)
		want := []api.Tok{{Kind: api.TokNum, Text: c.text, N: c.n, Line: 1, Col: 1}, {Line: 1, Col: 1 + len(c.text)}}
		if !slices.Equal(signs, want) || e != api.OK || at != (api.Tok{}) {
			t.Errorf("Lex(%q): %v; %d; %v", c.text, signs, e, at)
		}
	}
}

// tooGreat are numbers above 2^63 - 1, some of which wrap round to small ones or to those below 0.
func tooGreat() []string {
	return []string{
		"9223372036854775808", "09223372036854775808", "9223372036854775810", "9223372036854775817", "10000000000000000000", "18446744073709551615", "18446744073709551616", "18446744073709551617", "92233720368547758070", "340282366920938463463374607431768211456", strings.Repeat("9", 1000), "1" + strings.Repeat("0", 1000),
		"16#8000000000000000", "16#8000000000000001", "16#FFFFFFFFFFFFFFFF", "16#10000000000000000", "16#10000000000000001", "16#00080000000000000000", "16#1" + strings.Repeat("0", 500),
		"8#1000000000000000000000", "8#1777777777777777777777", "8#2000000000000000000000", "8#2000000000000000000001", "8#7777777777777777777777",
		"2#1" + strings.Repeat("0", 63), "2#1" + strings.Repeat("0", 64), "2#" + strings.Repeat("1", 64), "2#" + strings.Repeat("1", 65), "2#1" + strings.Repeat("0", 999) + "1",
	}
}

// P17.1: numbers that are too great, however they are followed; if by what may not be there, that is told.
func TestTooGreatNumbers(t *testing.T) {
	for _, text := range tooGreat() {
		for _, tail := range []string{"", " ", "\n", "\t", ";", "..", ".", "*", "+1", "?", "\x80", "\xc3\xa4", "\x00", "\r", " a", "// x", "(* x *)a", "(* x"} {
			tryError(t, text+tail, api.ErrOver, 1, 1)
			tryError(t, "a :=\n -"+text+tail, api.ErrOver, 2, 3)
		}
		for _, tail := range []string{"a", "z", "A", "Z", "G", "_", "#", "x1", "_1", "#1", "a?", "IF", "abcdefghijklmnopq"} {
			if strings.HasPrefix(text, "16#") && tail == "A" {
				continue
			}
			tryError(t, text+tail, api.ErrForm, 1, 1)
			tryError(t, "a :=\n -"+text+tail, api.ErrForm, 2, 3)
		}
	}
}

// P17.1: behind a base's sign there has to be a digit of that base.
func TestBasesWithoutDigits(t *testing.T) {
	for _, b := range bases()[1:] {
		for i := range 256 {
			tail := string([]byte{byte(i)})
			if strings.Contains(b.digits, tail) {
				tryLex(t, b.head+tail, "num "+b.head+tail+" "+strconv.Itoa(strings.Index(b.digits, tail)))
				continue
			}
			tryError(t, b.head+tail, api.ErrForm, 1, 1)
			tryError(t, b.head+tail+"1", api.ErrForm, 1, 1)
			tryError(t, "\n\tb := "+b.head+tail, api.ErrForm, 2, 7)
		}
		for _, tail := range []string{"", " ", "\n", ";", " 1", "\n1", "(**)1", "// 1", "_1", "-1", "+1", "#1", b.head + "1", "a", "f", "F_", "F1"} {
			if b.head == "16#" && tail == "F1" || b.head == "16#" && tail == "F_" {
				continue
			}
			tryError(t, b.head+tail, api.ErrForm, 1, 1)
			tryError(t, " "+b.head+tail+" ;", api.ErrForm, 1, 2)
		}
	}
	tryError(t, "16#F_", api.ErrForm, 1, 1)
	tryLex(t, "16#F1", "num 16#F1 241")
}

// P17.1: what is right behind a number: each byte, behind numbers of each base.
func TestBytesBehindNumbers(t *testing.T) {
	for _, c := range []struct {
		base based
		text string
		n    int64
	}{
		{bases()[0], "0", 0}, {bases()[0], "7", 7}, {bases()[0], "16", 16}, {bases()[0], "0010", 10}, {bases()[0], "3", 3},
		{bases()[1], "2#0", 0}, {bases()[1], "2#101", 5},
		{bases()[2], "8#0", 0}, {bases()[2], "8#17", 15},
		{bases()[3], "16#0", 0}, {bases()[3], "16#A9", 169},
	} {
		for i := range 256 {
			tail := string([]byte{byte(i)})
			digit := strings.Index(c.base.digits, tail)
			switch {
			case digit >= 0:
				tryLex(t, c.text+tail, "num "+c.text+tail+" "+strconv.FormatInt(c.n*int64(len(c.base.digits))+int64(digit), 10))
			case begins(byte(i)) == 'n', begins(byte(i)) == 'd', tail == "_", tail == "#":
				tryError(t, c.text+tail, api.ErrForm, 1, 1)
				tryError(t, "\n"+c.text+tail+" ?", api.ErrForm, 2, 1)
			case begins(byte(i)) == 's':
				tryLex(t, c.text+tail, "num "+c.text+" "+strconv.FormatInt(c.n, 10)+", sign "+tail)
			case begins(byte(i)) == 'b':
				tryLex(t, c.text+tail, "num "+c.text+" "+strconv.FormatInt(c.n, 10))
			default:
				tryError(t, c.text+tail, api.ErrForm, 1, 1+len(c.text))
			}
		}
	}
}

// P17.1: digits that the base hasn't, small ones of base 16, and other bases.
func TestNoNumbers(t *testing.T) {
	for _, text := range []string{
		"2#2", "2#9", "2#A", "2#12", "2#102", "2#1A", "2#1F", "2#1_0", "2#0#1", "2#1#1",
		"8#8", "8#9", "8#A", "8#18", "8#79", "8#7A", "8#1_7", "8#8#8",
		"16#G", "16#g", "16#a", "16#f", "16#Fa", "16#fF", "16#0a", "16#1g", "16#FF_FF", "16#FF#", "16#0x1", "16#16#1",
		"10#5", "0#0", "1#0", "1#1", "3#1", "4#1", "7#1", "9#1", "12#1", "15#1", "17#1", "32#1", "36#Z", "64#1", "160#1", "162#1", "02#1", "08#1", "016#1", "002#1", "22#1", "28#1", "88#1", "116#1", "6#1", "16##1", "2##1", "2#-1",
		"1a", "0x10", "0b1", "0o7", "1e5", "1E5", "1A", "0A", "1_", "1_000", "1#", "5#5", "123abc", "12IF", "1OF", "0_", "9#",
	} {
		tryError(t, text, api.ErrForm, 1, 1)
		tryError(t, "x:=\n"+text+";", api.ErrForm, 2, 1)
	}
}

// P17.1: a base's sign that is parted from its number, or that stands elsewhere, is none.
func TestBasesApart(t *testing.T) {
	tryError(t, "2 #1", api.ErrForm, 1, 3)
	tryError(t, "16\n#1", api.ErrForm, 2, 1)
	tryError(t, "a2#1", api.ErrForm, 1, 3)
	tryError(t, "16# 1", api.ErrForm, 1, 1)
	tryLex(t, "2 1", "num 2 2, num 1 1")
	tryLex(t, "16#A 16 2#1(**)2", "num 16#A 10, num 16 16, num 2#1 1, num 2 2")
}
