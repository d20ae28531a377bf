package tests

import (
	"slices"
	"strings"
	"testing"

	"loop.example/s0059/impl"
)

func TestReadUnitParts(t *testing.T) {
	wantUnit(t, lines("use m;prefix - 9;use k;infix + 6 left;postfix ! 10;infix ^ 8 right;infix = 4 none;begin;a + b"), impl.Unit{
		Uses: []string{"m", "k"},
		Ops: []impl.Op{
			prefix("-", 9), infix("+", 6, impl.SideLeft), postfix("!", 10), infix("^", 8, impl.SideRight), infix("=", 4, impl.SideNone),
		},
		Body: "a + b",
	})
	wantUnit(t, lines("begin;1"), impl.Unit{Body: "1"})
	wantUnit(t, lines("use m;begin;"), impl.Unit{Uses: []string{"m"}})
	wantUnit(t, lines("prefix - 9;begin"), impl.Unit{Ops: []impl.Op{prefix("-", 9)}})
}

func TestReadUnitBeginAsTheLastLine(t *testing.T) {
	for _, text := range []string{"begin", "begin\n", "  begin  ", " begin \n", "\n\nbegin", "\n\nbegin\n"} {
		wantUnit(t, text, impl.Unit{})
	}
	wantUnit(t, "begin\n\n", impl.Unit{Body: "\n"})
	wantUnit(t, "begin\n ", impl.Unit{Body: " "})
}

func TestReadUnitFirstBeginEndsTheHeader(t *testing.T) {
	wantUnit(t, lines("use a;begin;begin;1"), impl.Unit{Uses: []string{"a"}, Body: "begin\n1"})
	wantUnit(t, lines("begin;use a;begin;begin;1"), impl.Unit{Body: "use a\nbegin\nbegin\n1"})
	wantUnit(t, lines("begin;begin"), impl.Unit{Body: "begin"})
	wantUnit(t, lines("begin; begin ;"), impl.Unit{Body: " begin \n"})
	for _, wrong := range []string{"use", "x", "prefix + 1 left", "begin now", "infix", "\x00"} {
		wantUnit(t, "use a\nbegin\n"+wrong, impl.Unit{Uses: []string{"a"}, Body: wrong})
		wantUnit(t, "begin\n"+wrong+"\nbegin\n", impl.Unit{Body: wrong + "\nbegin\n"})
	}
	wantUnit(t, lines("begin;prefix - 9;-1"), impl.Unit{Body: "prefix - 9\n-1"})
}

func TestReadUnitBeginAmongWords(t *testing.T) {
	for _, line := range []string{"begin", " begin", "begin ", "    begin   "} {
		wantUnit(t, line+"\nx", impl.Unit{Body: "x"})
		wantUnit(t, "use a\n"+line+"\nx", impl.Unit{Uses: []string{"a"}, Body: "x"})
	}
	for _, line := range []string{
		"begin now", "now begin", "begin begin", "Begin", "BEGIN", "begin.", "begi", "beginn", "be gin", "begin\t", "\tbegin", "begin\r", "begin\x00", "\xffbegin",
	} {
		wantNoUnit(t, line, 2, 1)
		wantNoUnit(t, "use a\n\n"+line+"\nbegin\n1", 2, 3)
	}
	wantUnit(t, lines("use begin;prefix begin 1;infix begin 2 left;postfix begin 3;begin;"), impl.Unit{
		Uses: []string{"begin"},
		Ops:  []impl.Op{prefix("begin", 1), infix("begin", 2, impl.SideLeft), postfix("begin", 3)},
	})
	wantNoUnit(t, lines("use begin"), 3, 0)
	wantNoUnit(t, lines("prefix begin 1;postfix begin 1"), 3, 0)
	wantNoUnit(t, lines("infix + begin left;begin"), 2, 1)
	wantNoUnit(t, lines("infix + 1 begin;begin"), 2, 1)
}

func TestReadUnitBlanks(t *testing.T) {
	wantUnit(t, lines(";  ;use a;; ;   use    b   ;;  infix   +   6   left  ;begin;x"), impl.Unit{
		Uses: []string{"a", "b"},
		Ops:  []impl.Op{infix("+", 6, impl.SideLeft)},
		Body: "x",
	})
	wantUnit(t, strings.Repeat(" ", 100)+"\n"+strings.Repeat("\n", 100)+"begin\n", impl.Unit{})
	wantNoUnit(t, " ", 3, 0)
	wantNoUnit(t, "\n", 3, 0)
	wantNoUnit(t, " \n  \n", 3, 0)
	wantNoUnit(t, ";", 2, 1)
}

// Only the byte 32 parts words; only the byte 10 parts lines.
func TestReadUnitOrdinaryBytes(t *testing.T) {
	for b := range 256 {
		word := string([]byte{byte(b)})
		if b == ' ' || b == '\n' {
			continue
		}
		ops := []impl.Op{prefix(word, 1), infix("x"+word+"y", 2, impl.SideNone), postfix(word+word, 3)}
		text := "use " + word + "\nprefix " + word + " 1\ninfix x" + word + "y 2 none\npostfix " + word + word + " 3\nbegin\n" + word
		wantUnit(t, text, impl.Unit{Uses: []string{word}, Ops: ops, Body: word})
		wantNoUnit(t, "use a\n"+word+"\nbegin\n", 2, 2)
		wantNoUnit(t, "use"+word+"a\nbegin\n", 2, 1)
		wantNoUnit(t, "use "+word+" a\nbegin\n", 2, 1)
		wantNoUnit(t, word+"use a\nbegin\n", 2, 1)
		wantNoUnit(t, "infix + 6 left"+word+"\nbegin\n", 2, 1)
	}
	wantUnit(t, "use ÄÖ\nprefix ÷ 1\nbegin\n→", impl.Unit{Uses: []string{"ÄÖ"}, Ops: []impl.Op{prefix("÷", 1)}, Body: "→"})
	wantUnit(t, "use a\u00a0b\nuse c\u2028d\nbegin\n", impl.Unit{Uses: []string{"a\u00a0b", "c\u2028d"}})
	wantUnit(t, "use a\r\nbegin\n1\r\n", impl.Unit{Uses: []string{"a\r"}, Body: "1\r\n"})
	wantNoUnit(t, "use a\rbegin\r1", 3, 0)
	wantNoUnit(t, "use a\r begin\r1", 2, 1)
	wantNoUnit(t, "use a\r\nbegin\r\n1\r\n", 2, 2)
	wantNoUnit(t, "prefix + 1\r\nbegin\n", 2, 1)
	wantNoUnit(t, "\r\nbegin\n", 2, 1)
	wantNoUnit(t, "\t\nbegin\n", 2, 1)
	wantNoUnit(t, "use\ta\nbegin\n", 2, 1)
}

func TestReadUnitForms(t *testing.T) {
	for _, line := range []string{
		"use", "use a b", "use a b c", "use use use", "USE a", "uses a", "a", "a b", "a b c", "a b c d",
		"prefix", "prefix +", "prefix + 1 left", "prefix + 1 none", "prefix + 1 1", "prefix 1 +", "prefix left 1 1", "Prefix + 1",
		"postfix", "postfix +", "postfix + 1 right", "postfix + 1 2 3", "postfix 1 +", "POSTFIX + 1",
		"infix", "infix +", "infix + 1", "infix + 1 left left", "infix + 1 left 2", "infix 1 + left", "infix + left 1", "infix left + 1", "infixl + 1",
		"infix + 1 Left", "infix + 1 lef", "infix + 1 lefts", "infix + 1 middle", "infix + 1 1", "infix + 1 0", "infix + 1 l eft",
		"operator + 1", "+ 1", "+ prefix 1", "1", "-", "#", "# use a", "use a # b",
	} {
		wantNoUnit(t, line, 2, 1)
		wantNoUnit(t, line+"\nbegin\n1", 2, 1)
		wantNoUnit(t, "use a\n\nprefix + 1\n "+line+" \nbegin\n1", 2, 4)
		wantNoUnit(t, "use a\n"+line, 2, 2)
	}
	for _, line := range []string{"use a", "use use", "use 1", "use +", "use prefix"} {
		wantUnit(t, line+"\nbegin\n", impl.Unit{Uses: []string{strings.TrimPrefix(line, "use ")}})
	}
	for line, o := range map[string]impl.Op{
		"prefix + 1":               prefix("+", 1),
		"prefix prefix 1":          prefix("prefix", 1),
		"prefix 1 1":               prefix("1", 1),
		"postfix + 1":              postfix("+", 1),
		"postfix infix 3":          postfix("infix", 3),
		"infix + 1 left":           infix("+", 1, impl.SideLeft),
		"infix + 1 right":          infix("+", 1, impl.SideRight),
		"infix + 1 none":           infix("+", 1, impl.SideNone),
		"infix left 1 right":       infix("left", 1, impl.SideRight),
		"infix 000001 000001 none": infix("000001", 1, impl.SideNone),
	} {
		wantUnit(t, line+"\nbegin\n", impl.Unit{Ops: []impl.Op{o}})
	}
}

func TestReadUnitLevels(t *testing.T) {
	for word, level := range map[string]int{
		"0": 0, "1": 1, "9": 9, "00": 0, "07": 7, "10": 10, "1000": 1000, "1001": 1001, "000000": 0, "000001": 1, "099999": 99999,
		"100000": 100000, "999999": 999999, "000010": 10, "010": 10, "123456": 123456,
	} {
		wantUnit(t, "prefix - "+word+"\ninfix + "+word+" left\npostfix ! "+word+"\nbegin\n", impl.Unit{
			Ops: []impl.Op{prefix("-", level), infix("+", level, impl.SideLeft), postfix("!", level)},
		})
	}
	for _, word := range []string{
		"0000001", "1000000", "0000000", "9999999", "00000000000000000001", "99999999999999999999999", "+1", "-1", "-0", "1.0", "1e3", "0x1", "1_0", "a", "1a",
		"a1", "1\t", "\t1", "1\r", "1\x00", "١", "left", "1,", "²",
	} {
		wantNoUnit(t, "prefix - "+word+"\nbegin\n", 2, 1)
		wantNoUnit(t, "infix - "+word+" left\nbegin\n", 2, 1)
		wantNoUnit(t, "postfix - "+word+"\nbegin\n", 2, 1)
	}
}

// A declaration need not be a well-formed operator, and may come twice.
func TestReadUnitDeclarationsOfAnyText(t *testing.T) {
	for _, text := range []string{"a", "1", "(", ")", "+a", "_", "begin", strings.Repeat("+", impl.MaxSigns+1), "#", "\x00", "é"} {
		wantUnit(t, "prefix "+text+" 0\ninfix "+text+" 999999 none\nbegin\n", impl.Unit{
			Ops: []impl.Op{prefix(text, 0), infix(text, 999999, impl.SideNone)},
		})
	}
	wantUnit(t, lines("use a;infix + 6 left;use a;infix + 06 left;use b;use a;infix + 6 left;begin;"), impl.Unit{
		Uses: []string{"a", "a", "b", "a"},
		Ops:  slices.Repeat([]impl.Op{infix("+", 6, impl.SideLeft)}, 3),
	})
	wantUnit(t, lines("infix + 6 left;postfix + 6;prefix + 6;infix + 6 right;begin;"), impl.Unit{
		Ops: []impl.Op{infix("+", 6, impl.SideLeft), postfix("+", 6), prefix("+", 6), infix("+", 6, impl.SideRight)},
	})
}

func TestReadUnitBodyStays(t *testing.T) {
	every := make([]byte, 256)
	for i := range every {
		every[i] = byte(i)
	}
	for _, body := range []string{
		"", " ", "\n", "\n\n", " \n ", "a + b", "  a  +  b  ", "\ta\r\n", "begin", "begin\n", "\nbegin\n", "use a\n", "#$%", "((", string(every), "é\xff\xfe",
	} {
		wantUnit(t, "begin\n"+body, impl.Unit{Body: body})
		wantUnit(t, "use a\n begin \n"+body, impl.Unit{Uses: []string{"a"}, Body: body})
	}
}

func TestReadUnitLimitOfTheText(t *testing.T) {
	word := strings.Repeat("x", impl.MaxText)
	wantUnit(t, "begin\n"+word[6:], impl.Unit{Body: word[6:]})
	wantNoUnit(t, "begin\n"+word[5:], 1, 0)
	wantUnit(t, "use "+word[10:]+"\nbegin", impl.Unit{Uses: []string{word[10:]}})
	wantNoUnit(t, "use "+word[9:]+"\nbegin", 1, 0)
	blanks := strings.Repeat(" ", impl.MaxText)
	wantUnit(t, blanks[5:]+"begin", impl.Unit{})
	wantNoUnit(t, blanks[4:]+"begin", 1, 0)
	wantNoUnit(t, blanks, 3, 0)
	wantNoUnit(t, blanks+" ", 1, 0)
	wantNoUnit(t, word, 2, 1)
	wantNoUnit(t, word+"x", 1, 0)
	ends := strings.Repeat("\n", impl.MaxText)
	wantNoUnit(t, ends, 3, 0)
	wantNoUnit(t, ends+"\n", 1, 0)
	wantNoUnit(t, ends[1:]+"x", 2, impl.MaxText)
	wantUnit(t, ends[5:]+"begin", impl.Unit{})
	many := strings.Repeat("use a\n", (impl.MaxText-5)/6)
	wantUnit(t, many+"begin", impl.Unit{Uses: slices.Repeat([]string{"a"}, (impl.MaxText-5)/6)})
	wantNoUnit(t, strings.Repeat(word, 50), 1, 0)
}

func TestReadUnitFirstCodeAndFirstLine(t *testing.T) {
	long := strings.Repeat("x", impl.MaxText)
	wantNoUnit(t, "wrong\nbegin\n"+long, 1, 0)
	wantNoUnit(t, "wrong\n"+long, 1, 0)
	wantNoUnit(t, "use a\n"+strings.Repeat(" ", impl.MaxText), 1, 0)
	wantNoUnit(t, "wrong", 2, 1)
	wantNoUnit(t, "wrong\n", 2, 1)
	wantNoUnit(t, "use a\nwrong\nuse b\n", 2, 2)
	wantNoUnit(t, "use a\nuse b\n\nuse\n", 2, 4)
	wantNoUnit(t, "use a\nuse b\n\nuse", 2, 4)
	wantNoUnit(t, "wrong\nwrong\nbegin\nwrong", 2, 1)
	wantNoUnit(t, "\n\nuse a\n\nwrong\nprefix\nbegin\n", 2, 5)
	wantNoUnit(t, "", 3, 0)
	wantNoUnit(t, "use a", 3, 0)
	wantNoUnit(t, "use a\nprefix - 9\n\n", 3, 0)
}

// Every text of few pieces is held against the document's words.
func TestReadUnitOfAllSmallTexts(t *testing.T) {
	hold := func(text string) {
		got, code, line := impl.ReadUnit(text)
		want, wantCode, wantLine := wordedReadUnit(text)
		if code != wantCode || line != wantLine || !sameUnit(got, want) {
			t.Fatalf("%q: %#v %d %d, not %#v %d %d", text, got, code, line, want, wantCode, wantLine)
		}
	}
	pieces := []string{"begin", "use", "prefix", "infix", "+", "7", "left", " ", "\n"}
	eachList(pieces, 6, func(list []string) { hold(strings.Join(list, "")) })
	words := []string{"begin", "use", "postfix", "infix", "12", "none", "\n"}
	eachList(words, 6, func(list []string) { hold(strings.Join(list, " ")) })
	wholes := []string{"begin", "use a", " use  b ", "prefix + 1", "infix * 2 right", "wrong", "", " "}
	eachList(wholes, 5, func(list []string) { hold(strings.Join(list, "\n")) })
}

func TestReadUnitGivesNewMemory(t *testing.T) {
	text := lines("use a;use b;prefix - 9;infix + 6 left;begin;1")
	first, _, _ := impl.ReadUnit(text)
	uses, ops := first.Uses[:cap(first.Uses)], first.Ops[:cap(first.Ops)]
	for i := range uses {
		uses[i] = "changed"
	}
	for i := range ops {
		ops[i] = impl.Op{}
	}
	wantUnit(t, text, impl.Unit{
		Uses: []string{"a", "b"}, Ops: []impl.Op{prefix("-", 9), infix("+", 6, impl.SideLeft)}, Body: "1",
	})
}
