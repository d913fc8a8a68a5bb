package asm_test

import (
	"strings"
	"testing"

	"tandem/api"
	"tandem/asm"
)

func TestLengthOfASource(t *testing.T) {
	for _, s := range []string{"\n", " ", ";", "\r\n"} {
		most := strings.Repeat(s, 65536/len(s))
		if o, err := asm.Assemble(most); err != nil || len(o.Segs) != 0 {
			t.Errorf("5.1: %d bytes: %v", len(most), err)
		}
		if _, err := asm.Image(most); err != nil {
			t.Errorf("5.1: %d bytes: %v", len(most), err)
		}
		refuses(t, "5.1", []bad{{most + " ", 1, 1, asm.ErrSize}, {most + most, 1, 1, asm.ErrSize}})
	}
	// the length goes ahead of all other faults
	refuses(t, "5.1", []bad{{strings.Repeat("!\n", 32769), 1, 1, asm.ErrSize}, {strings.Repeat("!\n", 32768), 1, 1, asm.ErrToken}, {strings.Repeat("\n", 65535) + "!", 65536, 1, asm.ErrToken}})
}

func TestLines(t *testing.T) {
	gives(t, "5.1", []good{
		{"", ""}, {"\n", ""}, {"\r", ""}, {"\r\n\r", ""}, {" nop", "EA"}, {" nop\n", "EA"}, {" nop\r\n nop\r", "EA EA"}, {"\tnop\t\n\t \n", "EA"},
		{"nop;x\r\r\r\n", "EA"}, {"nop ; any \x00\xff\"' bytes\nnop", "EA EA"}, {";\nnop", "EA"}, {"; nop", ""}, {"nop;nop", "EA"},
		{" .byte \";\", ';', 1;2", "3B 3B 01"}, {"lda#1\nsta$10,x\nlda(2),y", "A9 01 95 10 B1 02"}, {"  lda\t #\t1  ", "A9 01"},
	})
	refuses(t, "5.1", []bad{
		{" nop\r\r\n", 1, 5, asm.ErrToken}, {"\r\r", 1, 1, asm.ErrToken}, {" \rnop", 1, 2, asm.ErrToken}, {"nop\r nop", 1, 4, asm.ErrToken}, {"\n\n nop\r \r\n", 3, 5, asm.ErrToken},
		{"nop\n\n\n  !", 4, 3, asm.ErrToken}, {"\x0bnop", 1, 1, asm.ErrToken}, {"\x0cnop", 1, 1, asm.ErrToken}, {"nop\x00", 1, 4, asm.ErrToken}, {"\ufeffnop", 1, 1, asm.ErrToken}, {"nop\u00a0", 1, 4, asm.ErrToken},
	})
}

func TestNames(t *testing.T) {
	long := strings.Repeat("b", 31)
	gives(t, "5.1", []good{
		{"a" + long + " = 1\n.byte a" + long, "01"}, {"_ = 2\n.byte _", "02"}, {"_9 = 3\nZz_0 = 4\n.byte _9,Zz_0", "03 04"},
		{"@" + long + ": .byte @" + long, "00"}, {"@0: .byte 5,@0\n@_: .byte @_\n@9a: .byte 7", "05 00 02 07"}, {"Aa = 1\naa = 2\naA = 3\n.byte aa,Aa,aA", "02 01 03"},
		{"ldax = 1\nxx = 2\nAX = 3\nl = 4\nld = 5\n.byte ldax,xx,AX,l,ld", "01 02 03 04 05"},
	})
	refuses(t, "5.1", []bad{
		{" b" + long + "b = 1", 1, 2, asm.ErrName}, {"@" + long + "b: nop", 1, 1, asm.ErrName}, {" ." + long + "b", 1, 2, asm.ErrName}, {" ." + long, 1, 2, asm.ErrDirective},
		{" lda #b" + long + "b", 1, 7, asm.ErrName}, {" .byte 1, @" + long + "b", 1, 11, asm.ErrName}, {" nop ." + long + "b", 1, 6, asm.ErrName}, {" nop ." + long, 1, 6, asm.ErrToken},
		{"@", 1, 1, asm.ErrToken}, {" @ x", 1, 2, asm.ErrToken}, {".", 1, 1, asm.ErrToken}, {" . org 5", 1, 2, asm.ErrToken}, {"@@x: nop", 1, 1, asm.ErrToken}, {"..org 5", 1, 1, asm.ErrToken}, {"@-", 1, 1, asm.ErrToken},
		{"é: nop", 1, 1, asm.ErrToken}, {"aé: nop", 1, 2, asm.ErrToken}, {"a\xff", 1, 2, asm.ErrToken}, {"a.b = 1", 1, 1, asm.ErrName}, {"a b = 1", 1, 1, asm.ErrName},
	})
}

func TestNumbers(t *testing.T) {
	values(t, nil, map[string]int{
		"0": 0, "9": 9, "007": 7, "2147483647": 2147483647, "$7fffffff": 2147483647, "$7FFFFFFF": 2147483647, "$aBcDeF": 0xabcdef, "%1111111111111111111111111111111": 2147483647, "%0": 0, "%10": 2,
		"$0": 0, "00000000000000000000000000002147483647": 2147483647, "$" + strings.Repeat("0", 5000) + "1f": 31, "%" + strings.Repeat("0", 60000) + "1": 1, "1234567890": 1234567890, "$89": 137,
	})
	noValues(t, nil, []bad{
		{"2147483648", 1, 1, asm.ErrRange}, {"$80000000", 1, 1, asm.ErrRange}, {"%10000000000000000000000000000000", 1, 1, asm.ErrRange}, {"4294967296", 1, 1, asm.ErrRange}, {"18446744073709551616", 1, 1, asm.ErrRange},
		{"$10000000000000000", 1, 1, asm.ErrRange}, {strings.Repeat("9", 65536), 1, 1, asm.ErrRange}, {"$" + strings.Repeat("f", 65535), 1, 1, asm.ErrRange}, {"%1" + strings.Repeat("0", 64), 1, 1, asm.ErrRange},
		{"$", 1, 1, asm.ErrToken}, {"%", 1, 1, asm.ErrToken}, {"1 + $ 1", 1, 5, asm.ErrToken}, {" %-1", 1, 2, asm.ErrToken}, {"$g", 1, 1, asm.ErrToken}, {"$1_0", 1, 1, asm.ErrToken}, {"$_", 1, 1, asm.ErrToken}, {"%2", 1, 1, asm.ErrToken}, {"%1a", 1, 1, asm.ErrToken},
		{"1a", 1, 1, asm.ErrToken}, {"0x10", 1, 1, asm.ErrToken}, {"1_000", 1, 1, asm.ErrToken}, {"5 + 1e5", 1, 5, asm.ErrToken}, {"99999999999z", 1, 1, asm.ErrToken}, {"z9999999999", 1, 1, asm.ErrUnknown}, {"$ffffffffg", 1, 1, asm.ErrToken},
		{"1 $ffffffff $", 1, 3, asm.ErrRange}, {"1 $ $ffffffff", 1, 3, asm.ErrToken}, {"5é", 1, 2, asm.ErrToken}, {"1 2147483648", 1, 3, asm.ErrRange}, {"5@x", 1, 2, asm.ErrToken}, {"5.x", 1, 2, asm.ErrToken},
	})
	// a fault of the tokens goes ahead of all others, wherever it stands
	refuses(t, "5.1", []bad{{"lda: foo 5 5 , .x 2147483648", 1, 19, asm.ErrRange}, {"lda: foo \"", 1, 10, asm.ErrToken}, {"nop nop nop ?", 1, 13, asm.ErrToken}, {"x x x abcdefghijabcdefghijabcdefghijabcdefghij", 1, 7, asm.ErrName}})
}

func TestCharacters(t *testing.T) {
	values(t, nil, map[string]int{"'a'": 97, "'''": 39, "'\"'": 34, "' '": 32, "';'": 59, "'\t'": 9, "'\x00'": 0, "'\x7f'": 127, "'1'+'2'": 99, "'''+'''": 78, "'\n'": 10, "'\r'": 13})
	noValues(t, nil, []bad{
		{"'", 1, 1, asm.ErrToken}, {"''", 1, 1, asm.ErrToken}, {"'' ", 1, 1, asm.ErrToken}, {"''x", 1, 1, asm.ErrToken}, {"'a", 1, 1, asm.ErrToken}, {"'ab'", 1, 1, asm.ErrToken}, {"1+'", 1, 3, asm.ErrToken}, {"'a \"", 1, 1, asm.ErrToken},
		{"'\xff'", 1, 2, asm.ErrToken}, {"'\xff", 1, 2, asm.ErrToken}, {"'a\xff", 1, 1, asm.ErrToken}, {"'\xc3", 1, 2, asm.ErrToken}, {"'\xc3'", 1, 2, asm.ErrToken}, {"'\xed\xa0\x80'", 1, 2, asm.ErrToken}, {"'\xc0\x80'", 1, 2, asm.ErrToken}, {"'\xf4\x90\x80\x80'", 1, 2, asm.ErrToken},
		{"'é", 1, 1, asm.ErrToken}, {"'éa'", 1, 1, asm.ErrToken}, {"'é\xff", 1, 1, asm.ErrToken}, {"'é'", 1, 1, asm.ErrRange}, {" '\u0080'", 1, 2, asm.ErrRange}, {"'\ufffd'", 1, 1, asm.ErrRange}, {"'\U0010ffff'", 1, 1, asm.ErrRange}, {"'\ufffd", 1, 1, asm.ErrToken}, {"'''''", 1, 4, asm.ErrToken},
	})
	gives(t, "5.1", []good{
		{".charmap '\ufffd', 1\n.charmap '\U0010ffff', 2\n.charmap 'é', 3\n.byte 'é', \"\ufffdé\U0010ffff\"", "03 01 03 02"},
		{".byte '\r'", "0D"}, {".byte '''\r\n", "27"},
	})
	refuses(t, "5.1", []bad{{".byte '\n'", 1, 7, asm.ErrToken}, {".byte '\r\n'", 1, 7, asm.ErrToken}})
}

func TestTexts(t *testing.T) {
	gives(t, "5.1", []good{
		{".byte \"\"", ""}, {".byte \"\",1", "01"}, {".byte \"'\"", "27"}, {".byte \"a;b\" ; c", "61 3B 62"}, {".byte \"a\",\"b\"", "61 62"}, {".byte \"\r\"", "0D"}, {".byte \"\x00\x7f\t\"", "00 7F 09"}, {".byte\"a\"", "61"},
	})
	refuses(t, "5.1", []bad{
		{".byte \"", 1, 7, asm.ErrToken}, {".byte \"ab", 1, 7, asm.ErrToken}, {".byte \"ab\n\"", 1, 7, asm.ErrToken}, {".byte \"a\" \"", 1, 11, asm.ErrToken}, {".byte \"a\xff\"", 1, 9, asm.ErrToken}, {".byte \"a\xff", 1, 9, asm.ErrToken},
		{".byte \"é\xff\"", 1, 10, asm.ErrToken}, {".byte \"\ufffd\xff\"", 1, 11, asm.ErrToken}, {".byte \"\xed\xa0\x80\"", 1, 8, asm.ErrToken}, {".byte \"\ufffd", 1, 7, asm.ErrToken}, {".byte \"a\xc3\"", 1, 9, asm.ErrToken}, {".byte \"a\xef\xbf\"", 1, 9, asm.ErrToken},
		{"nop \"a\"", 1, 5, asm.ErrToken}, {"\"a\"", 1, 1, asm.ErrToken}, {"lda #\"a\"", 1, 6, asm.ErrToken}, {".word \"a\"", 1, 7, asm.ErrToken}, {".byte 1+\"a\"", 1, 9, asm.ErrToken}, {".byte \"a\"+1", 1, 10, asm.ErrToken},
	})
	noValues(t, nil, []bad{{"\"a\"", 1, 1, asm.ErrToken}, {"1+\"a", 1, 3, asm.ErrToken}, {"1+\"a\nb\"", 1, 3, asm.ErrToken}, {"1 \"a\n\xff\"", 1, 6, asm.ErrToken}})
}

func TestSigns(t *testing.T) {
	values(t, nil, map[string]int{"1<<4": 16, "16>>2": 4, "1<<<$0102": 4, "1<< <$0102": 4, "256>>>$0203": 64, "1*-1": -1, "1*~0": -1, "5-<1": 4, "(1)": 1, "1|2^3&4": 3})
	noValues(t, nil, []bad{{"1< <4", 1, 2, asm.ErrToken}, {"1> >4", 1, 2, asm.ErrToken}, {"1<4", 1, 2, asm.ErrToken}, {"1<<>>4", 1, 4, asm.ErrToken}, {"<<<1", 1, 1, asm.ErrToken}, {"<<$102", 1, 1, asm.ErrToken}})
	for c := range 256 {
		s := string([]byte{byte(c)})
		if strings.Contains(" \t\n\r;#(),:=+-*/&|^~<>_", s) || c >= '0' && c <= '9' || c >= 'A' && c <= 'Z' || c >= 'a' && c <= 'z' {
			continue
		}
		refuses(t, "5.1", []bad{{"nop\n  nop " + s, 2, 7, asm.ErrToken}, {s, 1, 1, asm.ErrToken}})
	}
}

func TestEvalOfALongText(t *testing.T) {
	long := strings.Repeat(" ", 65534) + "12"
	if v, err := asm.Eval(long, nil); v != 12 || err != nil {
		t.Errorf("5.3: a text of 65536 bytes: %d, %v", v, err)
	}
	noValues(t, []api.Sym{{Name: "n", Value: 5}}, []bad{{long + " ", 1, 1, asm.ErrSize}, {strings.Repeat("?", 65537), 1, 1, asm.ErrSize}, {strings.Repeat(" ", 65535) + "?", 1, 65536, asm.ErrToken}})
}
