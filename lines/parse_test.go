package lines_test

import (
	"math/rand/v2"
	"strings"
	"testing"

	"garderobe/api"
	"garderobe/lines"
	"garderobe/script"
)

// P31.2: texts of no lines with words.
func TestNoWords(t *testing.T) {
	for _, s := range []string{"", "\n", "\n\n\n", " ", "\t", " \t \n\t ", "#", "# on", "  # on\n#\n\t#alloc x", "##", "#\n", " \n \n#\xff\x00"} {
		parsed(t, s)
	}
}

// P31.2: remarks, with words ahead and without; blanks ahead, behind and between; ends of lines.
func TestForm(t *testing.T) {
	on, free := script.Act{Kind: script.On}, script.Act{Kind: script.Free, Which: 12}
	for _, s := range []string{"on", "on\n", " on", "\ton", "on ", "on\t", " \t on \t ", "on#", "on #", "on#off", "on # off # on", "\non", "\n\n \t\n#x\non\n\n", "on\n#", "on\n ", "on#\n#on"} {
		parsed(t, s, on)
	}
	for _, s := range []string{"free 12", "free\t12", "free  \t  12", "\tfree 12\t#", "free 12#3", "free 00012", "free 012", "#\nfree 12 # 13\n"} {
		parsed(t, s, free)
	}
	parsed(t, "on\nfree 12\n\n#on\n  on#\nfree\t012", on, free, on, free)
	parsed(t, "on\n\n\n\non", on, on)
	parsed(t, "set 00001 none", script.Act{Kind: script.Set, K: 1, Yes: true})
	parsed(t, "set 1 00000", script.Act{Kind: script.Set, K: 1})
	parsed(t, "write 00000 00065 -#-", script.Act{Kind: script.Write, At: 65})
	parsed(t, "tamper 65535 00 #", script.Act{Kind: script.Tamper, At: 65535, B: []byte{0}})
}

// P31.2: lines that are no act's.
func TestNone(t *testing.T) {
	for _, s := range []string{
		"off", "On", "ON", "onn", "o", "o n", "on on", "on 1", "on -", "format 1", "format format", "close x", "begin 0", "commit -", "abort none", "stat 1", "check 1",
		"open", "open x", "open Read", "open read write", "open write read", "open read 1", "open 1", "open none", "open -", "read", "write", "none", "-", "1",
		"alloc", "alloc x", "alloc -", "alloc none", "alloc 1 2", "alloc -1", "alloc +1", "alloc 1.", "alloc 0x1", "alloc 65536", "alloc 99999", "alloc 100000", "alloc 000001", "alloc 000000",
		"alloc 18446744073709551617", "alloc 1_0", "alloc 1e1", "alloc ١", "alloc 1,", "alloc 1/", "alloc 1:", "alloc /", "alloc :", "alloc " + strings.Repeat("9", 400),
		"free", "free x", "free 1 2", "free none", "free 65536", "size", "size 1 1", "size a",
		"realloc", "realloc 1", "realloc 1 2 3", "realloc x 1", "realloc 1 x", "realloc 65536 1", "realloc 1 65536", "realloc none 1",
		"write 1", "write 1 2", "write 1 2 3", "write 1 2 zz", "write 1 2 aA", "write 1 2 AA", "write 1 2 0", "write 1 2 000", "write 1 2 00 00", "write 1 2 00 #\n#\nx", "write 1 2 --", "write 1 2 -0", "write 1 2 0-", "write 1 2 -00", "write 1 2 none", "write 1 2 g0", "write 1 2 0g", "write 1 2 0x", "write 1 2 `0", "write 1 2 /0", "write 1 2 :0", "write 1 2 ü", "write -1 2 00", "write 1 -2 00", "write 65536 2 00", "write 1 65536 00",
		"read 1", "read 1 2", "read 1 2 3 4", "read 1 2 x", "read 1 2 -", "read x 2 3", "read 1 x 3",
		"set", "set 1", "set none", "set none 1", "set none none", "set 1 none none", "set 1 2 3", "set 1 None", "set 1 -", "set 1 non", "set x 1", "set 65536 none", "set 1 65536", "set 1 none 0",
		"root", "root none", "root x", "root 1 1", "root 65536", "crash", "crash 0", "crash 00 00", "crash x", "crash none", "crash 1 00", "arm", "arm 1", "arm - 1", "arm 00 00 00", "arm x 00", "arm 1 1", "arm 65536 -",
		"tamper", "tamper 1", "tamper 1 1", "tamper 1 00 00", "tamper x 00", "tamper - 1", "tamper 65536 -",
		"on\r", "on\v", "\fon", "on\u00a0", "on\x00", "on;", "\xffon", "on\u0085", "alloc\v1", "alloc\u20031", "fre#e 1", "alloc #1", "open #write",
	} {
		first := strings.Count(s, "\n") + 1 // the text's own last line is the wrong one, but where a remark follows
		if strings.Contains(s, "#\n#\nx") {
			first = 3
		}
		refused(t, s, first)
		refused(t, s+"\n", first)
		refused(t, "on\n"+s, first+1)
		refused(t, "\n#\n  \n"+s+"\nalso none\n", first+3)
		refused(t, strings.Repeat("stat # on\n", 300)+s+"\non", first+300)
	}
}

// P31.2: bytes as many as an act may have, and more.
func TestManyBytes(t *testing.T) {
	for _, c := range []struct{ ahead, sign string }{{"write 1 2 ", "ab"}, {"crash ", "ab"}, {"arm 3 ", "00"}, {"tamper 4 ", "ff"}} {
		s := c.ahead + strings.Repeat(c.sign, mostBytes)
		l, n, e := lines.Parse(s)
		if e != api.OK || n != 0 || len(l) != 1 || len(l[0].B) != mostBytes {
			t.Errorf("%q: line %d, error %d", c.ahead, n, e)
		}
		refused(t, s+c.sign, 1)
		refused(t, "on\n"+s+c.sign[:1]+"\n", 2)
		refused(t, s+strings.Repeat(c.sign, 1<<16), 1)
	}
}

// P31.2: texts put together by chance from words that may be and others, against a reader by the words.
func TestChance(t *testing.T) {
	words := strings.Split("format open close begin commit abort alloc free realloc write read set root size stat check crash arm tamper on"+
		" none - 0 1 00001 65535 65536 000000 -1 +5 00 ff 0a1b abc AB 6869 x # #x on# 7#", " ")
	gaps := []string{" ", " ", " ", "\t", "  ", " \t", "\n", "\n", "\n\n", ""}
	m, right := readers(), 0
	for seed := range uint64(30000) {
		r := rand.New(rand.NewPCG(seed, 2))
		s := gaps[r.IntN(len(gaps))]
		for range 1 + r.IntN(6) {
			if s += words[r.IntN(len(words))]; r.IntN(3) == 0 {
				s += gaps[r.IntN(len(gaps))] + spelt(chance(r))
			}
			s += gaps[r.IntN(len(gaps))]
		}
		if as(t, m, s) {
			right++
		}
	}
	if right < 1000 {
		t.Errorf("but %d texts that are acts'", right)
	}
}

// as fails if a text is not parsed as the reader has it; true, if it is acts'.
func as(t *testing.T, m reader, s string) bool {
	t.Helper()
	want, line := m.read(s)
	if line > 0 {
		refused(t, s, line)
		return false
	}
	parsed(t, s, want...)
	return true
}

// P31.2: lines in which one byte was turned, left out or put in.
func TestTurned(t *testing.T) {
	m := readers()
	for seed := range uint64(6000) {
		r := rand.New(rand.NewPCG(seed, 3))
		s := []byte("on\n" + spelt(chance(r)) + "\nstat\n" + spelt(chance(r)))
		at := r.IntN(len(s))
		switch r.IntN(3) {
		case 0:
			s[at] = " \t\n#09af-rgnwx/:`G\r\x80\xff"[r.IntN(21)]
		case 1:
			s = append(s[:at], s[at+1:]...)
		default:
			s = append(s[:at], append([]byte{" \t\n#05af-"[r.IntN(9)]}, s[at:]...)...)
		}
		as(t, m, string(s))
	}
}

// P31.2: any bytes.
func TestAny(t *testing.T) {
	m := readers()
	for seed := range uint64(4000) {
		s := text(seed, int(seed%40))
		as(t, m, string(s))
		for k := range s {
			s[k] = " \tonstaf#\n19-"[s[k]%13]
		}
		as(t, m, string(s))
	}
	for c := range 256 {
		for _, s := range []string{string([]byte{byte(c)}), "on" + string([]byte{byte(c)}), string([]byte{byte(c)}) + "on", "free 1" + string([]byte{byte(c)}) + "2", "free" + string([]byte{byte(c)}) + "2",
			"crash 0" + string([]byte{byte(c)}), "crash " + string([]byte{byte(c)}) + "0", "free " + string([]byte{byte(c)})} {
			as(t, m, s)
		}
	}
}

// P31.2: each step of a line that is cut off, and each line without one of its words, or with one twice.
func TestCut(t *testing.T) {
	m := readers()
	for _, x := range every() {
		for k := range min(len(x.s), 60) {
			as(t, m, x.s[:k])
			as(t, m, x.s[k:])
		}
		words := strings.Fields(x.s)
		for k := range words {
			as(t, m, strings.Join(append(append([]string{}, words[:k]...), words[k+1:]...), " "))
			as(t, m, strings.Join(append(append([]string{}, words[:k+1]...), words[k:]...), " "))
		}
	}
}

// P31.2 and P1: long texts end: of many lines, of lines of many words, of long words and long remarks.
func TestLong(t *testing.T) {
	const n = 1 << 18
	if l, line, e := lines.Parse(strings.Repeat("on\n", n)); len(l) != n || line != 0 || e != api.OK {
		t.Error("many lines", len(l), line, e)
	}
	refused(t, strings.Repeat("\n", n)+"x", n+1)
	refused(t, strings.Repeat("on ", n), 1)
	refused(t, strings.Repeat("x", n), 1)
	refused(t, "alloc "+strings.Repeat("0", n)+"1", 1)
	parsed(t, strings.Repeat(" ", n)+"on"+strings.Repeat("\t", n)+strings.Repeat("#", n), script.Act{Kind: script.On})
	parsed(t, "set"+strings.Repeat(" ", n)+"1"+strings.Repeat(" \t", n)+"none", script.Act{Kind: script.Set, K: 1, Yes: true})
}
