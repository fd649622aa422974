package programs_test

import (
	"fmt"
	"slices"
	"strings"
	"testing"

	"caisson/api"
	"caisson/programs"
)

// Lines that are of no form.
func badLines() []string {
	digits := strings.Repeat("00", 32)
	return []string{
		"", " ", "  ", "-", "0", "\t", "\x00", "\r", "x", "é", "\xff",
		"client ", " client", "client 0", "client -", "client client", "Client", "CLIENT", "clients", "clien", "client\r", "client\x00", "client\t",
		"read", "read ", "read -", "read --1", "read +1", "read -0", "read +0", "read 00", "read 01", "read -01", "read 1 ", "read  1", " read 1", "read 1 -", "read 1 00", "read 1 2", "read 1-", "read 1\r", "read\t1", "read 1\t", "read\x001", "read 1\x00", "Read 1", "READ 1", "reads 1", "read1", "read x", "read 0x1", "read 1e1", "read 1_0", "read 1.0", "read 1,0", "read a", "read ١",
		"read 9223372036854775808", "read -9223372036854775809", "read 18446744073709551616", "read 18446744073709551615", "read 92233720368547758070", "read -92233720368547758080", "read 00000000000000000001", "read 99999999999999999999999999999999999999", "read 4294967296 ",
		"write", "write ", "write 0", "write 0 ", "write -", "write - -", "write  0 -", "write 0  -", "write 0 - ", "write 0 - -", "write 0 -00", "write 0 00-", "write 0 --", "write 0 0", "write 0 000", "write 0 0g", "write 0 g0", "write 0 0A", "write 0 A0", "write 0 FF", "write 0 fF", "write 0 0x00", "write 0 +0", "write 0 -0", "write 0 0-", "write 0 0 0", "write 0 00 00", "write 0 00 ", "write 0 00\r", "write 0 00\t", "write 0 00\x00", "write 0 0\x00", "write 0 _0", "write 0 0_", "write 0 é", "write 00 -", "write +0 -", "write -0 00", "write 9223372036854775808 -", "write -9223372036854775809 " + digits, "write 0 " + digits + "0", "write 0" + digits, "Write 0 -", "WRITE 0 -", "write 00ff 0", "write - 0", "write  -",
		"flush ", " flush", "flush 0", "flush -", "flush 0 -", "flush 1", "flush 1 -", "flush 0 00", "Flush", "FLUSH", "flushs", "flus", "flush\r", "flush\t", "flush\x00", "flush flush",
		"op", "op ", "op 1", "op 4 ", "op 4 0", "op 4 0 ", "op 4 - -", "op - 0 -", "op -1 0 -", "op -0 0 -", "op +4 0 -", "op 04 0 -", "op 004 0 -", "op 256 0 -", "op 257 0 -", "op 260 0 -", "op 2550 0 -", "op 1000 0 -", "op 65536 0 -", "op 4294967300 0 -", "op 18446744073709551620 0 -", "op 99999999999999999999 0 -", "op a 0 -", "op ff 0 -", "op 0x4 0 -", "op 4 00 -", "op 4 -0 -", "op 4 +1 -", "op 4 01 -", "op 4 9223372036854775808 -", "op 4 -9223372036854775809 -", "op 4 0 0", "op 4 0 000", "op 4 0 0A", "op 4 0 gg", "op 4 0 - ", "op 4 0 -  ", "op 4 0 - -", "op 4 0 00 00", "op  4 0 -", "op 4  0 -", "op 4 0  -", " op 4 0 -", "op\t4 0 -", "op 4 0 -\r", "op 4 0 -\x00", "Op 4 0 -", "OP 4 0 -", "ops 4 0 -", "op 4 0 -0", "op 4 0 0-",
		// What another form says.
		"op 1 0 -", "op 1 3 -", "op 1 -1 -", "op 1 9223372036854775807 -", "op 1 -9223372036854775808 -", "op 2 0 -", "op 2 1 -", "op 2 0 00", "op 2 -1 " + digits, "op 2 0 " + digits, "op 3 0 -", "op 03 0 -", "op 3 00 -", "op 3 -0 -",
	}
}

// Lines of all forms, at their limits too.
func goodLines() []string {
	digits := strings.Repeat("a5", 64)
	return []string{
		"read 0", "read 1", "read -1", "read 10", "read 9223372036854775807", "read -9223372036854775808", "read -10",
		"write 0 -", "write 0 00", "write 0 0a", "write -1 " + digits[2:], "write 9223372036854775807 " + digits, "write -9223372036854775808 " + digits,
		"flush",
		"op 0 0 -", "op 0 -1 00", "op 1 0 00", "op 1 3 " + digits, "op 3 1 -", "op 3 0 00", "op 3 -1 -", "op 3 0 " + digits, "op 4 0 -", "op 255 9223372036854775807 " + digits, "op 255 -9223372036854775808 -", "op 10 0 -", "op 200 10 10",
	}
}

// Lines of operations with too much data.
func longLines() []string {
	var l []string
	for _, begin := range []string{"write 0 ", "write -1 ", "op 0 0 ", "op 1 0 ", "op 3 0 ", "op 3 1 ", "op 255 9223372036854775807 "} {
		for _, n := range []int{65, 66, 128, 320, 5000} {
			l = append(l, begin+strings.Repeat("0f", n))
		}
	}
	return l
}

// Lines that have too much data, but are of no form either.
func longBadLines() []string {
	digits := strings.Repeat("00", 65)
	return []string{"write 0 " + digits + "0", "write 0 " + digits + "0g", "write 0 A0" + digits, "write 0 " + digits + " ", "write 0 " + digits + " -", "write 00 " + digits, "write 9223372036854775808 " + digits, "op 256 0 " + digits, "op 2 0 " + digits, "op 02 0 " + digits, "op 4 0 " + digits + "\r", "op 4 -0 " + digits, "read 0 " + digits, "flush " + digits, "client " + digits}
}

// contexts returns what may stand ahead of a line, with the number of its lines: there is a place for an operation behind each of them.
func contexts() map[string]int {
	return map[string]int{
		"client\n":                                 2,
		"client\nread 1\n":                         3,
		"client\nwrite 1 00\nclient\n":             4,
		strings.Repeat("client\n", 8):              9,
		"client\n" + strings.Repeat("flush\n", 63): 65,
		strings.Repeat("client\n"+strings.Repeat("op 3 1 -\n", 64), 7) + "client\n": 457,
	}
}

// P23.5: lines that are of no form, in several places, whatever follows them.
func TestLinesOfNoForm(t *testing.T) {
	t.Parallel()
	for _, bad := range slices.Concat(badLines(), longBadLines()) {
		for before, line := range contexts() {
			for _, after := range []string{"\n", "\nread 1\n", "\nclient\n", "\n\n", "\nread 01\n", "\nread 1"} {
				checkFault(t, before+bad+after, line, api.ErrForm)
			}
		}
		checkFault(t, bad+"\n", 1, api.ErrForm)
		checkFault(t, bad+"\nclient\n", 1, api.ErrForm)
	}
}

// P23.5: a line without its line feed is none, even if it is of the form of one, or has another error.
func TestLinesWithoutALineFeed(t *testing.T) {
	t.Parallel()
	for _, text := range slices.Concat(badLines(), goodLines(), longLines(), longBadLines(), []string{"client"}) {
		if text == "" {
			continue
		}
		for before, line := range contexts() {
			checkFault(t, before+text, line, api.ErrForm)
		}
		checkFault(t, text, 1, api.ErrForm)
	}
	checkFault(t, strings.Repeat("client\n", 8)+"client", 9, api.ErrForm)
	checkFault(t, "client\n"+strings.Repeat("read 1\n", 64)+"read 1", 66, api.ErrForm)
}

// P23.5: an operation ahead of all programs, of each form, and with too much data.
func TestOperationsAheadOfPrograms(t *testing.T) {
	t.Parallel()
	for _, line := range slices.Concat(goodLines(), longLines()) {
		checkFault(t, line+"\n", 1, api.ErrForm)
		checkFault(t, line+"\nclient\n", 1, api.ErrForm)
		checkFault(t, line+"\n"+line+"\n", 1, api.ErrForm)
	}
	for _, line := range goodLines() {
		l, at, e := programs.Parse("client\n" + line + "\n")
		if len(l) != 1 || len(l[0]) != 1 || at != 0 || e != api.OK {
			t.Errorf("Parse(%q): %v, line %d, error %d", line, l, at, e)
		}
		checkParse(t, "client\n"+line+"\n")
	}
}

// P23.5: the program after MaxClients ones, however many operations they have; ErrForm comes first.
func TestTooManyPrograms(t *testing.T) {
	t.Parallel()
	for _, p := range []string{"client\n", "client\nread 1\n", "client\n" + strings.Repeat("write 0 -\n", 64)} {
		n := strings.Count(p, "\n")
		for _, after := range []string{"", "client\n", "read 1\n", "read 01\n", "\n", "write 0 " + strings.Repeat("00", 65) + "\n"} {
			checkFault(t, strings.Repeat(p, 8)+"client\n"+after, 8*n+1, api.ErrLimit)
		}
		checkParse(t, strings.Repeat(p, 8))
		checkFault(t, strings.Repeat(p, 8)+"client \n", 8*n+1, api.ErrForm)
	}
	checkFault(t, strings.Repeat("client\n", 100), 9, api.ErrLimit)
}

// P23.5: the operation after MaxOps ones of its program, in each program; ErrForm comes first.
func TestTooManyOperations(t *testing.T) {
	t.Parallel()
	for n := range 8 {
		before := strings.Repeat("client\nflush\n", n) + "client\n" + strings.Repeat("read 7\n", 64)
		line := 2*n + 66
		for _, good := range slices.Concat(goodLines(), longLines()) {
			checkFault(t, before+good+"\n", line, api.ErrLimit)
		}
		for _, bad := range slices.Concat(badLines(), longBadLines()) {
			checkFault(t, before+bad+"\n", line, api.ErrForm)
		}
		checkParse(t, before)
		checkParse(t, before+"client\n")
		checkFault(t, before+"read 7\nread 07\n", line, api.ErrLimit)
		checkFault(t, before+"read 07\nread 7\n", line, api.ErrForm)
	}
	checkFault(t, "client\n"+strings.Repeat("flush\n", 1000), 66, api.ErrLimit)
}

// P23.5: data of more than MaxData bytes; ErrForm comes first.
func TestTooMuchData(t *testing.T) {
	t.Parallel()
	for before, line := range contexts() {
		for _, long := range longLines() {
			checkFault(t, before+long+"\n", line, api.ErrLimit)
			checkFault(t, before+long+"\nread 01\n", line, api.ErrLimit)
			checkFault(t, before+"read 01\n"+long+"\n", line, api.ErrForm)
		}
	}
	for n := 1; n < 70; n++ {
		for _, begin := range []string{"write 5 ", "op 1 5 ", "op 3 0 ", "op 7 5 "} {
			s := "client\n" + begin + strings.Repeat("c3", n) + "\n"
			l, line, e := programs.Parse(s)
			if n > 64 {
				checkFault(t, s, 2, api.ErrLimit)
			} else if line != 0 || e != api.OK || len(l[0][0].Data) != n {
				t.Errorf("Parse with %d bytes: line %d, error %d", n, line, e)
			}
			checkParse(t, s)
		}
	}
}

// P23.5: of several faults the one of the first line is returned, whichever they are.
func TestSeveralFaults(t *testing.T) {
	t.Parallel()
	long := "write 1 " + strings.Repeat("00", 65)
	for _, a := range []string{"read 01", long, "", "client 1"} {
		for _, b := range []string{"read 01", long, "", "client 1", "client", "flush"} {
			e := api.ErrForm
			if a == long {
				e = api.ErrLimit
			}
			checkFault(t, lines("client", "flush", a, b), 3, e)
			checkFault(t, lines("client", "flush", a, "flush", b, a), 3, e)
			checkFault(t, lines("client", a, b)+a, 2, e)
		}
	}
}

// P23.5: texts of MaxText bytes, and of one more.
func TestGreatTexts(t *testing.T) {
	t.Parallel()
	const most = 1 << 20
	fill := func(begin, unit, end string) string {
		return begin + strings.Repeat(unit, (most-len(begin)-len(end))/len(unit)) + end
	}
	for _, x := range []struct {
		text string
		line int
		e    api.Errno
	}{
		{fill("client\nwrite 0 ", "00", "\n"), 2, api.ErrLimit},
		{fill("client\nwrite 10 ", "00", "\n"), 2, api.ErrLimit},
		{fill("client\nwrite 10 ", "00", "0\n"), 2, api.ErrForm},
		{fill("client\nwrite 10 ", "00", "0g\n"), 2, api.ErrForm},
		{fill("", "client\n", "client\n"), 9, api.ErrLimit},
		{fill("client\n", "flush\n", "flush\n"), 66, api.ErrLimit},
		{fill("client\n", "\n", ""), 2, api.ErrForm},
		{fill("", " ", ""), 1, api.ErrForm},
		{fill("client\nread 0", " ", "\n"), 2, api.ErrForm},
		{fill("client\nread ", "9", "\n"), 2, api.ErrForm},
		{fill("client\nread ", "0", "\n"), 2, api.ErrForm},
		{fill("client\nop ", "1", " 0 -\n"), 2, api.ErrForm},
		{fill("client\nop 4 -", "1", " -\n"), 2, api.ErrForm},
		{fill("client\n", "x", "\n"), 2, api.ErrForm},
	} {
		// The fault of the text stands ahead of what is put behind it.
		padded := x.text + strings.Repeat("\n", most-len(x.text))
		for _, text := range []string{x.text, padded} {
			checkGreatFault(t, text, x.line, x.e)
		}
		checkGreatFault(t, padded+"\n", 0, api.ErrLimit)
		checkGreatFault(t, x.text+padded, 0, api.ErrLimit)
	}
	checkGreatFault(t, "\n"+strings.Repeat("client\n", most/7+1), 0, api.ErrLimit)
	checkGreatFault(t, strings.Repeat("\x00", 4*most), 0, api.ErrLimit)
	checkFault(t, "client\nwrite 1 "+strings.Repeat("5a", most/2-8)+"\n", 2, api.ErrLimit)
}

// checkGreatFault is checkFault without the model, which is too slow for many great texts.
func checkGreatFault(t *testing.T, s string, line int, e api.Errno) {
	t.Helper()
	if l, at, got := programs.Parse(s); at != line || got != e || len(l) > 0 {
		t.Fatalf("Parse(%d bytes, %.30q): %d programs, line %d, error %d, want line %d, error %d", len(s), s, len(l), at, got, line, e)
	}
}

// base returns a text with lines of each form.
func base() string {
	return lines("client", "read 3", "write 1 00ff", "flush", "client", "op 3 7 -", "write 0 -", "op 1 12 0a", "op 254 -120 b9", "read -40")
}

// P23.5, P23.6: each byte of a text replaced by each value, left out, doubled, and with each value put before it.
func TestChangedTexts(t *testing.T) {
	t.Parallel()
	s := base()
	checkParse(t, s)
	for at := range s {
		checkParse(t, s[:at])
		checkParse(t, s[at:])
		checkParse(t, s[:at]+s[at+1:])
		for b := range 256 {
			checkParse(t, s[:at]+string([]byte{byte(b)})+s[at+1:])
			checkParse(t, s[:at]+string([]byte{byte(b)})+s[at:])
		}
	}
}

// P23.5, P23.6: each part of a text left out or doubled.
func TestTextsWithoutParts(t *testing.T) {
	t.Parallel()
	s := base()
	for from := range s {
		for to := from + 1; to <= len(s); to++ {
			checkParse(t, s[:from]+s[to:])
			checkParse(t, s[:to]+s[from:])
		}
	}
}

// P23.5, P23.6: all short words behind each first word.
func TestAllShortWords(t *testing.T) {
	t.Parallel()
	letters := "01289-+af gA"
	var words []string
	for _, a := range letters {
		words = append(words, string(a))
		for _, b := range letters {
			words = append(words, string(a)+string(b))
			for _, c := range letters {
				words = append(words, string(a)+string(b)+string(c))
			}
		}
	}
	for _, w := range words {
		for _, form := range []string{"%s", "client%s", "read %s", "read 1%s", "read -%s", "write %s -", "write 1 %s", "write 1 0%s", "flush%s", "op %s 7 -", "op 2%s 7 -", "op 9 %s -", "op 9 1 %s", "op 3 0 %s"} {
			checkParse(t, "client\n"+fmt.Sprintf(form, w)+"\n")
		}
	}
}

// P23.5, P23.6: drawn texts of words, good and bad ones, against the definition.
func TestDrawnTexts(t *testing.T) {
	t.Parallel()
	r := drawer(5)
	all := slices.Concat(goodLines(), goodLines(), goodLines(), longLines()[:1], []string{"client", "client", "client"})
	for range 3000 {
		var l []string
		for range r.IntN(30) {
			l = append(l, pick(r, all))
		}
		if r.IntN(4) == 0 {
			l = append(l, pick(r, badLines()))
		}
		checkParse(t, "client\n"+strings.Join(l, "\n")+"\n")
	}
	words := []string{"client", "read", "write", "flush", "op", "-", "0", "1", "3", "00", "-1", "a0", "255", "256", "\n", "\n", " "}
	for range 20000 {
		var b strings.Builder
		b.WriteString("client\n")
		for range 1 + r.IntN(8) {
			b.WriteString(pick(r, words))
			b.WriteString(pick(r, []string{" ", " ", "\n", ""}))
		}
		checkParse(t, b.String()+pick(r, []string{"\n", "\n", ""}))
	}
}
