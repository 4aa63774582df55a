package run_test

import (
	"fmt"
	"slices"
	"strings"
	"sync"
	"testing"

	"paritymill/run"
)

// maker makes the same numbers in each run.
type maker struct{ state uint64 }

func (m *maker) below(n int) int {
	m.state = m.state*6364136223846793005 + 1442695040888963407
	return int(m.state>>33) % n
}

func (m *maker) of(l []string) string {
	return l[m.below(len(l))]
}

// hex is a block, of few blocks or of all.
func (m *maker) hex() string {
	if m.below(3) == 0 {
		return m.of([]string{"0000", "0001", "0100", "ffff", "00ff", "8000"})
	}
	return fmt.Sprintf("%04x", m.below(65536))
}

// textOf lines.
func textOf(lines []string) string {
	if len(lines) == 0 {
		return ""
	}
	return strings.Join(lines, "\n") + "\n"
}

// piecesOf an answer, each of which is to have its end.
func piecesOf(t *testing.T, answers string) []string {
	t.Helper()
	if answers == "" {
		return nil
	}
	if !strings.HasSuffix(answers, "\n") {
		t.Errorf("answers %q: the last one has no end", answers)
	}
	return strings.Split(strings.TrimSuffix(answers, "\n"), "\n")
}

func wantRun(t *testing.T, text, want string) {
	t.Helper()
	if got := run.Run(text); got != want {
		t.Errorf("Run of %.120q: %.120q, want %.120q", text, got, want)
	}
}

// wantLines runs one text of lines, each with its answer behind it.
func wantLines(t *testing.T, both ...string) {
	t.Helper()
	var lines, want []string
	for i := 0; i < len(both); i += 2 {
		lines, want = append(lines, both[i]), append(want, both[i+1])
	}
	got := piecesOf(t, run.Run(textOf(lines)))
	if len(got) != len(want) {
		t.Errorf("Run of %q: %q, want %q", lines, got, want)
		return
	}
	for i := range want {
		if got[i] != want[i] {
			t.Errorf("line %d of %q, %q: %q, want %q", i, lines, lines[i], got[i], want[i])
		}
	}
}

// wantBad tells of a line that it is bad, alone, between others, and as a last one without its end.
func wantBad(t *testing.T, line string) {
	t.Helper()
	wantRun(t, line+"\n", "bad\n")
	wantLines(t, "write 0 12ab", "ok", line, "bad", "read 0", "12ab", line, "bad")
	if line != "" {
		wantRun(t, "lost 0\n"+line, "0\nbad\n")
	}
}

// byModel holds a text against the model.
func byModel(t *testing.T, text string) {
	t.Helper()
	got, want := run.Run(text), modelRun(text)
	if got == want {
		return
	}
	lines, is, be := strings.Split(text, "\n"), strings.Split(got, "\n"), strings.Split(want, "\n")
	for i := range lines {
		if i >= len(is) || i >= len(be) || is[i] != be[i] {
			t.Fatalf("Run of %.3000q: from line %d, %q, on: %q, want %q", text, i, lines[i], is[min(i, len(is)):], be[min(i, len(be)):])
		}
	}
	t.Fatalf("Run of %.3000q: %.3000q, want %.3000q", text, got, want)
}

// probes are texts by whose answers all that the array has is told.
func probes() []string {
	all := ""
	for block := range mostBlock {
		all += fmt.Sprintf("read %d\n", block)
	}
	for row := range mostRows {
		all += fmt.Sprintf("lost %d\n", row)
	}
	out := []string{all, "scrub\n" + all}
	for d := range mostDisks {
		out = append(out, strings.Repeat(fmt.Sprintf("rebuild %d\n", d), 5)+all)
		for e := range d {
			out = append(out, fmt.Sprintf("fail %d\nfail %d\n", d, e)+all)
		}
	}
	return out
}

// wantUnchanged tells of lines that they are answered so behind others, and change nothing there.
func wantUnchanged(t *testing.T, ahead []string, both ...string) {
	t.Helper()
	var between []string
	answers := ""
	for i := 0; i < len(both); i += 2 {
		between, answers = append(between, both[i]), answers+both[i+1]+"\n"
	}
	for _, probe := range probes() {
		plain := run.Run(textOf(ahead) + probe)
		first := run.Run(textOf(ahead))
		want := first + answers + plain[len(first):]
		wantRun(t, textOf(ahead)+textOf(between)+probe, want)
	}
}

// filling writes all blocks, each of which is another.
func filling() (lines, blocks []string) {
	for block := range mostBlock {
		b := fmt.Sprintf("%02x%02x", 17*block+3, 255-29*block%256)
		lines, blocks = append(lines, fmt.Sprintf("write %d %s", block, b)), append(blocks, b)
	}
	return lines, blocks
}

// filled is a text that writes all blocks, as lines and answers.
func filled() []string {
	var both []string
	lines, _ := filling()
	for _, line := range lines {
		both = append(both, line, "ok")
	}
	return both
}

// readAll has lines and answers that read all blocks that were filled in.
func readAll() []string {
	var both []string
	_, blocks := filling()
	for block, b := range blocks {
		both = append(both, fmt.Sprintf("read %d", block), b)
	}
	return both
}

// diskOf a block, written out.
func diskOf(block int) int {
	return [mostBlock]int{1, 2, 3, 0, 1, 2, 4, 0, 1, 3, 4, 0}[block]
}

// sets of disks, of so many.
func sets(count int) [][]int {
	if count == 0 {
		return [][]int{nil}
	}
	var out [][]int
	for _, set := range sets(count - 1) {
		from := 0
		if len(set) > 0 {
			from = set[len(set)-1] + 1
		}
		for d := from; d < mostDisks; d++ {
			out = append(out, append(slices.Clone(set), d))
		}
	}
	return out
}

func TestEachKindOfLine(t *testing.T) {
	wantLines(t,
		"read 0", "0000",
		"write 0 01ff", "ok",
		"read 0", "01ff",
		"read 1", "0000",
		"write 11 a0b9", "ok",
		"read 11", "a0b9",
		"lost 0", "0",
		"fail 1", "ok",
		"lost 0", "1",
		"read 0", "01ff",
		"replace 1", "ok",
		"lost 3", "1",
		"rebuild 1", "3",
		"lost 0", "0",
		"lost 1", "1",
		"rebuild 1", "2",
		"rebuild 1", "1",
		"rebuild 1", "0",
		"rebuild 1", "ErrState",
		"lost 3", "0",
		"scrub", "-",
		"poke 1 0 1234", "ok",
		"read 0", "1234",
		"scrub", "1.0",
		"read 0", "01ff",
		"scrub", "-",
		"", "bad",
		"fly", "bad",
		"read 12", "ErrRange",
	)
}

func TestNoBytesHaveNoAnswer(t *testing.T) {
	wantRun(t, "", "")
}

func TestLastPieceWithItsEndAndWithout(t *testing.T) {
	for _, c := range [][2]string{
		{"read 3", "0000\n"}, {"scrub", "-\n"}, {"lost 0", "0\n"}, {"fail 9", "ErrRange\n"}, {"fail 4", "ok\n"},
		{"write 0 abcd", "ok\n"}, {"x", "bad\n"}, {" ", "bad\n"}, {"\x00", "bad\n"}, {"\r", "bad\n"},
	} {
		wantRun(t, c[0], c[1])
		wantRun(t, c[0]+"\n", c[1])
		wantRun(t, c[0]+"\n\n", c[1]+"bad\n")
		wantRun(t, "lost 1\n"+c[0], "0\n"+c[1])
		wantRun(t, "lost 1\n"+c[0]+"\n", "0\n"+c[1])
	}
}

func TestEmptyLines(t *testing.T) {
	wantRun(t, "\n", "bad\n")
	wantRun(t, "\n\n", "bad\nbad\n")
	wantRun(t, "\n\n\n", "bad\nbad\nbad\n")
	wantRun(t, "\nlost 0", "bad\n0\n")
	wantRun(t, "\nlost 0\n", "bad\n0\n")
	wantRun(t, "\n\nlost 0\n", "bad\nbad\n0\n")
	wantRun(t, "lost 0\n\nscrub\n", "0\nbad\n-\n")
	wantRun(t, "lost 0\n\n\nscrub", "0\nbad\nbad\n-\n")
	wantRun(t, "lost 0\n\n", "0\nbad\n")
	wantRun(t, "lost 0\n\n\n", "0\nbad\nbad\n")
}

// ofBytes is a text of so many bytes, of one piece again and again, and in its end as much of a piece as fits.
func ofBytes(piece string, count int) string {
	return strings.Repeat(piece, count/len(piece)+1)[:count]
}

func TestLongestTexts(t *testing.T) {
	pieces := []string{
		"x", "\n", " ", "\x00", "\xff", "é", "x\n", "read 0\n", "read 11\n", "write 3 ab01\nread 3\n", "fail 1\n", "scrub\n", "lost 3\nlost 4\n",
		"poke 0 1 0101\nscrub\n", "rebuild 2\nfail 2\nreplace 2\n", "read 0 \n",
	}
	for _, piece := range pieces {
		for _, count := range []int{1, 2, 2998, 2999, 3000} {
			text := ofBytes(piece, count)
			if run.Run(text) == "too long\n" {
				t.Errorf("%d bytes of %q are too long", count, piece)
			}
			byModel(t, text)
		}
		for _, count := range []int{3001, 3002, 3003, 3100, 4000, 6000, 6001, 65536, 1 << 20} {
			wantRun(t, ofBytes(piece, count), "too long\n")
		}
	}
	wantRun(t, strings.Repeat("\n", 3000), strings.Repeat("bad\n", 3000))
	wantRun(t, strings.Repeat("\n", 2999), strings.Repeat("bad\n", 2999))
	wantRun(t, strings.Repeat("lost 0\n", 428)+"scru", strings.Repeat("0\n", 428)+"bad\n")
	wantRun(t, strings.Repeat("lost 0\n", 427)+"lost 1\nscr\n", strings.Repeat("0\n", 428)+"bad\n")
	wantRun(t, strings.Repeat("scrub\n", 500), strings.Repeat("-\n", 500))
	wantRun(t, strings.Repeat("scrub\n", 500)+"\n", "too long\n")
	wantRun(t, strings.Repeat("scrub\n", 499)+"scrub", strings.Repeat("-\n", 500))
	wantRun(t, strings.Repeat("x", 3000), "bad\n")
	wantRun(t, strings.Repeat("x", 2999)+"\n", "bad\n")
	// Bytes are counted, and not what they stand for.
	wantRun(t, strings.Repeat("é", 1500), "bad\n")
	wantRun(t, strings.Repeat("é", 1500)+"\n", "too long\n")
}

func TestBytesThatNoLineHas(t *testing.T) {
	for _, b := range []string{"\x00", "\r", "\t", "\v", "\f", "\x1b", "\x7f", "\x80", "\x85", "\xa0", "\xff", "é", "\u00a0", "\u2028", "\ufeff", "\xc3"} {
		for _, line := range []string{"read 0", "write 1 abcd", "fail 2", "replace 3", "poke 4 0 00ff", "rebuild 1", "lost 2", "scrub"} {
			wantBad(t, b)
			wantBad(t, b+line)
			wantBad(t, line+b)
			wantBad(t, line[:3]+b+line[3:])
			wantBad(t, line[:3]+b+line[4:])
			wantBad(t, strings.ReplaceAll(line, " ", b)+b)
			wantBad(t, strings.ReplaceAll(line, " ", " "+b)+b)
		}
	}
	wantRun(t, "lost 0\r\nlost 0\r\nlost 0", "bad\nbad\n0\n")
	wantRun(t, "lost 0\rlost 0\n", "bad\n")
	wantRun(t, "lost 0\x00\nlost 0\n", "bad\n0\n")
}

// badNumbers are words that are no N.
var badNumbers = []string{
	"", "00", "01", "07", "012", "000", "001", "0000", "0001", "00000", "01000",
	"10000", "10001", "12345", "65536", "99999", "100000", "4294967296", "18446744073709551616", "99999999999999999999999",
	"-1", "+1", "-0", "+0", "-", "+", "1-", "1+", ".", "1.", ".1", "1.0", "1,0", "1e0", "0x1", "0b1", "0o1", "1_0", "_1",
	"a", "f", "O", "l", "x", "1a", "a1", "/", ":", "1/", "1:", "0/", "0:", "\x00", "1\x00", "\x001", "1\r", "1\t", "\t1",
	"\xff", "1\xff", "\xb1", "\u0661", "\uff11", "½", "²", "N", "one", "read", "scrub", "\"1\"",
}

func TestBadNumbers(t *testing.T) {
	for _, n := range badNumbers {
		for _, word := range []string{"read", "fail", "replace", "rebuild", "lost"} {
			wantBad(t, word+" "+n)
		}
		wantBad(t, "write "+n+" abcd")
		wantBad(t, "poke "+n+" 0 abcd")
		wantBad(t, "poke 0 "+n+" abcd")
		wantBad(t, "poke "+n+" "+n+" abcd")
	}
}

func TestNumbersOfOneDigitToFour(t *testing.T) {
	for n := range 10000 {
		lines := fmt.Sprintf("lost %d\nread %d\nwrite %d 0102\npoke %d 0 0000\npoke 0 %d 0000\nrebuild %d\nreplace %d\nfail %d\n", n, n, n, n, n, n, n, n)
		row, block, disk := "ErrRange\n", "ErrRange\nErrRange\n", "ErrRange\nErrRange\nErrRange\n"
		pokeDisk, pokeRow := "ErrRange\n", "ErrRange\n"
		if n < 4 {
			row, pokeRow = "0\n", "ok\n"
		}
		if n < 12 {
			block = "0000\nok\n"
		}
		if n < 5 {
			pokeDisk, disk = "ok\n", "ErrState\nErrState\nok\n"
		}
		wantRun(t, lines, row+block+pokeDisk+pokeRow+disk)
	}
	for n := 10000; n < 12000; n += 7 {
		wantRun(t, fmt.Sprintf("lost %d\nread %d\nfail %d\n", n, n, n), "bad\nbad\nbad\n")
	}
}

// badBlocks are words that are no HEX.
var badBlocks = []string{
	"", "0", "00", "000", "00000", "000000", "00000000", "a", "abc", "abcde", "fffff", "12345",
	"00A0", "A000", "0B00", "000C", "ABCD", "aBcd", "abcD", "00F0", "00E0", "FFFF", "D00d",
	"00g0", "g000", "000g", "00`0", "`000", "00/0", "/000", "00:0", ":000", "000:", "000/", "00@0", "00G0", "0x00", "0X00", "x000", "00_0", "_000",
	"+000", "-000", "-001", "+0001", "0.00", "\x00000", "000\x00", "\xff000", "é00", "000\r", "0000\r", "0000\t", "\t000", "0000\x00", "HEX", "zzzz", "\uff10", "\u0660\u0660",
}

func TestBadBlocks(t *testing.T) {
	for _, b := range badBlocks {
		wantBad(t, "write 0 "+b)
		wantBad(t, "write 12 "+b)
		wantBad(t, "poke 0 0 "+b)
		wantBad(t, "poke 5 4 "+b)
	}
}

func TestEachByteOfABlock(t *testing.T) {
	for at := range 4 {
		for c := range 256 {
			b := []byte("0000")
			b[at] = byte(c)
			digit := c >= '0' && c <= '9' || c >= 'a' && c <= 'f'
			switch {
			case digit:
				wantLines(t, "write 7 "+string(b), "ok", "read 7", string(b), "poke 0 2 ffff", "ok", "poke 0 2 "+string(b), "ok", "read 7", string(b))
			case c != '\n':
				wantBad(t, "write 7 "+string(b))
				wantBad(t, "poke 4 2 "+string(b))
			}
		}
	}
}

func TestEachBlockIsReadAsItWasWritten(t *testing.T) {
	var lines, answers strings.Builder
	told := func() {
		wantRun(t, lines.String(), answers.String())
		lines.Reset()
		answers.Reset()
	}
	for b := range 65536 {
		at := b % mostBlock
		fmt.Fprintf(&lines, "write %d %04x\nread %d\n", at, b, at)
		fmt.Fprintf(&answers, "ok\n%04x\n", b)
		if b%100 == 99 {
			told()
		}
	}
	told()
}

// goodLines are of each kind.
var goodLines = []string{"read 0", "read 11", "write 1 abcd", "write 10 09af", "fail 2", "replace 3", "poke 4 0 00ff", "rebuild 1", "lost 2", "scrub"}

func TestWordsAndBlanks(t *testing.T) {
	for _, line := range goodLines {
		words := strings.Split(line, " ")
		wantBad(t, " "+line)
		wantBad(t, line+" ")
		wantBad(t, " "+line+" ")
		wantBad(t, "\t"+line)
		wantBad(t, line+"\t")
		wantBad(t, line+" 0")
		wantBad(t, line+" 0000")
		wantBad(t, line+" x")
		wantBad(t, line+" "+line)
		for i := range words {
			if i == 0 {
				continue
			}
			left, right := strings.Join(words[:i], " "), strings.Join(words[i:], " ")
			wantBad(t, left)
			wantBad(t, left+" ")
			wantBad(t, right)
			wantBad(t, " "+right)
			wantBad(t, left+right)
			wantBad(t, left+"  "+right)
			wantBad(t, left+"   "+right)
			wantBad(t, left+"\t"+right)
			wantBad(t, left+" \t"+right)
			wantBad(t, left+"\v"+right)
			wantBad(t, left+"\u00a0"+right)
			wantRun(t, left+"\n"+right, "bad\nbad\n")
			wantBad(t, left+" 0 "+right)
			wantBad(t, left+" 0000 "+right)
		}
	}
	for _, line := range []string{" ", "  ", "   ", "\t", "0", "0000", "ok", "bad", "-", "too long", "ErrRange"} {
		wantBad(t, line)
	}
	wantBad(t, "write 0000 0")
	wantBad(t, "write abcd 0")
	wantBad(t, "poke 0 abcd")
	wantBad(t, "poke 0 abcd 0")
	wantBad(t, "poke abcd 0 0")
	wantBad(t, "poke 0 0 0 abcd")
	wantBad(t, "write 0 0 abcd")
	wantBad(t, "write 0 ab cd")
	wantBad(t, "read 1 2")
}

func TestWordsThatAreNone(t *testing.T) {
	for _, line := range goodLines {
		word, behind, some := strings.Cut(line, " ")
		if some {
			behind = " " + behind
		}
		others := []string{
			"", strings.ToUpper(word), strings.ToUpper(word[:1]) + word[1:], word[:len(word)-1] + strings.ToUpper(word[len(word)-1:]),
			word + "s", word + word, word + "0", word + ".", "x" + word, "un" + word, word + "\x00",
		}
		for i := range word {
			others = append(others, word[:i], word[i+1:], word[:i]+word[i+1:], word[:i]+"x"+word[i:], word[:i]+" "+word[i:])
		}
		for _, other := range others {
			wantBad(t, other+behind)
		}
	}
	for _, word := range []string{"raw", "new", "row", "all", "run", "get", "put", "check", "heal", "order", "crash", "sync", "help", "quit"} {
		wantBad(t, word)
		wantBad(t, word+" 0")
		wantBad(t, word+" 0 0000")
		wantBad(t, word+" 0 0 0000")
	}
}

// Each byte is put in place of each one of each line, and ahead of it, and each one is taken out.
func TestEachByteOfEachLine(t *testing.T) {
	for _, line := range goodLines {
		for at := range len(line) + 1 {
			for c := range 256 {
				b := string([]byte{byte(c)})
				byModel(t, line[:at]+b+line[at:]+"\nscrub\nread 1")
				if at < len(line) {
					byModel(t, line[:at]+b+line[at+1:]+"\nscrub\nread 1\n")
				}
			}
			if at < len(line) {
				byModel(t, line[:at]+line[at+1:])
			}
		}
	}
}

func TestNumbersOutOfRange(t *testing.T) {
	for _, n := range []int{12, 13, 15, 20, 59, 60, 100, 256, 999, 1000, 4096, 9999} {
		wantLines(t, fmt.Sprintf("read %d", n), "ErrRange", fmt.Sprintf("write %d abcd", n), "ErrRange")
	}
	for _, n := range []int{5, 6, 10, 12, 99, 256, 261, 1000, 9999} {
		wantLines(t, fmt.Sprintf("fail %d", n), "ErrRange", fmt.Sprintf("replace %d", n), "ErrRange", fmt.Sprintf("rebuild %d", n), "ErrRange", fmt.Sprintf("poke %d 0 abcd", n), "ErrRange")
	}
	for _, n := range []int{4, 5, 19, 20, 256, 260, 9999} {
		wantLines(t, fmt.Sprintf("lost %d", n), "ErrRange", fmt.Sprintf("poke 0 %d abcd", n), "ErrRange", fmt.Sprintf("poke 9 %d abcd", n), "ErrRange")
	}
	for n := range mostBlock {
		wantLines(t, fmt.Sprintf("read %d", n), "0000", fmt.Sprintf("write %d abcd", n), "ok", fmt.Sprintf("read %d", n), "abcd")
	}
	// A disk or a row that is none is told ahead of what is lost.
	wantLines(t, "fail 0", "ok", "poke 0 4 abcd", "ErrRange", "poke 5 0 abcd", "ErrRange", "poke 0 0 abcd", "ErrState")
	wantLines(t, "fail 0", "ok", "fail 1", "ok", "fail 2", "ok", "read 12", "ErrRange", "write 12 abcd", "ErrRange", "read 3", "ErrLost")
	// What can't be read is told ahead of that.
	wantLines(t, "read 0012", "bad", "write 12 abc", "bad", "poke 9 9 ABCD", "bad", "fail 05", "bad")
}

func TestStatesOfADisk(t *testing.T) {
	for d := range mostDisks {
		of := func(word string) string { return fmt.Sprintf("%s %d", word, d) }
		poke := fmt.Sprintf("poke %d 0 0000", d)
		wantLines(t,
			of("replace"), "ErrState",
			of("rebuild"), "ErrState",
			poke, "ok",
			of("fail"), "ok",
			of("fail"), "ErrState",
			of("rebuild"), "ErrState",
			poke, "ErrState",
			of("replace"), "ok",
			of("replace"), "ErrState",
			poke, "ErrState",
			of("rebuild"), "3",
			poke, "ok",
			fmt.Sprintf("poke %d 1 0000", d), "ErrState",
			of("rebuild"), "2",
			of("rebuild"), "1",
			of("replace"), "ErrState",
			of("rebuild"), "0",
			of("rebuild"), "ErrState",
			fmt.Sprintf("poke %d 3 0000", d), "ok",
			of("replace"), "ErrState",
			of("fail"), "ok",
			of("replace"), "ok",
			of("rebuild"), "3",
			of("fail"), "ok",
			of("rebuild"), "ErrState",
			of("replace"), "ok",
			of("rebuild"), "3",
		)
	}
}

func TestWhatIsLostOfARow(t *testing.T) {
	wantLines(t,
		"lost 0", "0", "fail 0", "ok", "lost 0", "1", "lost 3", "1",
		"fail 3", "ok", "lost 1", "2", "fail 4", "ok", "lost 2", "3", "fail 1", "ok", "fail 2", "ok", "lost 3", "5",
		"replace 0", "ok", "lost 0", "5", "rebuild 0", "ErrLost", "lost 0", "5", "replace 1", "ok", "rebuild 1", "ErrLost",
	)
	wantLines(t,
		"fail 0", "ok", "fail 1", "ok", "replace 1", "ok", "replace 0", "ok", "lost 0", "2",
		"rebuild 1", "3", "lost 0", "1", "lost 1", "2", "rebuild 0", "3", "lost 0", "0", "lost 1", "2",
		"fail 2", "ok", "lost 0", "1", "lost 1", "3", "rebuild 0", "ErrLost", "rebuild 1", "ErrLost",
		"replace 2", "ok", "rebuild 2", "3", "lost 0", "0", "rebuild 2", "ErrLost", "lost 1", "3",
	)
}

// Whatever up to three disks fail: a block is read as long as its disk is there, or two are lost at most.
func TestReadWithWhatFailed(t *testing.T) {
	for count := range 4 {
		for _, set := range sets(count) {
			both := filled()
			for _, d := range set {
				both = append(both, fmt.Sprintf("fail %d", d), "ok")
			}
			for row := range mostRows {
				both = append(both, fmt.Sprintf("lost %d", row), fmt.Sprint(count))
			}
			_, blocks := filling()
			for block, b := range blocks {
				if count > 2 && slices.Contains(set, diskOf(block)) {
					b = "ErrLost"
				}
				both = append(both, fmt.Sprintf("read %d", block), b)
			}
			wantLines(t, both...)
		}
	}
}

// A block that is written while some failed is read then, and still when they are built.
func TestWriteWithWhatFailed(t *testing.T) {
	for count := range 4 {
		for _, set := range sets(count) {
			both := filled()
			for _, d := range set {
				both = append(both, fmt.Sprintf("fail %d", d), "ok")
			}
			for block := range mostBlock {
				line, read := fmt.Sprintf("write %d %04x", block, 4097*block+77), fmt.Sprintf("read %d", block)
				if count > 2 {
					both = append(both, line, "ErrLost")
					continue
				}
				both = append(both, line, "ok", read, line[len(line)-4:])
			}
			if count < 3 {
				both = append(both, built(set)...)
				for block := range mostBlock {
					both = append(both, fmt.Sprintf("read %d", block), fmt.Sprintf("%04x", 4097*block+77))
				}
				both = append(both, "scrub", "-")
			}
			wantLines(t, both...)
		}
	}
}

// built are lines and answers that replace disks, and build all of them.
func built(set []int) []string {
	var both []string
	for _, d := range set {
		both = append(both, fmt.Sprintf("replace %d", d), "ok")
	}
	for _, d := range set {
		for left := 3; left >= 0; left-- {
			both = append(both, fmt.Sprintf("rebuild %d", d), fmt.Sprint(left))
		}
		both = append(both, fmt.Sprintf("rebuild %d", d), "ErrState")
	}
	return both
}

// Two disks are replaced, and built: then any two others may fail.
func TestReadBehindReplaceAndRebuild(t *testing.T) {
	for _, set := range sets(2) {
		for _, other := range sets(2) {
			both := filled()
			for _, d := range set {
				both = append(both, fmt.Sprintf("fail %d", d), "ok")
			}
			for _, d := range set {
				both = append(both, fmt.Sprintf("replace %d", d), "ok")
			}
			both = append(both, readAll()...)
			wantLines(t, both...)
			both = append(filled(), fmt.Sprintf("fail %d", set[0]), "ok", fmt.Sprintf("fail %d", set[1]), "ok")
			both = append(both, built(set)...)
			both = append(both, fmt.Sprintf("fail %d", other[0]), "ok", fmt.Sprintf("fail %d", other[1]), "ok")
			both = append(both, readAll()...)
			wantLines(t, both...)
		}
	}
}

// A disk that took the place of one that failed has noughts, which nobody is told.
func TestReplacedIsLostStill(t *testing.T) {
	wantLines(t, append(filled(),
		"fail 1", "ok", "replace 1", "ok", "read 0", filledBlock(0), "fail 2", "ok", "read 0", filledBlock(0),
		"fail 3", "ok", "read 0", "ErrLost", "read 2", "ErrLost", "rebuild 1", "ErrLost", "read 3", filledBlock(3), "write 3 0000", "ErrLost",
		"replace 2", "ok", "replace 3", "ok", "read 0", "ErrLost", "rebuild 3", "ErrLost", "lost 0", "3",
	)...)
	wantLines(t, append(filled(),
		"fail 1", "ok", "replace 1", "ok", "rebuild 1", "3", "fail 2", "ok", "fail 3", "ok",
		"read 0", filledBlock(0), "read 1", filledBlock(1), "read 2", filledBlock(2), "read 4", "ErrLost", "read 3", filledBlock(3), "write 0 beef", "ok", "read 0", "beef", "write 5 beef", "ErrLost",
	)...)
}

func filledBlock(block int) string {
	_, blocks := filling()
	return blocks[block]
}

func TestPokeWithAndWithoutScrub(t *testing.T) {
	// Data that is poked is read so; a scrub mends it.
	wantLines(t, "write 0 00ff", "ok", "poke 1 0 0102", "ok", "read 0", "0102", "scrub", "1.0", "read 0", "00ff", "scrub", "-")
	// P that is poked is told as soon as a block is read by it.
	wantLines(t, "write 0 00ff", "ok", "poke 4 0 0001", "ok", "read 0", "00ff", "fail 1", "ok", "read 0", "0001")
	wantLines(t, "write 0 00ff", "ok", "poke 4 0 0001", "ok", "scrub", "4.0", "fail 1", "ok", "read 0", "00ff")
	// Q that is poked is told as soon as P is lost, too.
	wantLines(t, "write 0 00ff", "ok", "poke 0 0 0001", "ok", "fail 1", "ok", "read 0", "00ff", "fail 4", "ok", "read 0", "0001")
	wantLines(t, "write 0 00ff", "ok", "poke 0 0 0001", "ok", "scrub", "0.0", "fail 1", "ok", "fail 4", "ok", "read 0", "00ff")
	// What is poked to what it was is not wrong.
	wantLines(t, "write 0 00ff", "ok", "poke 1 0 00ff", "ok", "poke 4 0 00ff", "ok", "poke 0 0 00ff", "ok", "scrub", "-")
	// A write makes P and Q those of the data, as these stand then.
	wantLines(t, "poke 1 0 0102", "ok", "write 1 0000", "ok", "scrub", "-", "read 0", "0102")
	wantLines(t, "poke 4 0 0102", "ok", "poke 0 0 0304", "ok", "write 1 abcd", "ok", "scrub", "-", "fail 2", "ok", "read 1", "abcd")
}

func TestScrubEachSpot(t *testing.T) {
	for d := range mostDisks {
		for row := range mostRows {
			both := append(filled(), fmt.Sprintf("poke %d %d 0000", d, row), "ok", "scrub", fmt.Sprintf("%d.%d", d, row), "scrub", "-")
			both = append(both, readAll()...)
			wantLines(t, both...)
			both = append(both, fmt.Sprintf("fail %d", (d+1)%mostDisks), "ok", fmt.Sprintf("fail %d", (d+2)%mostDisks), "ok")
			wantLines(t, append(both, readAll()...)...)
		}
	}
}

func TestScrubOfSeveral(t *testing.T) {
	wantLines(t,
		"poke 3 3 0001", "ok", "poke 0 1 8000", "ok", "scrub", "0.1 3.3", "scrub", "-",
		"poke 0 3 0001", "ok", "poke 1 2 0001", "ok", "poke 2 1 0001", "ok", "poke 4 0 0001", "ok", "scrub", "4.0 2.1 1.2 0.3",
		"poke 2 0 ffff", "ok", "poke 2 1 ffff", "ok", "poke 2 2 ffff", "ok", "poke 2 3 ffff", "ok", "scrub", "2.0 2.1 2.2 2.3", "scrub", "-",
	)
	// Two that are wrong in one row are no one part, and that row is left as it is; the others are mended.
	wantLines(t,
		"poke 1 0 0100", "ok", "poke 2 0 0001", "ok", "scrub", "-", "read 0", "0100", "read 1", "0001",
		"poke 4 3 0100", "ok", "scrub", "4.3", "poke 1 0 0000", "ok", "scrub", "2.0", "read 1", "0000",
	)
}

func TestScrubWhereSomethingIsLost(t *testing.T) {
	wantLines(t, "poke 1 0 abcd", "ok", "fail 2", "ok", "scrub", "-", "read 0", "abcd", "replace 2", "ok", "scrub", "-")
	// Rows of which nothing is lost are mended; what is built by what is wrong makes another part wrong.
	wantLines(t,
		"fail 2", "ok", "replace 2", "ok", "rebuild 2", "3", "poke 1 0 abcd", "ok", "poke 0 1 abcd", "ok",
		"scrub", "1.0", "read 0", "0000", "read 3", "abcd",
		"rebuild 2", "2", "scrub", "4.1", "read 3", "abcd", "read 5", "abcd",
	)
	wantLines(t, "fail 0", "ok", "fail 1", "ok", "fail 2", "ok", "scrub", "-", "fail 3", "ok", "fail 4", "ok", "scrub", "-")
}

func TestBadLinesChangeNothing(t *testing.T) {
	lines, _ := filling()
	states := [][]string{
		nil, lines, append(slices.Clone(lines), "fail 3"), append(slices.Clone(lines), "fail 3", "replace 3", "rebuild 3"),
		append(slices.Clone(lines), "poke 1 0 0000", "poke 2 3 0000"),
	}
	for _, ahead := range states {
		wantUnchanged(t, ahead,
			"write 0 BEEF", "bad", "write 0 beef ", "bad", "write 0  beef", "bad", "write 00 beef", "bad", "write 0 beef0", "bad", "Write 0 beef", "bad", "write 0 bee", "bad",
			"fail 00", "bad", "fail 0 ", "bad", " fail 0", "bad", "fail", "bad", "fail 0 1", "bad", "FAIL 0", "bad", "fail -1", "bad", "", "bad",
			"poke 0 0 00000", "bad", "poke 0 00 beef", "bad", "poke 0 beef", "bad", "poke 0 0 0 beef", "bad", "poke 0 0 beeF", "bad",
			"replace 03", "bad", "rebuild 03", "bad", "rebuild", "bad", "rebuild 3 0", "bad", "scrub 0", "bad", "scrub ", "bad", "scrubs", "bad", "scru", "bad", "\x00", "bad", "lost", "bad", "read", "bad",
		)
	}
}

func TestRefusedLinesChangeNothing(t *testing.T) {
	lines, _ := filling()
	wantUnchanged(t, lines,
		"write 12 beef", "ErrRange", "write 9999 beef", "ErrRange", "fail 5", "ErrRange", "replace 5", "ErrRange", "replace 0", "ErrState",
		"rebuild 5", "ErrRange", "rebuild 0", "ErrState", "poke 5 0 beef", "ErrRange", "poke 0 4 beef", "ErrRange", "read 12", "ErrRange", "lost 4", "ErrRange",
	)
	wantUnchanged(t, append(slices.Clone(lines), "fail 3"),
		"fail 3", "ErrState", "rebuild 3", "ErrState", "poke 3 0 beef", "ErrState", "poke 3 4 beef", "ErrRange", "replace 2", "ErrState",
	)
	wantUnchanged(t, append(slices.Clone(lines), "fail 3", "replace 3", "rebuild 3"),
		"replace 3", "ErrState", "poke 3 1 beef", "ErrState", "rebuild 2", "ErrState",
	)
	wantUnchanged(t, append(slices.Clone(lines), "fail 0", "fail 2", "fail 4", "replace 4"),
		"write 0 beef", "ErrLost", "read 1", "ErrLost", "rebuild 4", "ErrLost", "poke 4 0 beef", "ErrState", "rebuild 2", "ErrState", "fail 0", "ErrState", "replace 4", "ErrState",
	)
	// What is asked for, and is answered, changes nothing either, but for what the chapters name.
	wantUnchanged(t, append(slices.Clone(lines), "fail 0", "fail 1"),
		"read 0", filledBlock(0), "read 11", filledBlock(11), "lost 2", "2", "scrub", "-",
	)
}

// longText has lines of all kinds, of as many bytes as may be.
func longText(m *maker, failing int) string {
	var out strings.Builder
	for {
		line := m.line(failing) + "\n"
		if out.Len()+len(line) > mostBytes {
			return out.String()
		}
		out.WriteString(line)
	}
}

// line of any kind; how often one fails is told, so that other things come to be asked, too.
func (m *maker) line(failing int) string {
	disk, row, block := m.below(5), m.below(4), m.below(12)
	switch m.below(40) {
	case 0:
		disk = m.below(7)
	case 1:
		row = m.below(6)
	case 2:
		block = m.below(15)
	case 3:
		return m.of(goodLines) + m.of([]string{" ", " 0", "\r", "x", "0", " 0000"})
	case 4:
		return m.of([]string{"", " ", "fly", "read", "READ 0", "lost 01", "write 1 00A0", "write   b900", "poke 1 0000", "fail -1", "scrub\t", "\xff", "read 10000"})
	}
	if m.below(100) < failing {
		return fmt.Sprintf("fail %d", disk)
	}
	switch m.below(8) {
	case 0:
		return fmt.Sprintf("write %d %s", block, m.hex())
	case 1:
		return fmt.Sprintf("replace %d", disk)
	case 2, 3:
		return fmt.Sprintf("rebuild %d", disk)
	case 4:
		return fmt.Sprintf("poke %d %d %s", disk, row, m.hex())
	case 5:
		return fmt.Sprintf("lost %d", row)
	case 6:
		return "scrub"
	}
	return fmt.Sprintf("read %d", block)
}

func TestLongTextsByModel(t *testing.T) {
	m := &maker{1}
	met := map[string]int{}
	for i := range 2000 {
		text := longText(m, []int{0, 1, 3, 8, 20}[i%5])
		byModel(t, text)
		for _, answer := range piecesOf(t, run.Run(text)) {
			met[answer]++
			if spots := strings.Count(answer, "."); spots > 0 {
				met[fmt.Sprint("spots ", spots)]++
			}
		}
	}
	// The texts are to come to everything, or they would tell little.
	for _, answer := range []string{"ok", "bad", "ErrRange", "ErrState", "ErrLost", "-", "0", "1", "2", "3", "4", "5", "0000", "spots 1", "spots 2", "spots 3", "spots 4"} {
		if met[answer] < 5 {
			t.Errorf("answer %q was met %d times", answer, met[answer])
		}
	}
}

// Short texts begin anew, so that each line is met soon behind each other one.
func TestShortTextsByModel(t *testing.T) {
	m := &maker{2}
	for range 30000 {
		var lines []string
		for range m.below(12) {
			lines = append(lines, m.line(15))
		}
		text := textOf(lines)
		if m.below(3) == 0 {
			text = strings.TrimSuffix(text, "\n")
		}
		byModel(t, text)
	}
}

func TestAnyBytesByModel(t *testing.T) {
	m := &maker{3}
	pieces := []string{"read", "write", "fail", "replace", "poke", "rebuild", "lost", "scrub", " ", " ", " ", "\n", "\n", "0", "1", "4", "12", "abcd", "0000", "\x00", "\xff", "A", "-"}
	for range 20000 {
		var text strings.Builder
		for range m.below(40) {
			if m.below(6) == 0 {
				text.WriteByte(byte(m.below(256)))
				continue
			}
			text.WriteString(m.of(pieces))
		}
		byModel(t, text.String())
	}
}

// The answers to the first lines are the beginning of those to all.
func TestFirstLinesAreAnsweredAlike(t *testing.T) {
	m := &maker{4}
	for i := range 12 {
		text := longText(m, i)
		all := run.Run(text)
		answers := piecesOf(t, all)
		if count := strings.Count(text, "\n"); len(answers) != count {
			t.Fatalf("%d answers to %d lines", len(answers), count)
		}
		for at := range len(text) + 1 {
			got := run.Run(text[:at])
			whole := strings.Count(text[:at], "\n")
			begun := at > 0 && text[at-1] != '\n'
			want := textOf(answers[:whole])
			if !begun && got != want {
				t.Fatalf("the first %d lines of %q: %q, want %q", whole, text, got, want)
			}
			if !strings.HasPrefix(got, want) || begun != (strings.Count(got, "\n") == whole+1) {
				t.Fatalf("the first %d bytes of %q: %q, want that it begins with %q", at, text, got, want)
			}
		}
	}
}

// What is too long has no first lines that were answered.
func TestTooLongIsAnsweredAsAWhole(t *testing.T) {
	text := longText(&maker{5}, 5)
	wantRun(t, text+strings.Repeat("\n", 3001-len(text)), "too long\n")
	wantRun(t, text+strings.Repeat("\n", 3000-len(text)), run.Run(text)+strings.Repeat("bad\n", 3000-len(text)))
}

func TestCallsKnowNothingOfEachOther(t *testing.T) {
	wantRun(t, "fail 0\nfail 1\nfail 2\nwrite 0 abcd\n", "ok\nok\nok\nErrLost\n")
	wantRun(t, "lost 0\nread 0\nfail 0\nfail 1\nwrite 0 abcd\n", "0\n0000\nok\nok\nok\n")
	wantRun(t, "read 0\nlost 0\nscrub\nfail 0\n", "0000\n0\n-\nok\n")
	wantRun(t, "poke 0 0 ffff\n", "ok\n")
	wantRun(t, "scrub\n", "-\n")
	wantRun(t, strings.Repeat("x", 3001), "too long\n")
	wantRun(t, "scrub\n", "-\n")
}

func TestTheSameIsAnsweredAgain(t *testing.T) {
	m := &maker{6}
	var texts, answers []string
	for i := range 40 {
		texts = append(texts, longText(m, i%9))
		answers = append(answers, run.Run(texts[i]))
	}
	var all sync.WaitGroup
	for range 8 {
		all.Go(func() {
			for i := len(texts) - 1; i >= 0; i-- {
				if got := run.Run(texts[i]); got != answers[i] {
					t.Errorf("Run of %q: %q, and %q ahead", texts[i], got, answers[i])
				}
			}
		})
	}
	all.Wait()
}
