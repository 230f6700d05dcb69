package tests

import (
	"fmt"
	"regexp"
	"slices"
	"strconv"
	"strings"
	"testing"

	"loop.example/g00257/impl"
)

const (
	mostLines = 100

	wordForm  = `([^ ]+)`
	countForm = `(0|-?[1-9][0-9]{0,17})`
)

// The kinds of lines, as patterns over bytes.
var (
	bareLine  = regexp.MustCompile(`^ *(mount|sync|crash|unmount|save|rollback|ls) *$`)
	pathLine  = regexp.MustCompile(`^ *(mkdir|read|rm|ls) +` + wordForm + ` *$`)
	cutLine   = regexp.MustCompile(`^ *cut +` + wordForm + ` +` + countForm + ` *$`)
	moveLine  = regexp.MustCompile(`^ *move +` + wordForm + ` +` + wordForm + ` *$`)
	writeLine = regexp.MustCompile(`(?s)^ *write +` + wordForm + ` +` + countForm + `(?: +(.*?))? *$`)
	quietLine = regexp.MustCompile(`(?s)^ *(#.*)?$`)

	crashesIt = cutSync(1, 0)

	// quietLines say nothing.
	quietLines = []string{"", " ", "  ", strings.Repeat(" ", 300), "#", "##", "# ", "#mount", "# mount", " #", "   # mount", "  #mount  ", "#\t", "# \x00\xff", "#error form"}

	// noLines say something that nobody knows.
	noLines = []string{
		"go", "0", "-", "=", "ok", "error", "error form", "= x", "Mount", "MOUNT", "mounT", "moun", "mounts", "mountmount", "mount,", "mount;", "mount#", "'mount'", "\"mount\"", "remount", "u", "list", "remove", "dir", "mk", "delete", "tamper", "call", "format", "quit",
		"\t", "\t#", "\t# x", "\tmount", "mount\t", "mount\tnow", "mount\r", "\rmount", "\r", "\v", "\f", "\x00", "mount\x00", "\x00mount", "\xa0", "\u00a0mount", "\u2003", "\xff", "\u00e4", "ls\t", "ls\ta", "write\ta\t0\tx", "sync\r", "crash\x0b",
		"a # b", "; #", "/# x", "m", "mou nt", "s ync", "ro llback", "VoMount", "1", "3",
	}
)

// lineByRule is what a line should be read as.
func lineByRule(line string) (impl.VolumeAct, int) {
	if len(line) > 65536 {
		return impl.VolumeAct{}, impl.ErrLong
	}
	if x := bareLine.FindStringSubmatch(line); x != nil {
		return map[string]impl.VolumeAct{"mount": mountsIt, "sync": syncsIt, "crash": crashesIt, "unmount": unmountsIt, "save": savesIt, "rollback": rollsBack, "ls": calls(names(""))}[x[1]], impl.OK
	}
	if x := pathLine.FindStringSubmatch(line); x != nil {
		return map[string]impl.VolumeAct{"mkdir": calls(mkdir(x[2])), "read": calls(readAt(x[2], 0, 200)), "rm": calls(remove(x[2])), "ls": calls(names(x[2]))}[x[1]], impl.OK
	}
	if x := cutLine.FindStringSubmatch(line); x != nil {
		n, _ := strconv.Atoi(x[2])
		return calls(cut(x[1], n)), impl.OK
	}
	if x := moveLine.FindStringSubmatch(line); x != nil {
		return calls(move(x[1], x[2])), impl.OK
	}
	if x := writeLine.FindStringSubmatch(line); x != nil {
		at, _ := strconv.Atoi(x[2])
		return calls(writeAt(x[1], at, x[3])), impl.OK
	}
	return impl.VolumeAct{}, impl.ErrForm
}

func sameVoAct(a, b impl.VolumeAct) bool {
	return a.Call == b.Call && a.Data == b.Data && slices.Equal(a.Keep, b.Keep) && voActText(a) == voActText(b)
}

// lineIs asks for an act, and for what a line should be read as.
func lineIs(t *testing.T, why, line string, want impl.VolumeAct, wantCode int) {
	t.Helper()
	a, code := impl.ReadLine(line)
	if !sameVoAct(a, want) || code != wantCode {
		t.Fatalf("%s: ReadLine of %d bytes %.80q is %s, %d, not %s, %d", why, len(line), line, voActText(a), code, voActText(want), wantCode)
	}
	if byRule, ruleCode := lineByRule(line); !sameVoAct(byRule, want) || ruleCode != wantCode {
		t.Fatalf("%s: %.80q is %s, %d, by the rule", why, line, voActText(byRule), ruleCode)
	}
}

func noLine(t *testing.T, why, line string) {
	t.Helper()
	lineIs(t, why, line, impl.VolumeAct{}, impl.ErrForm)
}

func lineKeepsToRule(t *testing.T, line string) int {
	t.Helper()
	want, code := lineByRule(line)
	lineIs(t, "by the rule", line, want, code)
	return code
}

func linesIn(text string) []string {
	var out []string
	var line []byte
	for i := range len(text) {
		if text[i] == 10 {
			out, line = append(out, string(line)), nil
			continue
		}
		line = append(line, text[i])
	}
	if len(line) > 0 {
		out = append(out, string(line))
	}
	return out
}

func joinedLines(lines ...string) string {
	if len(lines) == 0 {
		return ""
	}
	return strings.Join(lines, "\n") + "\n"
}

// answerByRule is what is said to an act, with its last byte 10.
func answerByRule(a impl.VolumeAct, r impl.VolumeReply, counter int) string {
	switch {
	case r.Code != impl.OK:
		return "error " + impl.CodeWord(r.Code) + "\n"
	case a.Kind == impl.VoMount:
		return fmt.Sprintf("%sok %d\n", r.Text, counter)
	case a.Kind == impl.VoCall && (a.Call.Kind == impl.FcRead || a.Call.Kind == impl.FcList):
		return "= " + r.Text + "\n"
	}
	return "ok\n"
}

// saysByRule is what a plain volume makes said to one line.
func (p *plain) saysByRule(t *testing.T, line string) string {
	t.Helper()
	if quietLine.MatchString(line) {
		return ""
	}
	a, code := lineByRule(line)
	if code != impl.OK {
		return "error form\n"
	}
	r := p.does(t, a)
	return answerByRule(a, r, p.register.Counter)
}

// saidByRule is what a console should say, by the document's words on a plain volume.
func saidByRule(t *testing.T, text string) (string, int) {
	t.Helper()
	lines := linesIn(text)
	if len(text) > 65536 {
		return "", impl.ErrLong
	}
	if len(lines) > mostLines {
		return "", impl.ErrMany
	}
	p, out := newPlain(t, 64), ""
	for _, line := range lines {
		out += p.saysByRule(t, line)
	}
	return out, impl.OK
}

func consoleKeepsToRule(t *testing.T, why, text string) string {
	t.Helper()
	want, wantCode := saidByRule(t, text)
	said, code := impl.Console(text)
	if said != want || code != wantCode {
		t.Fatalf("%s: Console of %.2000q\nis  %.2000q, %d\nnot %.2000q, %d", why, text, said, code, want, wantCode)
	}
	return said
}

// says asks for what is said to a text, line by line.
func says(t *testing.T, why, text string, want ...string) {
	t.Helper()
	if said := consoleKeepsToRule(t, why, text); said != joinedLines(want...) {
		t.Fatalf("%s: Console of %.900q is\n%.900q, not\n%.900q", why, text, said, joinedLines(want...))
	}
}

// saysLast asks for what is said last, to lines behind a mount.
func saysLast(t *testing.T, why string, lines []string, want ...string) {
	t.Helper()
	said := consoleKeepsToRule(t, why, joinedLines(append([]string{"mount"}, lines...)...))
	if last := "\n" + joinedLines(want...); !strings.HasSuffix(said, last) {
		t.Fatalf("%s: Console of %.900q is\n%.900q, not .. %.900q", why, lines, said, last)
	}
}

func TestP17WhereLinesEnd(t *testing.T) {
	says(t, "no text", "")
	says(t, "a lone end of line", "\n")
	says(t, "ends of lines", "\n\n\n")
	for _, text := range []string{"mount", "mount\n", "mount\n\n", "\nmount", "\n\nmount\n\n\n", "mount\n ", "mount\n#", " mount", "mount ", "mount \n", "\n mount \n", "# x\nmount", "#\nmount\n# "} {
		says(t, "one line", text, "ok 1")
	}
	for _, text := range []string{"mount\nunmount", "mount\nunmount\n", "mount\n\nunmount", "mount\n  \nunmount\n  ", "mount\n#\nunmount"} {
		says(t, "two lines", text, "ok 1", "ok")
	}
	says(t, "a byte 13 ends no line", "mount\rmount", "error form")
	says(t, "a byte 13 ahead of the end", "mount\r\nmount\r\n", "error form", "error form")
	says(t, "other ends", "mount\v\nmount\f\nmount\x85\nmount\u2028\nmount", "error form", "error form", "error form", "error form", "ok 1")
	says(t, "a text goes as far as its line", "mount\nwrite a 0 x\ny\nread a", "ok 1", "ok", "error form", "= x")
}

func TestP17LinesThatSayNothing(t *testing.T) {
	for _, line := range quietLines {
		noLine(t, "it says nothing", line)
		says(t, "alone", line)
		says(t, "alone, ended", line+"\n")
		says(t, "between others", "mount\n"+line+"\nsync\n"+line, "ok 1", "ok")
	}
	says(t, "all of them", joinedLines(quietLines...))
	says(t, "a note is no end", "mount\n# x\n#\nunmount\n#mount\nsync", "ok 1", "ok", "error away")
}

func TestP17LinesThatNobodyKnows(t *testing.T) {
	for _, line := range noLines {
		noLine(t, "nobody knows it", line)
		says(t, "alone", line, "error form")
		says(t, "between others", "mount\n"+line+"\nsync\n"+line+"\n", "ok 1", "error form", "ok", "error form")
	}
	says(t, "a note behind a word is none", "mount # x\nmount #\nls # x\nread # x\nmount", "error form", "error form", "error form", "error form", "ok 1")
	says(t, "a note that is a path", "mount\nls #\nread #\nmkdir #x\nwrite # 0 x\nwrite a 0 # x\nread a", "ok 1", "error path", "error path", "error path", "error path", "ok", "= # x")
}

func TestP17LinesWorkedOutByHand(t *testing.T) {
	call := func(c impl.FileCall) impl.VolumeAct { return impl.VolumeAct{Kind: 2, Call: c} }
	for line, want := range map[string]impl.VolumeAct{
		"mount":          {Kind: 1},
		"sync":           {Kind: 3},
		"crash":          {Kind: 3, Cut: 1},
		"unmount":        {Kind: 4},
		"save":           {Kind: 5},
		"rollback":       {Kind: 6},
		"mkdir a/b":      call(impl.FileCall{Kind: 1, Path: "a/b"}),
		"write a 3 x":    call(impl.FileCall{Kind: 2, Path: "a", At: 3, Data: "x"}),
		"write a -3 x":   call(impl.FileCall{Kind: 2, Path: "a", At: -3, Data: "x"}),
		"write a 0":      call(impl.FileCall{Kind: 2, Path: "a"}),
		"write 1 2 3 4":  call(impl.FileCall{Kind: 2, Path: "1", At: 2, Data: "3 4"}),
		"read a":         call(impl.FileCall{Kind: 3, Path: "a", N: 200}),
		"cut a 7":        call(impl.FileCall{Kind: 4, Path: "a", N: 7}),
		"cut a -7":       call(impl.FileCall{Kind: 4, Path: "a", N: -7}),
		"move a b":       call(impl.FileCall{Kind: 5, Path: "a", To: "b"}),
		"rm a":           call(impl.FileCall{Kind: 6, Path: "a"}),
		"ls":             call(impl.FileCall{Kind: 7}),
		"ls a":           call(impl.FileCall{Kind: 7, Path: "a"}),
		"ls ls":          call(impl.FileCall{Kind: 7, Path: "ls"}),
		"mkdir mkdir":    call(impl.FileCall{Kind: 1, Path: "mkdir"}),
		"move # #":       call(impl.FileCall{Kind: 5, Path: "#", To: "#"}),
		"rm //":          call(impl.FileCall{Kind: 6, Path: "//"}),
		"read \t\r\x00":  call(impl.FileCall{Kind: 3, Path: "\t\r\x00", N: 200}),
		"ls \xff\u00e4":  call(impl.FileCall{Kind: 7, Path: "\xff\u00e4"}),
		"write \t 0 \t":  call(impl.FileCall{Kind: 2, Path: "\t", Data: "\t"}),
		"write a 0 \r":   call(impl.FileCall{Kind: 2, Path: "a", Data: "\r"}),
		"write a 0 \xff": call(impl.FileCall{Kind: 2, Path: "a", Data: "\xff"}),
	} {
		lineIs(t, "alone", line, want, impl.OK)
		lineIs(t, "blanks around", "   "+line+"  ", want, impl.OK)
		if want.Call.Kind != impl.FcWrite {
			lineIs(t, "many blanks between", strings.ReplaceAll(line, " ", "     "), want, impl.OK)
		}
		for _, other := range []string{"\t" + line, "." + line, line[:1] + " " + line[1:], "x " + line, "# " + line, strings.ToUpper(line), "\n" + line, "\x00" + line} {
			noLine(t, "something ahead, or another word", other)
		}
	}
}

// A path of a line may be none: that is told by the call.
func TestP17PathsThatAreNone(t *testing.T) {
	for _, p := range noPaths {
		if strings.ContainsAny(p, " \n") || len(p) > 60000 {
			continue
		}
		for line, want := range map[string]impl.VolumeAct{"mkdir " + p: calls(mkdir(p)), "read " + p: calls(readAt(p, 0, 200)), "rm " + p: calls(remove(p)), "ls " + p: calls(names(p)), "cut " + p + " 1": calls(cut(p, 1)), "write " + p + " 1 x": calls(writeAt(p, 1, "x")), "move " + p + " b": calls(move(p, "b")), "move b " + p: calls(move("b", p))} {
			lineIs(t, "no path", line, want, impl.OK)
			says(t, "no path", "mount\n"+line, "ok 1", "error path")
			says(t, "no path, not mounted", line, "error away")
		}
	}
}

// countTexts are numbers' texts, and what is none.
var (
	countTexts = []string{"0", "1", "7", "9", "10", "99", "100", "199", "200", "201", "65536", "4294967296", "99999999999999999", "100000000000000000", "123456789012345678", "999999999999999999", "-1", "-9", "-10", "-200", "-99999999999999999", "-999999999999999999", "-123456789012345678"}

	noCounts = []string{
		"-", "--", "--1", "-0", "-00", "-01", "00", "000", "01", "007", "+0", "+1", "-+1", "+-1", "1-", "1+", "0-", "x", "x1", "1x", "a", "1.", "1.0", ".1", "1e3", "0x1", "0b1", "0o7", "1_0", "_1", "1,0", "#1", "\t1", "1\t", "1\r", "1\x00", "\x001", "\u0661", "\uff11", "\xff", "/", ":",
		"1000000000000000000", "1234567890123456789", "9223372036854775807", "9223372036854775808", "9999999999999999999", "-1000000000000000000", "-9223372036854775808", "-9223372036854775809", "18446744073709551616", "18446744073709551617", "000000000000000001", "0000000000000000001", "-000000000000000001",
		strings.Repeat("1", 40), strings.Repeat("0", 30000), strings.Repeat("9", 30000), "-" + strings.Repeat("9", 30000),
	}
)

func TestP17Numbers(t *testing.T) {
	for _, text := range countTexts {
		n, err := strconv.Atoi(text)
		if err != nil {
			t.Fatal(err)
		}
		lineIs(t, "a number", "write a "+text+" x", calls(writeAt("a", n, "x")), impl.OK)
		lineIs(t, "a number", "write a "+text, calls(writeAt("a", n, "")), impl.OK)
		lineIs(t, "a number", "cut a "+text, calls(cut("a", n)), impl.OK)
		wrote, made := "ok", "ok"
		if n < 0 || n > 199 {
			wrote = "error range"
		}
		if n < 0 || n > 200 {
			made = "error range"
		}
		saysLast(t, "a number", []string{"write a 0", "write a " + text + " x", "cut a " + text}, wrote, made)
		saysLast(t, "a number without a text", []string{"write a " + text}, made)
	}
	for _, text := range noCounts {
		noLine(t, "no number", "write a "+text+" x")
		noLine(t, "no number", "write a "+text)
		noLine(t, "no number", "cut a "+text)
		says(t, "no number, not mounted", "write a "+text+" x\ncut a "+text, "error form", "error form")
		saysLast(t, "no number", []string{"write a 0 keep", "write a " + text + " x", "cut a " + text, "read a"}, "error form", "error form", "= keep")
	}
}

// Written texts go without the blanks around them, and with those within.
func TestP17TextsThatAreWritten(t *testing.T) {
	for behind, want := range map[string]string{
		"":                "",
		" ":               "",
		"     ":           "",
		" x":              "x",
		"   x":            "x",
		" x   ":           "x",
		"  two words  ":   "two words",
		" two   words":    "two   words",
		" a b c d e f ":   "a b c d e f",
		" \t":             "\t",
		" \t x \t ":       "\t x \t",
		" x \r":           "x \r",
		" # x":            "# x",
		" 0":              "0",
		" -1 2":           "-1 2",
		" = x":            "= x",
		" mount":          "mount",
		" \x00\x01\xff":   "\x00\x01\xff",
		" \u00a0x\u00a0 ": "\u00a0x\u00a0",
		" \xc3":           "\xc3",
	} {
		lineIs(t, "a text", "write a 0"+behind, calls(writeAt("a", 0, want)), impl.OK)
		saysLast(t, "a text", []string{"write a 0" + behind, "read a", "sync", "unmount", "mount"}, "ok", "= "+want, "ok", "ok", "a "+want, "ok 2")
		saysLast(t, "a text behind others", []string{"write a 0 12345", "write a 3" + behind, "read a"}, "ok", "= "+writtenByRule("12345", 3, want))
	}
	saysLast(t, "noughts ahead", []string{"write a 3 x", "read a"}, "= \x00\x00\x00x")
	saysLast(t, "noughts alone", []string{"write a 3", "read a"}, "= \x00\x00\x00")
	saysLast(t, "all that a file holds", []string{"write a 0 " + longText[:200], "read a", "write a 200", "write a 200 x", "write a 1 " + longText[:200], "write b 0 " + longText[:201], "read b"}, "= "+longText[:200], "ok", "error range", "error range", "error range", "error none")
	saysLast(t, "a text with blanks that is too long", []string{"write a 0 x" + strings.Repeat(" ", 198) + "x   ", "write b 0 x" + strings.Repeat(" ", 199) + "x"}, "ok", "error range")
}

func TestP17ReadsAndLists(t *testing.T) {
	saysLast(t, "nothing", []string{"ls", "ls a", "read a", "rm a", "cut a 0", "move a b"}, "= ", "error none", "error none", "error none", "error none", "error none")
	start := []string{"mkdir d", "write d/a 0 one", "write d/b 0", "mkdir d/e", "write c 0 two"}
	with := func(lines ...string) []string { return append(slices.Clone(start), lines...) }
	saysLast(t, "the top", with("ls", "  ls  "), "= c d/", "= c d/")
	saysLast(t, "a directory", with("ls d", "ls   d  "), "= a b e/", "= a b e/")
	saysLast(t, "an empty one", with("ls d/e"), "= ")
	saysLast(t, "a file, none, no path", with("ls c", "ls d/a", "ls x", "ls d/x", "ls c/x", "ls d/", "ls /"), "error kind", "error kind", "error none", "error none", "error none", "error path", "error path")
	saysLast(t, "reads", with("read c", "read d/a", "read d/b", "read d", "read x", "read c/x", "read d/"), "= two", "= one", "= ", "error kind", "error none", "error none", "error path")
	saysLast(t, "cuts", with("cut c 2", "read c", "cut c 4", "read c", "cut c 0", "read c", "cut d 1", "cut x 1"), "ok", "= tw", "ok", "= tw\x00\x00", "ok", "= ", "error kind", "error none")
	saysLast(t, "moves", with("move c d/c", "ls", "ls d", "move d f", "ls f", "ls f/e", "read f/c"), "ok", "= d/", "= a b c e/", "ok", "= a b c e/", "= ", "= two")
	saysLast(t, "moves that are refused", with("move x y", "move d d/e/f", "move c d", "move c x/y", "move c d/a/b", "move c c", "move d d"), "error none", "error order", "error twice", "error none", "error kind", "ok", "ok")
	saysLast(t, "directories", with("mkdir d", "mkdir c", "mkdir c/x", "mkdir x/y", "write d 0 x", "write c/x 0 x", "write x/y 0 x"), "error twice", "error twice", "error kind", "error none", "error kind", "error kind", "error none")
	saysLast(t, "removals", with("rm d", "rm d/e", "rm d/a", "rm d/b", "rm d", "rm d", "ls"), "error order", "ok", "ok", "ok", "ok", "error none", "= c")
}

func TestP17MountsAndWhatTheyTell(t *testing.T) {
	says(t, "again and again", "mount\nunmount\nmount\nunmount\nmount", "ok 1", "ok", "ok 1", "ok", "ok 1")
	says(t, "not mounted", "sync\ncrash\nunmount\nmkdir a\nwrite a 0 x\nread a\ncut a 1\nmove a b\nrm a\nls\nls a", slices.Repeat([]string{"error away"}, 11)...)
	says(t, "saves and roll-backs need no mount", "rollback\nsave\nrollback\nsave\nrollback", "error none", "ok", "ok", "ok", "ok")
	saysLast(t, "while it is mounted", []string{"mount", "rollback", "save", "rollback", "mount"}, "error twice", "error twice", "ok", "error twice", "error twice")
	saysLast(t, "syncs", []string{"sync", "sync", "unmount", "mount", "sync", "unmount", "mount"}, "ok", "ok", "ok", "ok 3", "ok", "ok", "ok 4")
	saysLast(t, "many files", []string{"mkdir d", "write d/a 0 one two", "write e 0", "mkdir d0", "mkdir d/z", "sync", "unmount", "mount"}, "d/", "d/a one two", "d/z/", "d0/", "e ", "ok 2")
	saysLast(t, "what was not synced is gone", []string{"write a 0 x", "sync", "write a 0 y", "mkdir b", "unmount", "mount", "read b"}, "a x", "ok 2", "error none")
	var full, told []string
	for i := range 12 {
		full = append(full, fmt.Sprintf("write f%c 0 %s", 'a'+i, longText[:75]))
		told = append(told, fmt.Sprintf("f%c %s", 'a'+i, longText[:75]))
	}
	saysLast(t, "as many as there can be", append(full, "mkdir more", "sync", "unmount", "mount"), append(told, "ok 2")...)
	again := append(slices.Clone(full), "sync")
	for _, line := range full {
		again = append(again, strings.ReplaceAll(line, "aa", "bb"))
	}
	again = append(again, "sync", "unmount", "mount", "read fl")
	last := strings.ReplaceAll(longText[:75], "aa", "bb")
	saysLast(t, "all pieces anew beside the old ones", again, "fl "+last, "ok 3", "= "+last)
	saysLast(t, "too many bytes", []string{"write a 0 x", "sync", "write b 200", "write c 200", "write d 200", "write e 200", "write f 200", "sync", "crash", "read a", "rm f", "sync", "unmount", "rollback", "mount"}, "error full", "error full", "= x", "ok", "ok", "ok", "error none", "a x", "b "+strings.Repeat("\x00", 200), "c "+strings.Repeat("\x00", 200), "d "+strings.Repeat("\x00", 200), "e "+strings.Repeat("\x00", 200), "ok 3")
}

func TestP17Crashes(t *testing.T) {
	says(t, "not mounted", "crash\nmount\ncrash\ncrash\nmount", "error away", "ok 1", "error away", "error away", "ok 1")
	saysLast(t, "it is not mounted any more", []string{"write a 0 x", "crash", "read a", "ls", "sync", "unmount", "mount", "read a"}, "ok", "error away", "error away", "error away", "error away", "error away", "ok 1", "error none")
	saysLast(t, "behind syncs", []string{"write a 0 one", "sync", "write a 0 two", "sync", "write a 0 333", "crash", "mount", "write a 0 4444", "crash", "mount"}, "ok", "error away", "a two", "ok 3", "ok", "error away", "a two", "ok 3")
	saysLast(t, "and gone on with", []string{"write a 0 one", "sync", "write a 0 two", "crash", "mount", "write b 0 x", "sync", "unmount", "mount"}, "a one", "ok 2", "ok", "ok", "ok", "a one", "b x", "ok 3")
	saysLast(t, "without room it is mounted still", []string{"write b 200", "write c 200", "write d 200", "write e 200", "write f 200", "crash", "rm f", "crash", "ls"}, "error full", "ok", "error away", "error away")
}

func TestP17RollBacks(t *testing.T) {
	saysLast(t, "stale", []string{"save", "write a 0 x", "sync", "unmount", "rollback", "mount", "ls", "rollback", "mount"}, "ok", "ok", "ok", "error stale", "error away", "ok", "error stale")
	saysLast(t, "as new as the register", []string{"write a 0 x", "sync", "save", "write a 0 y", "unmount", "rollback", "mount"}, "ok", "ok", "a x", "ok 2")
	saysLast(t, "saved behind it", []string{"save", "write a 0 x", "sync", "save", "unmount", "rollback", "mount"}, "ok", "ok", "ok", "a x", "ok 2")
	saysLast(t, "a sync that was cut", []string{"write a 0 x", "sync", "save", "write a 0 y", "crash", "rollback", "mount"}, "error away", "ok", "a x", "ok 2")
}

// A hundred lines, those that say nothing among them, and one more.
func TestP17NumbersOfLines(t *testing.T) {
	if impl.MaxLines != mostLines {
		t.Error("MaxLines is", impl.MaxLines)
	}
	for line, want := range map[string]string{"": "", " ": "", "# x": "", "mount now": "error form\n", "go": "error form\n", "ls": "error away\n", "save": "ok\n"} {
		for _, n := range []int{0, 1, 2, 50, 99, 100, 101, 102, 200, 5000} {
			all := slices.Repeat([]string{line}, n)
			text, said, code := joinedLines(all...), strings.Repeat(want, n), impl.OK
			if n > 100 {
				said, code = "", impl.ErrMany
			}
			if got, gotCode := impl.Console(text); got != said || gotCode != code {
				t.Errorf("Console of %d lines %q is %.300q, %d", n, line, got, gotCode)
			}
			if n == 0 || line == "" {
				continue
			}
			if got, gotCode := impl.Console(strings.TrimSuffix(text, "\n")); got != said || gotCode != code {
				t.Errorf("Console of %d lines %q, the last one without its end, is %.300q, %d", n, line, got, gotCode)
			}
		}
	}
	many := strings.Repeat("\n", 99)
	says(t, "the last line of a hundred", many+"mount", "ok 1")
	says(t, "the last line of a hundred, ended", many+"mount\n", "ok 1")
	says(t, "the first line of a hundred", "mount\n"+many, "ok 1")
	for _, text := range []string{many + "\nmount", many + "mount\nsync", many + "mount\n ", many + "mount\n#", many + "mount\n\n", "mount\n\n" + many, many + "\n\n", many + "\n "} {
		if said, code := impl.Console(text); said != "" || code != impl.ErrMany {
			t.Errorf("Console of 101 lines is %q, %d", said, code)
		}
	}
	var syncs, told []string
	for range 49 {
		syncs, told = append(syncs, "sync", "sync"), append(told, "ok", "ok")
	}
	says(t, "as many syncs as there can be", joinedLines(append(append([]string{"mount"}, syncs[:97]...), "unmount", "mount")...), append(append([]string{"ok 1"}, told[:97]...), "ok", "ok 98")...)
}

// lineOf is a line that asks for a call; what a line can't hold is left out of its text.
func lineOf(a fileAct) string {
	data := strings.ReplaceAll(a.data, "\n", "n")
	return map[string]string{
		"MakeDir":    "mkdir " + a.p,
		"WriteFile":  fmt.Sprintf("write %s %d %s", a.p, a.at, data),
		"ReadFile":   "read " + a.p,
		"CutFile":    fmt.Sprintf("cut %s %d", a.p, a.n),
		"MoveFile":   "move " + a.p + " " + a.to,
		"RemoveFile": "rm " + a.p,
		"ListDir":    "ls " + a.p,
	}[a.call]
}

// plainLine draws lines of every kind: mounts of what is not mounted, and calls and syncs of what is, more often.
func plainLine(s *stream, p *plain) string {
	switch n := s.next() % 32; {
	case n < 8 && !p.mounted:
		return "mount"
	case n < 12:
		return "sync"
	case n < 14:
		return "save"
	case n < 16:
		return []string{"crash", "unmount"}[s.next()%2]
	case n < 17 && !p.mounted:
		return "rollback"
	case n < 26:
		return lineOf(someFileAct(s, p.files))
	case n < 28: // so that there is too much at times
		return fmt.Sprintf("write big%c 180 %d", 'a'+s.next()%9, s.next())
	}
	return []string{"mount", "sync", "unmount", "save", "rollback", "crash", "ls", "ls ", noLines[int(s.next())%len(noLines)], quietLines[int(s.next())%len(quietLines)]}[s.next()%10]
}

// someLine draws lines that are well put for the most part.
func someLine(s *stream, p *plain) string {
	line := plainLine(s, p)
	switch s.next() % 16 {
	case 0:
		return strings.ReplaceAll(line, " ", "   ")
	case 1:
		return "  " + line + "   "
	case 2:
		return line + " more"
	case 3:
		return line[:max(0, strings.LastIndex(line, " "))]
	case 4:
		return strings.Replace(line, " ", "\t", 1)
	}
	return line
}

func someLines(t *testing.T, s *stream, size int) []string {
	t.Helper()
	p := newPlain(t, 64)
	var out []string
	for range size {
		line := someLine(s, p)
		p.saysByRule(t, line)
		out = append(out, line)
	}
	return out
}

func TestP17WhateverIsSaid(t *testing.T) {
	seen := map[string]int{}
	for seed := range 120 {
		s := stream(31000 + seed)
		lines := someLines(t, &s, 100)
		said := consoleKeepsToRule(t, fmt.Sprint("seed ", seed), joinedLines(lines...))
		for _, line := range linesIn(said) {
			word, rest, _ := strings.Cut(line, " ")
			if word == "error" {
				word += " " + rest
			}
			seen[word]++
		}
	}
	for _, word := range []string{"ok", "=", "error form", "error away", "error twice", "error none", "error kind", "error range", "error path", "error order", "error stale", "error full"} {
		if seen[word] < 10 {
			t.Errorf("%s was said only %d times", word, seen[word])
		}
	}
}

// A volume's own acts and calls answer what the console says: on as many blocks as there can be, by the hash of the console's name.
func TestP17TheVolumesOwnAnswers(t *testing.T) {
	key := hashByLibrary("console")
	for seed := range 25 {
		s := stream(32000 + seed)
		lines := someLines(t, &s, 100)
		var acts []impl.VolumeAct
		for _, line := range lines {
			if a, code := lineByRule(line); code == impl.OK {
				acts = append(acts, a)
			}
		}
		_, replies, code := impl.VolumeRun(key, 64, acts)
		if code != impl.OK {
			t.Fatalf("VolumeRun of %d acts is %d", len(acts), code)
		}
		want, n := "", 0
		for _, line := range lines {
			a, code := lineByRule(line)
			switch {
			case quietLine.MatchString(line):
			case code != impl.OK:
				want += "error form\n"
			default:
				counter := 0
				if a.Kind == impl.VoMount {
					v, _, _ := impl.VolumeRun(key, 64, acts[:n+1])
					counter = v.Register.Counter
				}
				want += answerByRule(a, replies[n], counter)
				n++
			}
		}
		if said, code := impl.Console(joinedLines(lines...)); said != want || code != impl.OK {
			t.Fatalf("seed %d: Console is %.900q, %d, not %.900q", seed, said, code, want)
		}
	}
}

// What is said to a text's first lines is said to them alone, whatever stands behind.
func TestP17FirstLinesDoNotHangOnLaterOnes(t *testing.T) {
	for seed := range 6 {
		s := stream(33000 + seed)
		lines, others := someLines(t, &s, 100), someLines(t, &s, 100)
		whole, _ := impl.Console(joinedLines(lines...))
		was := ""
		for n := range 101 {
			first := joinedLines(lines[:n]...)
			said, code := impl.Console(first)
			if code != impl.OK || !strings.HasPrefix(whole, said) || !strings.HasPrefix(said, was) {
				t.Fatalf("seed %d: what is said to the first %d lines is %.900q, %d, and behind them %.900q", seed, n, said, code, whole)
			}
			if n > 0 && lines[n-1] != "" {
				if open, code := impl.Console(strings.TrimSuffix(first, "\n")); open != said || code != impl.OK {
					t.Fatalf("seed %d: without its end line %d makes it %.900q, %d, not %.900q", seed, n, open, code, said)
				}
			}
			short := []string{"mount", "rollback\nmount", "#", strings.Repeat("\n", 100-n), "\x00\xff"}
			for _, behind := range []string{joinedLines(others[n:]...), short[(n+seed)%5]} {
				other, code := impl.Console(first + behind)
				if many := len(linesIn(first+behind)) > mostLines; many && (other != "" || code != impl.ErrMany) || !many && (!strings.HasPrefix(other, said) || code != impl.OK) {
					t.Fatalf("seed %d: with %.100q behind %d lines it is %.900q, %d, not %.900q ..", seed, behind, n, other, code, said)
				}
			}
			was = said
		}
		if was != whole {
			t.Fatalf("seed %d: all lines make it %.900q, not %.900q", seed, was, whole)
		}
	}
}
