package tests

import (
	"fmt"
	"slices"
	"strings"
	"testing"

	"loop.example/g00257/impl"
)

// wordCounts are how many words may stand behind a line's first one; -1 is for as many as there are.
var wordCounts = map[string][]int{"mount": {0}, "sync": {0}, "crash": {0}, "unmount": {0}, "save": {0}, "rollback": {0}, "mkdir": {1}, "read": {1}, "rm": {1}, "ls": {0, 1}, "cut": {2}, "move": {2}, "write": {2, -1}}

// padded has blanks behind, up to so many bytes.
func padded(line string, size int) string { return line + strings.Repeat(" ", size-len(line)) }

func noConsole(t *testing.T, why, text string, want int) {
	t.Helper()
	if said, code := impl.Console(text); said != "" || code != want {
		t.Errorf("%s: Console of %d bytes %.60q is %.300q, %d, not %d", why, len(text), text, said, code, want)
	}
}

func TestP1WordsTooManyAndTooFew(t *testing.T) {
	for first, counts := range wordCounts {
		line := first
		for n := range 7 {
			_, code := impl.ReadLine(line)
			if right := slices.Contains(counts, n) || n > counts[0] && slices.Contains(counts, -1); right != (code == impl.OK) || !right && code != impl.ErrForm {
				t.Errorf("ReadLine of %q, %d words behind, is %d", line, n, code)
			}
			lineKeepsToRule(t, line)
			if code != impl.OK {
				noLine(t, "words too many, or too few", line)
				says(t, "words too many, or too few", "mount\n"+line+"\n"+line+" ", "ok 1", "error form", "error form")
			}
			line += " 1"
		}
	}
	for _, line := range []string{"write a x", "write a x y", "write 0 a", "write 0 a 1", "cut 1 a", "cut a x", "cut a 1 2", "cut a", "write a", "write", "move a", "move a b c", "mount mount", "mount 1", "sync now", "crash 1", "save a", "rollback a", "ls a b", "rm a b", "rm", "mkdir", "mkdir a b", "read", "read a 0", "read a 0 5"} {
		noLine(t, "no such line", line)
	}
}

// Each first word, and some that are none, with every choice of up to four words behind it.
func TestP1EveryShortLine(t *testing.T) {
	firsts := []string{"", "#", "go", "Mount", "mounts", "list", "1", "-"}
	for first := range wordCounts {
		firsts = append(firsts, first)
	}
	right := 0
	for _, first := range firsts {
		ahead := []string{first}
		for range 5 {
			var next []string
			for _, line := range ahead {
				if lineKeepsToRule(t, line) == impl.OK {
					right++
				}
				for _, word := range []string{"a", "0", "-0", "#", "7"} {
					next = append(next, line+" "+word)
				}
			}
			ahead = next
		}
	}
	if right < 300 {
		t.Errorf("only %d lines are such lines", right)
	}
}

// Only a blank parts words: every other byte belongs to the one that it stands beside.
func TestP1EachByteOfALine(t *testing.T) {
	for i := range 256 {
		b := string([]byte{byte(i)})
		lineIs(t, "within a text", "write a 0 x"+b+"y", calls(writeAt("a", 0, "x"+b+"y")), impl.OK)
		if b == " " {
			lineIs(t, "a blank", "mount ", mountsIt, impl.OK)
			lineIs(t, "a blank", " mount", mountsIt, impl.OK)
			lineIs(t, "a blank", "ls ", calls(names("")), impl.OK)
			continue
		}
		noLine(t, "behind a word", "mount"+b)
		noLine(t, "ahead of a word", b+"mount")
		noLine(t, "between words", "read"+b+"a")
		noLine(t, "a word too many", "mount "+b)
		noLine(t, "a lone word", b)
		lineIs(t, "a path", "ls "+b, calls(names(b)), impl.OK)
		lineIs(t, "within a path", "move a"+b+"c d"+b, calls(move("a"+b+"c", "d"+b)), impl.OK)
		lineIs(t, "a text", "write a 0 "+b+" ", calls(writeAt("a", 0, b)), impl.OK)
		if i < '0' || i > '9' {
			noLine(t, "no number", "cut a "+b)
			noLine(t, "behind a number", "cut a 1"+b)
			noLine(t, "behind a number", "write a 1"+b+" x")
		}
		if b != "-" && (i < '1' || i > '9') {
			noLine(t, "ahead of a number", "cut a "+b+"1")
			noLine(t, "ahead of a number", "write a "+b+"1 x")
		}
		if b != "\n" && b != "#" {
			says(t, "a lone byte", b+"\nmount", "error form", "ok 1")
			says(t, "a byte that is read", "mount\nwrite a 0 "+b+"\nread a", "ok 1", "ok", "= "+b)
		}
	}
}

// A line that is handed in ends where it ends: a byte 10 in it is one of a word.
func TestP1EndsOfLineWithinALine(t *testing.T) {
	for _, line := range []string{"\n", "\n\n", "mount\n", "\nmount", "mount\nsync", "mount \n", " \n mount", "sync\n\n", "ls\n", "ls\na", "#\nmount", "# x\n", "\n# x", "mkdir\na", "cut a 1\n", "cut a\n1", "write a 1\n x", "write a\n1 x", "write a \n1 x", "read a \n", "move a b \n"} {
		noLine(t, "a byte 10", line)
	}
	lineIs(t, "a byte 10 in a path", "ls a\n", calls(names("a\n")), impl.OK)
	lineIs(t, "a byte 10 in a path", "read \n", calls(readAt("\n", 0, 200)), impl.OK)
	lineIs(t, "a byte 10 in a text", "write a 0 x\ny", calls(writeAt("a", 0, "x\ny")), impl.OK)
	lineIs(t, "a byte 10 around a text", "write a 0 \n x \n", calls(writeAt("a", 0, "\n x \n")), impl.OK)
}

func TestP1LinesThatAreTooLong(t *testing.T) {
	const most = impl.MaxText
	lineIs(t, "blanks behind", padded("mount", most), mountsIt, impl.OK)
	lineIs(t, "blanks ahead", strings.Repeat(" ", most-5)+"mount", mountsIt, impl.OK)
	lineIs(t, "a long path", "ls "+longText[:most-3], calls(names(longText[:most-3])), impl.OK)
	lineIs(t, "a long text", "write a 0 "+longText[:most-10], calls(writeAt("a", 0, longText[:most-10])), impl.OK)
	for _, line := range []string{longText[:most], strings.Repeat(" ", most), strings.Repeat("#", most), padded("mount x", most), strings.Repeat("\n", most), "cut a " + strings.Repeat("1", most-6)} {
		noLine(t, "no line, as long as may be", line)
	}
	for _, size := range []int{most + 1, most + 2, 2 * most, 300000} {
		for _, line := range []string{"mount", "", "#", "go", "ls a b", "write a 0", "\n", "sync\n"} {
			lineIs(t, "too long", padded(line, size), impl.VolumeAct{}, impl.ErrLong)
		}
		lineIs(t, "too long", strings.Repeat("#", size), impl.VolumeAct{}, impl.ErrLong)
		lineIs(t, "too long", "ls "+strings.Repeat("a", size-3), impl.VolumeAct{}, impl.ErrLong)
		lineIs(t, "too long", "write a 0 "+strings.Repeat("a", size-10), impl.VolumeAct{}, impl.ErrLong)
	}
}

func TestP1ConsoleTextsThatAreTooLong(t *testing.T) {
	const most = impl.MaxText
	says(t, "blanks behind", padded("mount", most), "ok 1")
	says(t, "blanks behind, ended", padded("mount", most-1)+"\n", "ok 1")
	says(t, "a long note", strings.Repeat("#", most-6)+"\nmount", "ok 1")
	says(t, "a long path", "mount\nls "+longText[:most-9], "ok 1", "error path")
	says(t, "a long text", "mount\nwrite a 0 "+longText[:most-16], "ok 1", "error range")
	says(t, "a hundred long lines", strings.Repeat(padded("save", 654)+"\n", 100), slices.Repeat([]string{"ok"}, 100)...)
	noConsole(t, "as long as may be, too many lines", strings.Repeat("\n", most), impl.ErrMany)
	noConsole(t, "as long as may be, too many lines", padded("mount", most-101)+strings.Repeat("\n", 101), impl.ErrMany)
	for _, size := range []int{most + 1, most + 2, 2 * most, 300000} {
		noConsole(t, "too long", padded("mount", size), impl.ErrLong)
		noConsole(t, "too long", "mount\n"+strings.Repeat(" ", size-6), impl.ErrLong)
		noConsole(t, "too long", "mount\nmount\n#"+strings.Repeat("\x00", size-13), impl.ErrLong)
		noConsole(t, "too long, and too many lines", strings.Repeat("\n", size), impl.ErrLong)
		noConsole(t, "too long, and too many lines", padded("mount", size-101)+strings.Repeat("\n", 101), impl.ErrLong)
		noConsole(t, "too long, and just enough lines", padded("mount", size-100)+strings.Repeat("\n", 100), impl.ErrLong)
	}
}

// oddLine draws words and what stands between them without looking at what they say.
func oddLine(s *stream) string {
	words := []string{"mount", "sync", "crash", "unmount", "save", "rollback", "mkdir", "write", "read", "cut", "move", "rm", "ls", "a", "b", "a/b", "d", "/", "#", "-", "0", "1", "-0", "-1", "007", "200", "999999999999999999", "1000000000000000000", "\t", "\r", "\xff"}
	line := strings.Repeat(" ", int(s.next())%200/190)
	for i := range int(s.next()) % 6 {
		n := int(s.next())
		switch {
		case i == 0 && n < 230:
			line += words[n%13]
		case i == 1 && n < 200:
			line += words[13+n%4]
		default:
			line += words[n%len(words)]
		}
		line += []string{" ", " ", " ", " ", " ", " ", "  ", "   ", "", "\t"}[s.next()%10]
	}
	return line
}

func TestP1OddLines(t *testing.T) {
	s := stream(35000)
	seen := map[int]int{}
	for range 30000 {
		seen[lineKeepsToRule(t, oddLine(&s))]++
	}
	if seen[impl.OK] < 2000 || seen[impl.ErrForm] < 2000 {
		t.Errorf("of odd lines too few are, or are none: %v", seen)
	}
	for size := range 60 {
		for range 40 {
			lineKeepsToRule(t, s.text(size))
		}
	}
	for seed := range 40 {
		s := stream(36000 + seed)
		lines := []string{"mount"}
		for range 99 {
			lines = append(lines, strings.ReplaceAll(oddLine(&s), "\n", ""))
		}
		consoleKeepsToRule(t, fmt.Sprint("seed ", seed), joinedLines(lines...))
		consoleKeepsToRule(t, fmt.Sprint("noise, seed ", seed), s.text(20*seed))
	}
}

// What a console did is gone when it answers: the next one begins with a new volume.
func TestP1ConsolesKeepNothing(t *testing.T) {
	lines := "mount\nwrite a 0 x\nsync\nsave\nsync\n"
	for range 3 {
		says(t, "a volume of its own", lines+"unmount\nrollback\nmount", "ok 1", "ok", "ok", "ok", "ok", "ok", "ok", "error stale")
		says(t, "a volume of its own", "rollback\nmount\nls", "error none", "ok 1", "= ")
		says(t, "a volume of its own", lines+"unmount\nmount", "ok 1", "ok", "ok", "ok", "ok", "ok", "a x", "ok 3")
		noConsole(t, "refused", strings.Repeat(lines, 21), impl.ErrMany)
		says(t, "not mounted", "ls", "error away")
	}
}

// everyConsoleCall tells what both functions of the console answer to lines drawn from a seed, wrong ones among them.
func everyConsoleCall(seed stream) string {
	s := seed
	out := ""
	lines := []string{"mount", "write a 0 x", "sync"}
	for range int(s.next()) % 60 {
		line := oddLine(&s)
		a, code := impl.ReadLine(line)
		out += voActText(a) + fmt.Sprintln(code)
		lines = append(lines, line, []string{"mount", "write a 0 " + line, "sync", "ls", "read a"}[s.next()%5])
	}
	said, code := impl.Console(strings.Join(lines, "\n"))
	return out + said + fmt.Sprintln(code)
}

func TestP1AlikeLinesAreAnsweredAlike(t *testing.T) {
	alikeAnswers(t, everyConsoleCall)
}

func TestP1ManyConsolesAtOnce(t *testing.T) {
	alikeAtOnce(t, everyConsoleCall)
}
