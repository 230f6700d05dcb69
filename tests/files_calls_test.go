package tests

import (
	"fmt"
	"math"
	"math/bits"
	"slices"
	"strings"
	"testing"

	"loop.example/g00257/impl"
)

var (
	wayToEdge = strings.Repeat("d", 20) // a directory's name; with a slash and 19 bytes more it is a path of 40 bytes

	// noPaths are texts that are no paths; the empty one is told apart, as the top can be listed.
	noPaths = []string{
		"/", "//", "/a", "a/", "a//b", "/a/b", "a/b/", "//a", "a///b", "0", "9a", "a/0", "a/9b/c", "0/a", "a-b", "a.b", ".", "..", "a/..", "a/./b", " ", " a", "a ", "a b", "a/ b",
		"a\x00", "\x00", "a\n", "\na", "a/b\n", "\xff", "a\x80", "\u00e4", "a/\u00e4", "a\\b", "a:b", "a*", "~", "@", "[", "`", "{", longText[:41], longText[:42], longText[:80], longText[:256],
		wayToEdge + "/" + wayToEdge, pathOfLetters(41), pathOfLetters(43), pathOfLetters(40), pathOfLetters(2), strings.Repeat("/", 40), longText[:impl.MaxText-1], longText[:impl.MaxText],
		strings.Repeat("/", impl.MaxText), pathOfLetters(impl.MaxText - 1),
	}

	longPaths = []string{longText, longText + longText, strings.Repeat("/", impl.MaxText+1), pathOfLetters(impl.MaxText + 1), strings.Repeat("\x00", 70000)}

	negatives = []int{-1, -2, -200, -256, -1 << 32, math.MinInt + 1, math.MinInt}

	overMost = []int{201, 202, 256, 1 << 16, 1 << 31, 1 << 32, 1<<32 + 1, 1 << 62, math.MaxInt - 200, math.MaxInt - 1, math.MaxInt}
)

func TestP1Paths(t *testing.T) {
	if impl.MaxPath != mostPath || impl.MaxFile != mostBytes || impl.MaxFiles != mostFiles {
		t.Error("MaxPath, MaxFile and MaxFiles are", impl.MaxPath, impl.MaxFile, impl.MaxFiles)
	}
	for p, up := range map[string]string{
		"a": "", "Z": "", "_": "", "a0": "", "_9": "", "abc": "", "a/b": "a", "a/b/c": "a/b", "a0/_/Z9": "a0/_", "_/_/_/_": "_/_/_",
		longText[:39]: "", longText[:40]: "", pathOfLetters(39): pathOfLetters(37), wayToEdge + "/" + wayToEdge[1:]: wayToEdge,
		"a/" + longText[:38]: "a", longText[:38] + "/a": longText[:38],
	} {
		if !impl.PathOK(p) {
			t.Errorf("PathOK of %q is false", p)
		}
		if got, code := impl.ParentOf(p); got != up || code != impl.OK {
			t.Errorf("ParentOf of %q is %q, %d", p, got, code)
		}
	}
	for _, p := range append([]string{""}, noPaths...) {
		isNoPath(t, p, impl.ErrPath)
	}
	for _, p := range longPaths {
		isNoPath(t, p, impl.ErrLong)
	}
}

func isNoPath(t *testing.T, p string, want int) {
	t.Helper()
	if impl.PathOK(p) {
		t.Errorf("PathOK of %.60q, %d bytes, is true", p, len(p))
	}
	if got, code := impl.ParentOf(p); got != "" || code != want {
		t.Errorf("ParentOf of %.60q, %d bytes, is %.60q, %d, not %d", p, len(p), got, code, want)
	}
}

// Each byte at each place of a path.
func TestP1BytesOfPaths(t *testing.T) {
	for c := range 256 {
		b := string([]byte{byte(c)})
		for _, p := range []string{b, "a" + b, b + "a", "a/" + b, b + "/a", "a" + b + "a", "a/" + b + "/a", "a/b" + b, "a/b" + b + "c", b + b} {
			if is := pathByRule(p); impl.PathOK(p) != is {
				t.Errorf("PathOK of %q is %v", p, !is)
			}
			if up, code := impl.ParentOf(p); pathByRule(p) != (code == impl.OK) || up != p[:max(0, strings.LastIndex(p, "/"))] && code == impl.OK {
				t.Errorf("ParentOf of %q is %q, %d", p, up, code)
			}
		}
	}
	for n := range 90 {
		for _, p := range []string{longText[:n], pathOfLetters(n), strings.Repeat("ab/", n)[:n], "a/" + longText[:n], longText[:n] + "/a"} {
			if is := pathByRule(p); impl.PathOK(p) != is {
				t.Errorf("PathOK of %q, %d bytes, is %v", p, len(p), !is)
			}
		}
	}
}

func TestP1RightFiles(t *testing.T) {
	for _, list := range rightFiles() {
		if !impl.FilesOK(list) || !rightByRule(list) {
			t.Errorf("FilesOK of %s is false", filesText(list))
		}
	}
}

// oddFiles are not right wherever they stand.
func oddFiles() []impl.File {
	out := []impl.File{{}, {Dir: true}, {Data: "x"}, file("a", longText[:201]), file("a", longText[:256]), file("a", longText), {Path: "a", Dir: true, Data: "x"}, {Path: "a", Dir: true, Data: "\x00"}, {Path: "a", Dir: true, Data: longText[:200]}, {Path: longText, Data: longText}}
	for _, p := range append([]string{""}, noPaths...) {
		out = append(out, file(p, ""), dir(p))
	}
	return out
}

// wrongFileLists are within MaxList; each has one fault, but for the last ones.
func wrongFileLists() [][]impl.File {
	out := [][]impl.File{
		{file("b", ""), file("a", "")}, {file("a", ""), file("a", "")}, {dir("a"), dir("a")}, {dir("a"), file("a", "")}, {file("ab", ""), file("a0", "")}, {file("a", ""), file("Z", "")},
		{dir("a"), file("a0", ""), file("a/b", "")}, {dir("a"), file("ab", ""), dir("a/b")}, {file("a/b", ""), dir("a")}, {dir("a"), dir("a/b"), dir("a0"), file("a/b/c", "")},
		{file("a/b", "")}, {dir("a/b")}, {file("a", ""), file("a/b", "")}, {file("a", ""), dir("a/b")}, {dir("a"), file("a/b/c", "")}, {dir("a"), file("a/b", ""), file("a/b/c", "")}, {dir("a"), dir("ab"), file("abc/d", "")}, {dir("a"), file("b/a", "")},
		{dir("A"), file("a/b", "")}, {dir("a"), dir("a/b"), file("b/c", "")},
	}
	for _, f := range oddFiles() {
		out = append(out, []impl.File{f}, []impl.File{file("Z", "x"), f}, []impl.File{f, file("z", "x")}, append(fullestFiles()[:11], f))
	}
	for _, n := range []int{13, 14, 100, impl.MaxList - 1, impl.MaxList} {
		out = append(out, make([]impl.File, n), manyFiles(n))
	}
	for i := range mostFiles - 1 {
		list := fullestFiles()
		list[i], list[i+1] = list[i+1], list[i]
		twice := fullestFiles()
		twice[i+1] = twice[i]
		out = append(out, list, twice)
	}
	return append(out, []impl.File{{}, {}}, []impl.File{{Path: "b", Dir: true, Data: longText}, {Path: "/", Data: longText}, {Path: "a"}})
}

// manyFiles are right, but too many.
func manyFiles(n int) []impl.File {
	var out []impl.File
	for i := range n {
		out = append(out, file(fmt.Sprintf("f%06d", i), "x"))
	}
	return out
}

func longFileLists() [][]impl.File {
	wrong := manyFiles(impl.MaxList + 1)
	wrong[0] = impl.File{Path: longText, Dir: true, Data: longText}
	return [][]impl.File{manyFiles(impl.MaxList + 1), manyFiles(70000), make([]impl.File, impl.MaxList+1), wrong}
}

// actsAt are calls of each kind at a path.
func actsAt(p string) []fileAct {
	return []fileAct{
		mkdir(p), writeAt(p, 0, "x"), writeAt(p, -1, "x"), writeAt(p, 201, ""), writeAt(p, 0, longText[:impl.MaxText]), readAt(p, 0, 1), readAt(p, -1, 1), readAt(p, 0, -1), cut(p, 0), cut(p, -1), cut(p, 201),
		move(p, "z"), move("z", p), move(p, p), move(p, p+"/z"), move(p, "/"), move("/", p), move("a", p), move(p, "a"), remove(p), names(p),
	}
}

func answersNothing(t *testing.T, why string, a fileAct, list []impl.File, want int) {
	t.Helper()
	if x := a.on(list); len(x.list) != 0 || x.text != "" || len(x.names) != 0 || x.code != want {
		t.Errorf("%s: %v, on %.300s, is %.300v, not %d", why, a, filesText(list), x, want)
	}
}

func staysWith(t *testing.T, why string, a fileAct, list []impl.File, want int) {
	t.Helper()
	if x := a.on(list); !slices.Equal(x.list, list) || x.text != "" || len(x.names) != 0 || x.code != want {
		t.Errorf("%s: %v, on %.300s, is %.300v, not %d", why, a, filesText(list), x, want)
	}
}

// Files that are not right are told ahead of all but what is too long.
func TestP1FilesThatAreNotRight(t *testing.T) {
	for _, list := range wrongFileLists() {
		if impl.FilesOK(list) || rightByRule(list) {
			t.Errorf("FilesOK of %.300s is true", filesText(list))
		}
		for _, p := range []string{"a", "a/b", "b", "new", "none/new", "", "/", longText[:impl.MaxText]} {
			for _, a := range actsAt(p) {
				if len(a.to) <= impl.MaxText {
					answersNothing(t, "wrong files", a, list, impl.ErrBad)
				}
			}
		}
		bytesAndSame(t, list, impl.ErrBad)
	}
	for _, list := range longFileLists() {
		if impl.FilesOK(list) {
			t.Errorf("FilesOK of %d files is true", len(list))
		}
		for _, p := range append([]string{"a", "f000000", "f000001/a", "new", "", "/"}, longPaths[0]) {
			for _, a := range actsAt(p) {
				answersNothing(t, "too many for a list", a, list, impl.ErrLong)
			}
		}
		bytesAndSame(t, list, impl.ErrLong)
	}
}

func bytesAndSame(t *testing.T, list []impl.File, want int) {
	t.Helper()
	if b, code := impl.FilesBytes(list); len(b) != 0 || code != want {
		t.Errorf("FilesBytes of %.300s is %d bytes, %d", filesText(list), len(b), code)
	}
	for _, other := range [][]impl.File{nil, mixedFiles(), list, wrongFileLists()[0]} {
		for _, pair := range [][2][]impl.File{{list, other}, {other, list}} {
			if same, code := impl.SameFiles(pair[0], pair[1]); same || code != want {
				t.Errorf("SameFiles of %.200s and %.200s is %v, %d", filesText(pair[0]), filesText(pair[1]), same, code)
			}
		}
	}
}

func TestP1LongAndWrongFilesAreNotTheSame(t *testing.T) {
	for _, long := range longFileLists() {
		for _, other := range append(wrongFileLists(), longFileLists()...) {
			for _, pair := range [][2][]impl.File{{long, other}, {other, long}} {
				if same, code := impl.SameFiles(pair[0], pair[1]); same || code != impl.ErrLong {
					t.Fatalf("SameFiles of %d and %d files is %v, %d", len(pair[0]), len(pair[1]), same, code)
				}
			}
		}
	}
}

// Texts that are no paths are told ahead of all that the files make wrong.
func TestP1TextsThatAreNoPaths(t *testing.T) {
	for _, list := range rightFiles() {
		for _, p := range append([]string{""}, noPaths...) {
			for _, a := range actsAt(p) {
				if p != "" || a != names("") {
					answersNothing(t, "no path", a, list, map[bool]int{true: impl.ErrLong, false: impl.ErrPath}[len(a.to) > impl.MaxText])
				}
			}
		}
	}
}

// What is too long is told ahead of all else, also of files that are not right.
func TestP1LongTexts(t *testing.T) {
	for _, list := range append(rightFiles(), wrongFileLists()[:40]...) {
		for _, p := range longPaths {
			for _, a := range actsAt(p) {
				answersNothing(t, "a long path", a, list, impl.ErrLong)
			}
		}
		for _, p := range []string{"a", "a/b", "new", "none/new", "", "/", longText} {
			for _, at := range []int{0, -1, 201, math.MaxInt, math.MinInt} {
				answersNothing(t, "long data", writeAt(p, at, longText), list, impl.ErrLong)
				answersNothing(t, "longer data", writeAt(p, at, longText+longText), list, impl.ErrLong)
			}
		}
	}
}

// crowded has MaxFiles: directories, one of them empty, files, and one below another.
func crowded() []impl.File {
	return append([]impl.File{dir("a"), dir("a/b"), file("a/b/c", "deep"), file("a/f", "flat"), dir("e"), file("f", "data")}, fullestFiles()[6:]...)
}

// Each pair of faults that can be at once, by hand: the first one named counts.
func TestP1OrderOfCodesOfNewOnes(t *testing.T) {
	list := crowded()
	for _, c := range []struct {
		why  string
		a    fileAct
		want int
	}{
		{"a directory there, full", mkdir("a"), impl.ErrTwice},
		{"a file there, full", mkdir("f"), impl.ErrTwice},
		{"without a parent, full", mkdir("x/y"), impl.ErrNone},
		{"without a parent that would be below a file, full", mkdir("f/y/z"), impl.ErrNone},
		{"below a file, full", mkdir("f/y"), impl.ErrKind},
		{"full", mkdir("x"), impl.ErrFull},
		{"full, below a directory", mkdir("a/b/x"), impl.ErrFull},
		{"a directory, no range", writeAt("a", -1, "x"), impl.ErrKind},
		{"a directory, too much", writeAt("e", 200, "x"), impl.ErrKind},
		{"a directory, at the end of all numbers", writeAt("e", math.MaxInt, "x"), impl.ErrKind},
		{"a directory, far too much", writeAt("e", 0, longText[:impl.MaxText]), impl.ErrKind},
		{"a directory, of nothing", writeAt("a", 0, ""), impl.ErrKind},
		{"no range, without a parent, full", writeAt("x/y", -1, "x"), impl.ErrRange},
		{"too much, without a parent, full", writeAt("x/y", 200, "x"), impl.ErrRange},
		{"no range, below a file, full", writeAt("f/y", -1, ""), impl.ErrRange},
		{"too much, below a file, full", writeAt("f/y", 201, ""), impl.ErrRange},
		{"no range, full", writeAt("x", -1, ""), impl.ErrRange},
		{"too much, full", writeAt("x", 0, longText[:201]), impl.ErrRange},
		{"without a parent, full", writeAt("x/y", 0, ""), impl.ErrNone},
		{"below a file, full", writeAt("f/y", 0, "x"), impl.ErrKind},
		{"full", writeAt("x", 0, ""), impl.ErrFull},
		{"full, below a directory", writeAt("e/x", 200, ""), impl.ErrFull},
	} {
		staysWith(t, c.why, c.a, list, c.want)
	}
	for _, a := range []fileAct{mkdir("/"), mkdir("f/"), mkdir(""), writeAt("x/", -1, longText[:impl.MaxText]), writeAt("a/", 201, ""), writeAt("", 0, "")} {
		answersNothing(t, "no path, full", a, list, impl.ErrPath)
	}
	listIs(t, "full, but there", after(t, list, writeAt("f", 4, "!"))[5:6], file("f", "data!"))
}

func TestP1OrderOfCodesOfThoseThere(t *testing.T) {
	list := crowded()
	for _, c := range []struct {
		why  string
		a    fileAct
		want int
	}{
		{"not there, no number", cut("x", -1), impl.ErrNone},
		{"not there, too great a number", cut("x", 201), impl.ErrNone},
		{"not there, below a file, no number", cut("f/x", math.MinInt), impl.ErrNone},
		{"a directory, no number", cut("a", -1), impl.ErrKind},
		{"a directory, too great a number", cut("e", math.MaxInt), impl.ErrKind},
		{"a directory", cut("e", 0), impl.ErrKind},
		{"no number", cut("f", -1), impl.ErrRange},
		{"too great a number", cut("f", 201), impl.ErrRange},
		{"not there", remove("x"), impl.ErrNone},
		{"not there, below a file", remove("f/x"), impl.ErrNone},
		{"not there, beside others", remove("a/b/d"), impl.ErrNone},
		{"not empty", remove("a"), impl.ErrOrder},
		{"not empty, deeper", remove("a/b"), impl.ErrOrder},
	} {
		staysWith(t, c.why, c.a, list, c.want)
	}
	for _, a := range []fileAct{cut("/", -1), cut("f/", 201), cut("", 0), remove("/"), remove("a/"), remove(""), readAt("/", -1, -1), readAt("f/", 0, 1), readAt("", 0, 0), names("/"), names("a/"), names("a//b")} {
		answersNothing(t, "no path", a, list, impl.ErrPath)
	}
	for _, c := range []struct {
		why  string
		a    fileAct
		want int
	}{
		{"not there, no place", readAt("x", -1, 1), impl.ErrNone},
		{"not there, no number", readAt("x", 0, -1), impl.ErrNone},
		{"not there, below a file", readAt("f/x", 0, 0), impl.ErrNone},
		{"a directory, no place", readAt("a", -1, 1), impl.ErrKind},
		{"a directory, no number", readAt("e", 0, math.MinInt), impl.ErrKind},
		{"a directory", readAt("e", 0, 0), impl.ErrKind},
		{"no place", readAt("f", -1, 1), impl.ErrRange},
		{"no number", readAt("f", 0, -1), impl.ErrRange},
		{"neither", readAt("f", math.MinInt, math.MinInt), impl.ErrRange},
		{"behind the end, no number", readAt("f", math.MaxInt, -1), impl.ErrRange},
		{"not there", names("x"), impl.ErrNone},
		{"not there, below a file", names("f/x"), impl.ErrNone},
		{"not there, beside others", names("a/c"), impl.ErrNone},
		{"a file", names("f"), impl.ErrKind},
		{"a file, deeper", names("a/b/c"), impl.ErrKind},
	} {
		answersNothing(t, c.why, c.a, list, c.want)
	}
}

func TestP1OrderOfCodesOfMoves(t *testing.T) {
	list := crowded()
	tail := "/" + longText[:mostPath-3] // behind a path of one byte it makes 39, behind one of four 42
	deep := []impl.File{dir("a"), file("a"+tail, "x"), file("b", ""), dir("long"), dir("more"), file("more/f", "")}
	for _, c := range []struct {
		why  string
		list []impl.File
		a    fileAct
		want int
	}{
		{"not there, the same", list, move("x", "x"), impl.ErrNone},
		{"not there, below itself", list, move("x", "x/y"), impl.ErrNone},
		{"not there, to a path without a parent", list, move("x", "y/z"), impl.ErrNone},
		{"not there, to below a file", list, move("x", "f/z"), impl.ErrNone},
		{"not there, over a directory", list, move("x", "e"), impl.ErrNone},
		{"not there, over a file", list, move("x", "f"), impl.ErrNone},
		{"a file, below itself, which is below a file", list, move("f", "f/x"), impl.ErrOrder},
		{"below itself, without a parent", list, move("a", "a/x/y"), impl.ErrOrder},
		{"below itself, below a file", list, move("a", "a/f/x"), impl.ErrOrder},
		{"below itself, over a directory", list, move("a", "a/b"), impl.ErrOrder},
		{"below itself, over a file", list, move("a", "a/b/c"), impl.ErrOrder},
		{"below itself, too long", deep, move("a", "a/"+longText[:30]), impl.ErrOrder},
		{"without a parent, too long", deep, move("a", "x/y"), impl.ErrNone},
		{"without a parent, a file", list, move("f", "x/y"), impl.ErrNone},
		{"below a file, too long", deep, move("a", "b/y"), impl.ErrKind},
		{"below a file, a file", list, move("f", "a/f/x"), impl.ErrKind},
		{"a directory over a directory", list, move("a", "e"), impl.ErrTwice},
		{"an empty directory over its like", list, move("e", "a/b"), impl.ErrTwice},
		{"a directory over a file", list, move("e", "f"), impl.ErrTwice},
		{"a file over a directory", list, move("f", "e"), impl.ErrTwice},
		{"up, over where it stands", list, move("a/b", "a"), impl.ErrTwice},
		{"a file, up, over where it stands", list, move("a/f", "a"), impl.ErrTwice},
		{"over a directory, too long", deep, move("a", "long"), impl.ErrTwice},
		{"over a file, too long", deep, move("a", "more/f"), impl.ErrTwice},
		{"too long", deep, move("a", "much"), impl.ErrPath},
		{"too long, deeper", deep, move("a", "long/a"), impl.ErrPath},
		{"one byte too long", deep, move("a", "abc"), impl.ErrPath},
	} {
		staysWith(t, c.why, c.a, c.list, c.want)
	}
	for _, a := range []fileAct{move("/", "x"), move("a", "/"), move("a", ""), move("", "a"), move("x", "a//b"), move("a", "a/"), move("", ""), move("/", "/"), move("a", longText[:41])} {
		answersNothing(t, "no path", a, list, impl.ErrPath)
	}
	x := after(t, deep, move("a", "aa"))
	listIs(t, "just not too long", x[:2], dir("aa"), file("aa"+tail, "x"))
	if len(x[1].Path) != mostPath {
		t.Errorf("%q has %d bytes", x[1].Path, len(x[1].Path))
	}
}

// Of those below one that is too long is enough, wherever it stands.
func TestP1MovesToPathsThatWouldBeTooLong(t *testing.T) {
	for i := range 5 {
		for size := 1; size <= 30; size++ {
			list := []impl.File{dir("d")}
			for k := range 5 {
				name := "d/" + string([]byte{byte('a' + k)})
				list = append(list, file(name+longText[:map[bool]int{true: size, false: 1}[i == k]], "x"))
			}
			for to := 1; to <= 40; to++ {
				x := move("d", "e"+longText[:to-1]).keepsToRule(t, list)
				if fits := to+1+1+size <= 40 && to+3 <= 40; fits != (x.code == impl.OK) || !fits && x.code != impl.ErrPath {
					t.Fatalf("a move to %d bytes of what has %d bytes below is %d", to, size+1, x.code)
				}
			}
		}
	}
}

func TestP1NumbersOutOfTheirBounds(t *testing.T) {
	for _, list := range [][]impl.File{{file("f", "")}, {file("f", "data")}, {file("f", numbered(0, 200))}, crowded()} {
		for _, n := range append(slices.Clone(negatives), overMost...) {
			staysWith(t, "a cut", cut("f", n), list, impl.ErrRange)
			for _, data := range []string{"", "x", longText[:200], longText[:201], longText[:impl.MaxText]} {
				staysWith(t, "a write", writeAt("f", n, data), list, impl.ErrRange)
				staysWith(t, "a write of a new one", writeAt("new", n, data), list, impl.ErrRange)
			}
		}
		for _, n := range negatives {
			for _, other := range []int{0, 1, 200, math.MaxInt, -1, math.MinInt} {
				answersNothing(t, "a read", readAt("f", n, other), list, impl.ErrRange)
				answersNothing(t, "a read", readAt("f", other, n), list, impl.ErrRange)
			}
		}
		for at := range 201 {
			staysWith(t, "one byte too much", writeAt("f", at, longText[:201-at]), list, impl.ErrRange)
			x := writeAt("f", at, longText[:200-at]).keepsToRule(t, list)
			if x.code != impl.OK {
				t.Errorf("a write of %d bytes at %d is %d", 200-at, at, x.code)
			}
		}
	}
}

func TestP1OneFileMoreThanThereMayBe(t *testing.T) {
	for n := range mostFiles + 1 {
		list := fullestFiles()[:n]
		for _, a := range []fileAct{mkdir("new"), writeAt("new", 0, ""), writeAt("A", 200, ""), mkdir("A")} {
			if n < mostFiles {
				if x := after(t, list, a); len(x) != n+1 {
					t.Errorf("%v, on %d files, has %d", a, n, len(x))
				}
			} else {
				staysWith(t, "full", a, list, impl.ErrFull)
			}
		}
	}
	list := fullestFiles()
	after(t, list, cut(list[0].Path, 0), move(list[1].Path, "new"), move("new", list[2].Path), mkdir("new"))
}

// Many faults at once, and all of them at calls of each kind.
func TestP1CallsWithManyFaults(t *testing.T) {
	paths := []string{"a", "a/b", "a/b/c", "a/f", "e", "f", "x", "x/y", "f/y", "a/x", "e/" + longText[:38], "", "/", longText[:41], longText[:impl.MaxText], longText}
	numbers := []int{0, 1, 4, 199, 200, 201, -1, math.MinInt, math.MaxInt}
	texts := []string{"", "x", longText[:200], longText[:201], longText[:impl.MaxText], longText}
	lists := append([][]impl.File{nil, crowded(), crowded()[:6]}, wrongFileLists()[:4]...)
	for _, list := range append(lists, longFileLists()[0]) {
		for _, p := range paths {
			for _, a := range []fileAct{mkdir(p), remove(p), names(p)} {
				a.keepsToRule(t, list)
			}
			for _, to := range paths {
				move(p, to).keepsToRule(t, list)
			}
			for _, at := range numbers {
				cut(p, at).keepsToRule(t, list)
				for _, n := range numbers {
					readAt(p, at, n).keepsToRule(t, list)
				}
				for _, data := range texts {
					writeAt(p, at, data).keepsToRule(t, list)
				}
			}
		}
	}
}

// The top is no path, but it can be listed.
func TestP1TheTop(t *testing.T) {
	for _, list := range rightFiles() {
		var want []string
		for _, f := range list {
			if !strings.Contains(f.Path, "/") {
				want = append(want, f.Path+map[bool]string{true: "/"}[f.Dir])
			}
		}
		namesAre(t, list, "", want...)
		for _, a := range []fileAct{mkdir(""), writeAt("", 0, ""), readAt("", 0, 0), cut("", 0), move("", "z"), move("a", ""), remove(""), names("/")} {
			answersNothing(t, "the top", a, list, impl.ErrPath)
		}
	}
	answersNothing(t, "the top of wrong files", names(""), wrongFileLists()[0], impl.ErrBad)
	answersNothing(t, "the top of too many files", names(""), longFileLists()[0], impl.ErrLong)
}

func TestP1NoListAndAnEmptyOneAreTheSameFiles(t *testing.T) {
	for _, p := range []string{"a", "a/b", "", "/"} {
		for _, a := range actsAt(p) {
			if x, y := a.on(nil), a.on([]impl.File{}); x.String() != y.String() {
				t.Errorf("%v of no files is %v, of an empty list %v", a, x, y)
			}
		}
	}
	x, _ := impl.FilesBytes(nil)
	y, _ := impl.FilesBytes([]impl.File{})
	if string(x) != "\x00" || string(y) != "\x00" {
		t.Errorf("FilesBytes of no files is %x, of an empty list %x", x, y)
	}
}

func noFiles(t *testing.T, why, b string, want int) {
	t.Helper()
	if list, code := impl.ReadFiles([]byte(b)); len(list) != 0 || code != want {
		t.Errorf("%s: ReadFiles of %d bytes, %.200x, is %.300s, %d, not %d", why, len(b), b, filesText(list), code, want)
	}
}

func TestP1BytesThatAreNoFiles(t *testing.T) {
	for _, list := range rightFiles() {
		whole := filesByRule(list)
		for n := range len(whole) {
			noFiles(t, "cut short", whole[:n], impl.ErrForm)
		}
		for _, more := range []string{"\x00", "\x01", "\x00\x00", "\x01a\x00\x00\x00", whole, longText[:impl.MaxText-len(whole)]} {
			noFiles(t, "goes on", whole+more, impl.ErrForm)
		}
		for n := range 256 {
			if n != len(list) {
				noFiles(t, "another number of files", string([]byte{byte(n)})+whole[1:], impl.ErrForm)
			}
		}
		noFiles(t, "long", whole+longText, impl.ErrLong)
	}
	noFiles(t, "nothing", "", impl.ErrForm)
	for _, c := range []string{"\x00", "\xff", "\x01", "\x0c", "\x0d"} {
		noFiles(t, "one byte again and again", strings.Repeat(c, impl.MaxText), impl.ErrForm)
		noFiles(t, "one byte too many", strings.Repeat(c, impl.MaxText+1), impl.ErrLong)
	}
	if list, code := impl.ReadFiles(nil); len(list) != 0 || code != impl.ErrForm {
		t.Errorf("ReadFiles of nil is %s, %d", filesText(list), code)
	}
}

// What has noughts at its end is not read out of bytes that lack them.
func TestP1BytesThatLackNoughts(t *testing.T) {
	for size := 1; size <= 200; size++ {
		whole := filesByRule([]impl.File{file("f", strings.Repeat("\x00", size))})
		for n := range len(whole) {
			noFiles(t, "cut short", whole[:n], impl.ErrForm)
		}
	}
}

func TestP1BytesOfFilesThatAreNotRight(t *testing.T) {
	for _, list := range wrongFileLists() {
		fits := len(list) < 256
		for _, f := range list {
			fits = fits && len(f.Path) < 256 && len(f.Data) < 65536
		}
		if fits && len(filesByRule(list)) <= impl.MaxText {
			noFiles(t, "files that are not right", filesByRule(list), impl.ErrForm)
		}
	}
	for kind := 2; kind < 256; kind++ {
		b := string([]byte{byte(kind)})
		noFiles(t, "neither a file nor a directory", "\x01\x01a"+b+"\x00\x00", impl.ErrForm)
		noFiles(t, "neither, with data", "\x01\x01a"+b+"\x00\x01x", impl.ErrForm)
		noFiles(t, "neither, below a directory", "\x02\x01a\x01\x00\x00\x03a/b"+b+"\x00\x01x", impl.ErrForm)
		noFiles(t, "neither, with one below", "\x02\x01a"+b+"\x00\x00\x03a/b\x00\x00\x01x", impl.ErrForm)
	}
}

// Whatever bytes are files are just those of the files that they tell.
func TestP1BytesOfFilesWithOneByteChanged(t *testing.T) {
	for _, list := range append(rightFiles(), crowded()) {
		whole := []byte(filesByRule(list))
		for i := range whole {
			was := whole[i]
			for c := range 256 {
				if whole[i] = byte(c); byte(c) == was || len(whole) > 300 && bits.OnesCount8(byte(c)^was) > 1 {
					continue
				}
				x, code := impl.ReadFiles(whole)
				if code == impl.OK && (filesByRule(x) != string(whole) || !rightByRule(x)) || code != impl.OK && (code != impl.ErrForm || len(x) != 0) {
					t.Fatalf("ReadFiles of %x is %s, %d", whole, filesText(x), code)
				}
			}
			whole[i] = was
		}
	}
	for c := range 256 {
		x, code := impl.ReadFiles([]byte("\x01\x01f\x00\x00\x01" + string([]byte{byte(c)})))
		listIs(t, "other Data", x, file("f", string([]byte{byte(c)})))
		if code != impl.OK {
			t.Errorf("ReadFiles with Data %d is %d", c, code)
		}
	}
}

// roomyFiles have room behind their end that nothing may be written into; the answer tells all of that memory.
func roomyFiles(list []impl.File) ([]impl.File, func() string) {
	whole := append(slices.Clone(list), file("behind", "the end"), dir("zzz"))
	return whole[:len(list)], func() string { return filesText(whole) }
}

func spoilFiles(list []impl.File) {
	list = list[:cap(list)]
	for i := range list {
		list[i] = impl.File{Path: "spoilt", Dir: true, Data: "spoilt"}
	}
}

func TestP1FilesStayAsTheyWere(t *testing.T) {
	lists := append(rightFiles(), crowded())
	for _, start := range append(lists, wrongFileLists()[:50]...) {
		acts := slices.Concat(actsAt("new"), actsAt("a"), actsAt("a/b"), actsAt("f"), actsAt("/"), actsAt(""))
		for _, f := range start {
			acts = append(acts, writeAt(f.Path, 1, "XY"), cut(f.Path, 1), move(f.Path, "new"), move(f.Path, f.Path), remove(f.Path))
		}
		for _, a := range acts {
			staysAlone(t, start, a)
		}
	}
}

// staysAlone does a call twice, and writes over all that is answered and handed in.
func staysAlone(t *testing.T, start []impl.File, a fileAct) {
	t.Helper()
	list, whole := roomyFiles(start)
	was := whole()
	impl.FilesOK(list)
	impl.FilesBytes(list)
	impl.SameFiles(list, list)
	x := a.on(list)
	if whole() != was {
		t.Fatalf("%v, %d, makes %.300s of %.300s", a, x.code, whole(), was)
	}
	again := a.on(list)
	want := again.String()
	if want != x.String() {
		t.Fatalf("%v, on %.300s, is %v, then %v", a, was, x, again)
	}
	spoilFiles(x.list)
	clear(x.names[:cap(x.names)])
	if whole() != was || again.String() != want {
		t.Fatalf("what %v, %d, answers is another's memory, or its argument's", a, x.code)
	}
	spoilFiles(list)
	if again.String() != want {
		t.Fatalf("what %v, %d, answers is its argument's memory", a, x.code)
	}
}

func TestP1BytesOfFilesStayAsTheyWere(t *testing.T) {
	for _, list := range rightFiles() {
		x, _ := impl.FilesBytes(list)
		again, _ := impl.FilesBytes(list)
		clear(x[:cap(x)])
		if string(again) != filesByRule(list) {
			t.Fatal("two answers of FilesBytes are one memory")
		}
		whole := append(slices.Clone(again), "behind"...)
		in := whole[:len(again)]
		y, code := impl.ReadFiles(in)
		z, _ := impl.ReadFiles(in)
		spoilFiles(y)
		if string(whole) != filesByRule(list)+"behind" {
			t.Fatalf("ReadFiles, %d, changes its bytes", code)
		}
		clear(whole)
		listIs(t, "what ReadFiles answers", z, list...)
	}
}

// everyFilesCall tells what each function of files answers to inputs drawn from a seed, wrong ones among them.
func everyFilesCall(seed stream) string {
	s := seed
	list := slices.Clone(rightFiles()[int(s.next())%len(rightFiles())])
	if s.next() < 30 {
		list = slices.Clone(wrongFileLists()[s.next()%80])
	}
	out := []string{fmt.Sprint(impl.FilesOK(list))}
	for range 12 {
		a := someFileAct(&s, list)
		x := a.on(list)
		up, code := impl.ParentOf(a.p)
		out = append(out, a.String(), x.String(), fmt.Sprint(impl.PathOK(a.p), up, code))
		if a.changesFiles() && x.code == impl.OK {
			list = x.list
		}
	}
	b, code := impl.FilesBytes(list)
	if len(b) > 0 && s.next() < 128 {
		b[int(s.next())%len(b)] ^= s.next()
	}
	back, form := impl.ReadFiles(b)
	same, bad := impl.SameFiles(list, back)
	return strings.Join(append(out, fmt.Sprintf("%x %d %s %d %v %d", b, code, filesText(back), form, same, bad)), "\n")
}

func TestP1AlikeArgumentsHaveAlikeFiles(t *testing.T) {
	alikeAnswers(t, everyFilesCall)
}

func TestP1ManyFilesAtOnce(t *testing.T) {
	alikeAtOnce(t, everyFilesCall)
}
