package tests

import (
	"fmt"
	"maps"
	"path"
	"regexp"
	"slices"
	"strings"
	"testing"

	"loop.example/g00257/impl"
)

const (
	mostFiles = 12
	mostBytes = 200
	mostPath  = 40
)

func dir(p string) impl.File        { return impl.File{Path: p, Dir: true} }
func file(p, data string) impl.File { return impl.File{Path: p, Data: data} }

func filesText(list []impl.File) string {
	out := fmt.Sprintf("%d:", len(list))
	for _, f := range list {
		out += fmt.Sprintf(" %q %v %q;", f.Path, f.Dir, f.Data)
	}
	return out
}

// fileAct is a call on files: what it does not need is left out.
type fileAct struct {
	call  string
	p, to string
	at, n int
	data  string
}

func mkdir(p string) fileAct { return fileAct{call: "MakeDir", p: p} }
func writeAt(p string, at int, data string) fileAct {
	return fileAct{call: "WriteFile", p: p, at: at, data: data}
}
func readAt(p string, at, n int) fileAct { return fileAct{call: "ReadFile", p: p, at: at, n: n} }
func cut(p string, n int) fileAct        { return fileAct{call: "CutFile", p: p, n: n} }
func move(p, to string) fileAct          { return fileAct{call: "MoveFile", p: p, to: to} }
func remove(p string) fileAct            { return fileAct{call: "RemoveFile", p: p} }
func names(p string) fileAct             { return fileAct{call: "ListDir", p: p} }

func (a fileAct) String() string {
	return fmt.Sprintf("%s of %.60q, %.60q, %d, %d, %d bytes %.60q", a.call, a.p, a.to, a.at, a.n, len(a.data), a.data)
}

// fileAnswer has all that any of the calls answers.
type fileAnswer struct {
	list  []impl.File
	text  string
	names []string
	code  int
}

func (x fileAnswer) String() string {
	return fmt.Sprintf("%.2000s | %q | %q | %d", filesText(x.list), x.text, x.names, x.code)
}

func (a fileAct) on(list []impl.File) (x fileAnswer) {
	switch a.call {
	case "MakeDir":
		x.list, x.code = impl.MakeDir(list, a.p)
	case "WriteFile":
		x.list, x.code = impl.WriteFile(list, a.p, a.at, a.data)
	case "ReadFile":
		x.text, x.code = impl.ReadFile(list, a.p, a.at, a.n)
	case "CutFile":
		x.list, x.code = impl.CutFile(list, a.p, a.n)
	case "MoveFile":
		x.list, x.code = impl.MoveFile(list, a.p, a.to)
	case "RemoveFile":
		x.list, x.code = impl.RemoveFile(list, a.p)
	case "ListDir":
		x.names, x.code = impl.ListDir(list, a.p)
	}
	return x
}

var pathForm = regexp.MustCompile(`^[A-Za-z_][A-Za-z0-9_]*(/[A-Za-z_][A-Za-z0-9_]*)*$`)

func pathByRule(p string) bool { return len(p) <= mostPath && pathForm.MatchString(p) }

// shelf is what files should be, kept as the plainest thing: what stands at each path.
type shelf map[string]impl.File

func shelfOf(list []impl.File) shelf {
	s := shelf{}
	for _, f := range list {
		s[f.Path] = f
	}
	return s
}

func (s shelf) list() []impl.File {
	var out []impl.File
	for _, p := range slices.Sorted(maps.Keys(s)) {
		out = append(out, s[p])
	}
	return out
}

// rightByRule holds a list against what the shelf makes of it: that one rises.
func rightByRule(list []impl.File) bool {
	s := shelfOf(list)
	if len(list) > mostFiles || !slices.Equal(s.list(), list) {
		return false
	}
	for p, f := range s {
		if !pathByRule(p) || len(f.Data) > mostBytes || f.Dir && len(f.Data) > 0 {
			return false
		}
		if up := path.Dir(p); up != "." && !s[up].Dir {
			return false
		}
	}
	return true
}

type fileFault struct {
	is   bool
	code int
}

func (s shelf) parentFaults(p string) []fileFault {
	up := path.Dir(p)
	f, there := s[up]
	return []fileFault{{!there && up != ".", impl.ErrNone}, {there && !f.Dir, impl.ErrKind}}
}

func (s shelf) hasBelow(p string) bool {
	for other := range s {
		if strings.HasPrefix(other, p+"/") {
			return true
		}
	}
	return false
}

func (s shelf) movesTooFar(from, to string) bool {
	for p := range s {
		if strings.HasPrefix(p, from+"/") && len(p)-len(from)+len(to) > mostPath {
			return true
		}
	}
	return false
}

// faults are those of a call, in the document's order; the first one that is so counts, also where it is none (OK).
func (s shelf) faults(a fileAct) []fileFault {
	f, there := s[a.p]
	none, kind := fileFault{!there, impl.ErrNone}, fileFault{f.Dir, impl.ErrKind}
	full := fileFault{len(s) >= mostFiles, impl.ErrFull}
	switch a.call {
	case "MakeDir":
		return append(append([]fileFault{{there, impl.ErrTwice}}, s.parentFaults(a.p)...), full)
	case "WriteFile":
		out := []fileFault{kind, {a.at < 0 || a.at > mostBytes || a.at+len(a.data) > mostBytes, impl.ErrRange}, {there, impl.OK}}
		return append(append(out, s.parentFaults(a.p)...), full)
	case "ReadFile":
		return []fileFault{none, kind, {a.at < 0 || a.n < 0, impl.ErrRange}}
	case "CutFile":
		return []fileFault{none, kind, {a.n < 0 || a.n > mostBytes, impl.ErrRange}}
	case "MoveFile":
		g, taken := s[a.to]
		out := []fileFault{none, {a.p == a.to, impl.OK}, {strings.HasPrefix(a.to, a.p+"/"), impl.ErrOrder}}
		out = append(out, s.parentFaults(a.to)...)
		return append(out, fileFault{taken && (f.Dir || g.Dir), impl.ErrTwice}, fileFault{s.movesTooFar(a.p, a.to), impl.ErrPath})
	case "RemoveFile":
		return []fileFault{none, {s.hasBelow(a.p), impl.ErrOrder}}
	}
	return []fileFault{{!there && a.p != "", impl.ErrNone}, {there && !f.Dir, impl.ErrKind}}
}

func writtenByRule(old string, at int, data string) string {
	b := []byte(old)
	for len(b) < at {
		b = append(b, 0)
	}
	for i, c := range []byte(data) {
		if at+i < len(b) {
			b[at+i] = c
		} else {
			b = append(b, c)
		}
	}
	return string(b)
}

func readByRule(data string, at, n int) string {
	out := ""
	for i, c := range []byte(data) {
		if i >= at && len(out) < n {
			out += string([]byte{c})
		}
	}
	return out
}

func (s shelf) moves(from, to string) {
	moved := shelf{}
	for p, f := range s {
		if p == from || strings.HasPrefix(p, from+"/") {
			delete(s, p)
			f.Path = to + strings.TrimPrefix(p, from)
			moved[f.Path] = f
		}
	}
	maps.Copy(s, moved)
}

func (s shelf) names(p string) []string {
	var out []string
	for _, f := range s.list() {
		if up := path.Dir(f.Path); up != p && (up != "." || p != "") {
			continue
		}
		end := map[bool]string{true: "/"}[f.Dir]
		out = append(out, path.Base(f.Path)+end)
	}
	return out
}

// does wants a call without a code.
func (s shelf) does(a fileAct) (x fileAnswer) {
	switch a.call {
	case "ReadFile":
		return fileAnswer{text: readByRule(s[a.p].Data, a.at, a.n)}
	case "ListDir":
		return fileAnswer{names: s.names(a.p)}
	case "MakeDir":
		s[a.p] = dir(a.p)
	case "WriteFile":
		s[a.p] = file(a.p, writtenByRule(s[a.p].Data, a.at, a.data))
	case "CutFile":
		s[a.p] = file(a.p, readByRule(writtenByRule(s[a.p].Data, a.n, ""), 0, a.n))
	case "MoveFile":
		s.moves(a.p, a.to)
	case "RemoveFile":
		delete(s, a.p)
	}
	return fileAnswer{list: s.list()}
}

func (a fileAct) changesFiles() bool { return a.call != "ReadFile" && a.call != "ListDir" }

// byRule is what a call should answer.
func (a fileAct) byRule(list []impl.File) fileAnswer {
	if len(list) > impl.MaxList || max(len(a.p), len(a.to), len(a.data)) > impl.MaxText {
		return fileAnswer{code: impl.ErrLong}
	}
	if !rightByRule(list) {
		return fileAnswer{code: impl.ErrBad}
	}
	top := a.call == "ListDir" && a.p == ""
	if !pathByRule(a.p) && !top || a.call == "MoveFile" && !pathByRule(a.to) {
		return fileAnswer{code: impl.ErrPath}
	}
	s := shelfOf(list)
	for _, fault := range s.faults(a) {
		if fault.is && fault.code == impl.OK {
			break
		}
		if fault.is && a.changesFiles() {
			return fileAnswer{list: list, code: fault.code}
		}
		if fault.is {
			return fileAnswer{code: fault.code}
		}
	}
	return s.does(a)
}

func (a fileAct) keepsToRule(t *testing.T, list []impl.File) fileAnswer {
	t.Helper()
	got, want := a.on(list), a.byRule(list)
	if got.String() != want.String() {
		t.Fatalf("%v, on %.1000s\nis     %v\nnot    %v", a, filesText(list), got, want)
	}
	return got
}

// after does calls that have no code.
func after(t *testing.T, list []impl.File, acts ...fileAct) []impl.File {
	t.Helper()
	for _, a := range acts {
		x := a.on(list)
		if x.code != impl.OK || !impl.FilesOK(x.list) {
			t.Fatalf("%v, on %s, is %v", a, filesText(list), x)
		}
		list = x.list
	}
	return list
}

func listIs(t *testing.T, why string, got []impl.File, want ...impl.File) {
	t.Helper()
	if !slices.Equal(got, want) {
		t.Fatalf("%s: %s, not %s", why, filesText(got), filesText(want))
	}
}

func readsText(t *testing.T, list []impl.File, p string, at, n int, want string) {
	t.Helper()
	if got, code := impl.ReadFile(list, p, at, n); got != want || code != impl.OK {
		t.Fatalf("ReadFile of %q, %d, %d is %q, %d, not %q", p, at, n, got, code, want)
	}
}

func namesAre(t *testing.T, list []impl.File, p string, want ...string) {
	t.Helper()
	if got, code := impl.ListDir(list, p); !slices.Equal(got, want) || code != impl.OK {
		t.Fatalf("ListDir of %q is %q, %d, not %q", p, got, code, want)
	}
}

func numbered(from, n int) string {
	b := make([]byte, n)
	for i := range b {
		b[i] = byte(from + i)
	}
	return string(b)
}

// pathOfLetters has so many bytes, in names of one letter; it is a path if they are odd.
func pathOfLetters(n int) string { return strings.Repeat("a/", n)[:n] }

// deepFiles stand each below the one ahead, as deep as there is room for them.
func deepFiles() []impl.File {
	var out []impl.File
	for n := 1; n <= 2*mostFiles-3; n += 2 {
		out = append(out, dir(pathOfLetters(n)))
	}
	return append(out, file(pathOfLetters(2*mostFiles-1), numbered(0, 200)))
}

// fullestFiles are as many, with paths and Data as long, as there may be.
func fullestFiles() []impl.File {
	var out []impl.File
	for i := range mostFiles {
		name := strings.Repeat(string([]byte{byte('a' + i)}), mostPath)
		out = append(out, file(name, numbered(7*i, mostBytes)))
	}
	return out
}

// mixedFiles have, in paths' order, what begins with another's name and does not stand below it.
func mixedFiles() []impl.File {
	return []impl.File{
		dir("A"), dir("a"), dir("a/b"), file("a/b/c", "deep"), file("a/b0", "next"), file("a/f", "flat"),
		file("a0", "nought"), dir("a_"), file("ab", "other"), dir("abc"), file("abc/d", ""),
	}
}

func rightFiles() [][]impl.File {
	return [][]impl.File{
		nil, {}, {file("a", "")}, {dir("a")}, {file("_", "\x00")}, {file("Z9", numbered(100, 200))},
		{dir("a"), file("a/b", "x")}, {dir("a"), dir("a/b"), dir("a/b/c"), file("a/b/c/d", "/")},
		mixedFiles(), mixedFiles()[1:], deepFiles(), fullestFiles(), fullestFiles()[1:],
		{dir("abcdefghijklmnopqrst"), file("abcdefghijklmnopqrst/abcdefghijklmnopqrs", "edge")},
	}
}

func TestP12FilesWorkedOutByHand(t *testing.T) {
	list := after(t, nil, mkdir("d"), writeAt("d/f", 2, "xyz"), mkdir("d/e"), writeAt("d/e/g", 0, "deep"), writeAt("c", 0, ""))
	listIs(t, "made", list, file("c", ""), dir("d"), dir("d/e"), file("d/e/g", "deep"), file("d/f", "\x00\x00xyz"))
	list = after(t, list, writeAt("d/f", 1, "AB"), writeAt("d/f", 7, "!"), cut("d/e/g", 2), cut("c", 3))
	listIs(t, "written", list, file("c", "\x00\x00\x00"), dir("d"), dir("d/e"), file("d/e/g", "de"), file("d/f", "\x00AByz\x00\x00!"))
	list = after(t, list, move("d/e", "b"), move("d/f", "b/g"))
	listIs(t, "moved", list, dir("b"), file("b/g", "\x00AByz\x00\x00!"), file("c", "\x00\x00\x00"), dir("d"))
	namesAre(t, list, "", "b/", "c", "d/")
	namesAre(t, list, "b", "g")
	namesAre(t, list, "d")
	readsText(t, list, "b/g", 1, 3, "ABy")
	list = after(t, list, move("b", "d/b"), remove("c"))
	listIs(t, "moved into another", list, dir("d"), dir("d/b"), file("d/b/g", "\x00AByz\x00\x00!"))
	list = after(t, list, remove("d/b/g"), remove("d/b"), remove("d"))
	listIs(t, "removed", list)
}

// A slash comes ahead of all that a name has, a nought ahead of letters, capitals ahead of small ones.
func TestP12OrderOfPaths(t *testing.T) {
	want := mixedFiles()
	s := stream(120)
	for range 200 {
		var list []impl.File
		left := slices.Clone(want)
		for len(left) > 0 {
			i := int(s.next()) % len(left)
			f := left[i]
			if up := path.Dir(f.Path); up != "." && !shelfOf(list)[up].Dir {
				continue
			}
			left = slices.Delete(left, i, i+1)
			if f.Dir {
				list = after(t, list, mkdir(f.Path))
			} else {
				list = after(t, list, writeAt(f.Path, 0, f.Data))
			}
		}
		listIs(t, "in another order", list, want...)
	}
	namesAre(t, want, "", "A/", "a/", "a0", "a_/", "ab", "abc/")
	namesAre(t, want, "a", "b/", "b0", "f")
	namesAre(t, want, "a/b", "c")
	namesAre(t, want, "abc", "d")
	namesAre(t, want, "A")
}

// What begins with another's name does not stand below it.
func TestP12NeighboursStayWhereTheyAre(t *testing.T) {
	list := []impl.File{dir("a"), file("a/b", "1"), file("a0", "2"), file("a_", "3"), file("ab", "4"), dir("abc"), file("abc/b", "5")}
	listIs(t, "moved", after(t, list, move("a", "z")), file("a0", "2"), file("a_", "3"), file("ab", "4"), dir("abc"), file("abc/b", "5"), dir("z"), file("z/b", "1"))
	listIs(t, "moved into a longer name", after(t, list, move("a", "abc/a")), file("a0", "2"), file("a_", "3"), file("ab", "4"), dir("abc"), dir("abc/a"), file("abc/a/b", "1"), file("abc/b", "5"))
	listIs(t, "moved to a longer name", after(t, list, move("a", "aa")), file("a0", "2"), file("a_", "3"), dir("aa"), file("aa/b", "1"), file("ab", "4"), dir("abc"), file("abc/b", "5"))
	listIs(t, "moved into what begins with it", after(t, list, move("abc", "a/abc")), dir("a"), dir("a/abc"), file("a/abc/b", "5"), file("a/b", "1"), file("a0", "2"), file("a_", "3"), file("ab", "4"))
	listIs(t, "removed", after(t, list, remove("a/b"), remove("a")), file("a0", "2"), file("a_", "3"), file("ab", "4"), dir("abc"), file("abc/b", "5"))
	listIs(t, "a file moved", after(t, list, move("ab", "a/c")), dir("a"), file("a/b", "1"), file("a/c", "4"), file("a0", "2"), file("a_", "3"), dir("abc"), file("abc/b", "5"))
	listIs(t, "a file moved over another", after(t, list, move("ab", "abc/b")), dir("a"), file("a/b", "1"), file("a0", "2"), file("a_", "3"), dir("abc"), file("abc/b", "4"))
	namesAre(t, list, "a", "b")
	namesAre(t, list, "abc", "b")
}

// othersStay holds all but one path against what stood there.
func othersStay(t *testing.T, was, now []impl.File, but string) {
	t.Helper()
	a, b := shelfOf(was), shelfOf(now)
	delete(a, but)
	delete(b, but)
	if !maps.Equal(a, b) {
		t.Fatalf("beside %q %s became %s", but, filesText(was), filesText(now))
	}
}

func fileSizes() []int { return []int{0, 1, 2, 99, 198, 199, 200} }

func TestP12WhatIsWrittenIsRead(t *testing.T) {
	for _, p := range []string{"a/b/c", "a/f", "a0", "abc/d", "new", "a/new", "a/b/new", "A/new"} {
		for _, size := range fileSizes() {
			list := mixedFiles()
			if _, there := shelfOf(list)[p]; there || size > 0 {
				list = after(t, list, writeAt(p, 0, ""), cut(p, 0), writeAt(p, 0, numbered(50, size)))
			}
			for _, at := range []int{0, 1, size - 1, size, size + 1, 150, 199, 200, 201} {
				for _, n := range []int{0, 1, 2, 50, 199, 200, 201} {
					a := writeAt(p, at, numbered(1, n))
					x := a.keepsToRule(t, list)
					if fits := at >= 0 && at+n <= 200; fits != (x.code == impl.OK) || !fits && x.code != impl.ErrRange {
						t.Fatalf("%v is %d", a, x.code)
					} else if fits {
						othersStay(t, list, x.list, p)
						readsText(t, x.list, p, at, n, numbered(1, n))
						readsText(t, x.list, p, 0, 200, writtenByRule(shelfOf(list)[p].Data, at, numbered(1, n)))
					}
				}
			}
		}
	}
}

// Also of empty data the file has at least so many bytes.
func TestP12EmptyWrites(t *testing.T) {
	list := []impl.File{file("f", "abc"), file("g", "x")}
	for at := range 201 {
		want := "abc" + strings.Repeat("\x00", max(0, at-3))
		listIs(t, "behind the end", after(t, list, writeAt("f", at, "")), file("f", want), file("g", "x"))
		listIs(t, "a new one", after(t, list, writeAt("e", at, "")), file("e", strings.Repeat("\x00", at)), file("f", "abc"), file("g", "x"))
	}
}

func TestP12ReadsOfEachPart(t *testing.T) {
	for _, size := range fileSizes() {
		list := []impl.File{dir("d"), file("d/f", numbered(30, size)), file("e", "else")}
		for at := range 203 {
			for _, n := range []int{0, 1, 2, size - at, size - at + 1, size, size + 1, 200, 201, 65536, 1 << 62, 1<<63 - 1} {
				if n >= 0 {
					readsText(t, list, "d/f", at, n, readByRule(numbered(30, size), at, n))
				}
			}
		}
		for _, at := range []int{65536, 1 << 31, 1 << 32, 1 << 62, 1<<63 - 2, 1<<63 - 1} {
			for _, n := range []int{0, 1, 1 << 62, 1<<63 - 1} {
				readsText(t, list, "d/f", at, n, "")
			}
		}
	}
}

func TestP12Cuts(t *testing.T) {
	for _, size := range fileSizes() {
		data := numbered(30, size)
		list := []impl.File{dir("d"), file("d/f", data), file("e", "else")}
		for n := range 201 {
			want := (data + strings.Repeat("\x00", 200))[:n]
			listIs(t, "cut", after(t, list, cut("d/f", n)), dir("d"), file("d/f", want), file("e", "else"))
		}
	}
}

// What a file had behind a cut does not come back.
func TestP12WhatIsCutIsGone(t *testing.T) {
	list := after(t, nil, writeAt("f", 0, "abcdef"), cut("f", 2), cut("f", 4), writeAt("f", 6, "z"))
	listIs(t, "cut and written", list, file("f", "ab\x00\x00\x00\x00z"))
	list = after(t, list, remove("f"), writeAt("f", 2, ""))
	listIs(t, "removed and written", list, file("f", "\x00\x00"))
	list = after(t, list, writeAt("g", 0, "old"), move("f", "g"), writeAt("f", 1, ""))
	listIs(t, "moved over and written", list, file("f", "\x00"), file("g", "\x00\x00"))
}

func TestP12WhatIsMovedStandsThere(t *testing.T) {
	for _, list := range rightFiles() {
		places := []string{"z", "Z", "a/z", "a/b/z", "A/z", "abc/z", "a", "a/b", "ab", "a0", "abc/d", "a_"}
		for _, f := range list {
			for _, to := range places {
				x := move(f.Path, to).keepsToRule(t, list)
				if x.code != impl.OK || f.Path == to {
					continue
				}
				movedRight(t, list, x.list, f.Path, to)
				if _, taken := shelfOf(list)[to]; !taken {
					listIs(t, "moved and back", after(t, x.list, move(to, f.Path)), list...)
				}
			}
		}
	}
}

func movedRight(t *testing.T, was, now []impl.File, from, to string) {
	t.Helper()
	want := shelf{}
	for _, f := range was {
		switch {
		case f.Path == from:
			f.Path = to
		case strings.HasPrefix(f.Path, from+"/"):
			f.Path = to + f.Path[len(from):]
		case f.Path == to:
			continue
		}
		want[f.Path] = f
	}
	if !maps.Equal(want, shelfOf(now)) || !impl.FilesOK(now) {
		t.Fatalf("%s, %q moved to %q, is %s", filesText(was), from, to, filesText(now))
	}
}

func TestP12AMoveToTheSamePathIsNone(t *testing.T) {
	for _, list := range rightFiles() {
		for _, f := range list {
			listIs(t, "to the same path", after(t, list, move(f.Path, f.Path)), list...)
		}
	}
}

// smallPaths: of each a list has nothing, a file or a directory.
var smallPaths = []string{"a", "a/b", "a/b/c", "a0", "ab", "ab/a"}

func smallLists() [][]impl.File {
	lists := [][]impl.File{nil}
	for i, p := range smallPaths {
		for _, list := range lists {
			lists = append(lists, append(slices.Clone(list), dir(p)), append(slices.Clone(list), file(p, numbered(65, i))))
		}
	}
	return lists
}

// All lists of a few paths, and all that can be done there.
func TestP12EverySmallSituation(t *testing.T) {
	right := 0
	paths := append([]string{"", "b", "b/c", "a/c", "a/b/c/d", "a0/a", "/"}, smallPaths...)
	for _, list := range smallLists() {
		if is := rightByRule(list); impl.FilesOK(list) != is {
			t.Fatalf("FilesOK of %s is %v", filesText(list), !is)
		} else if is {
			right++
		}
		for _, p := range paths {
			acts := []fileAct{mkdir(p), writeAt(p, 1, "XY"), writeAt(p, 0, ""), readAt(p, 1, 2), cut(p, 2), remove(p), names(p)}
			for _, to := range paths {
				acts = append(acts, move(p, to))
			}
			for _, a := range acts {
				if x := a.keepsToRule(t, list); x.code == impl.OK && !impl.FilesOK(x.list) {
					t.Fatalf("%v, on %s, is %v", a, filesText(list), x)
				}
			}
		}
	}
	if right != 7*3*5 {
		t.Errorf("%d of %d small lists are right", right, len(smallLists()))
	}
}

func pickPath(s *stream, list []impl.File) string {
	if len(list) > 0 && s.next() < 150 {
		p := list[int(s.next())%len(list)].Path
		if s.next() < 90 {
			p += "/" + string([]byte{"abcd"[s.next()%4]})
		}
		return p
	}
	return []string{"a", "b", "ab", "a0", "c", "a/b", "a/b/a", "b/a", "d", "longer_name_of_this", "", "a//b", "0"}[s.next()%13]
}

func someFileAct(s *stream, list []impl.File) fileAct {
	p, to := pickPath(s, list), pickPath(s, list)
	at, n := int(s.next())-20, int(s.next())-20
	switch s.next() % 10 {
	case 0, 1:
		return mkdir(p)
	case 2, 3, 4:
		return writeAt(p, at, s.text(int(s.next())%120))
	case 5:
		return readAt(p, at, n)
	case 6:
		return cut(p, n)
	case 7, 8:
		return move(p, to)
	}
	if s.next() < 100 {
		return remove(p)
	}
	return names(p)
}

func TestP12LongRunsOfCalls(t *testing.T) {
	seen := map[string]int{}
	for seed := range 200 {
		s := stream(seed)
		var list []impl.File
		for range 300 {
			a := someFileAct(&s, list)
			x := a.keepsToRule(t, list)
			seen[fmt.Sprint(a.call, " ", impl.CodeWord(x.code))]++
			if a.changesFiles() && x.code == impl.OK {
				list = x.list
			}
			if len(list) == mostFiles && s.next() < 40 {
				list = list[:0]
			}
		}
	}
	want := map[string]string{
		"MakeDir": "ok path twice none kind full", "WriteFile": "ok path kind range none full", "ReadFile": "ok path none kind range", "CutFile": "ok path none kind range",
		"MoveFile": "ok path none order kind twice", "RemoveFile": "ok path none order", "ListDir": "ok path none kind",
	}
	for call, words := range want {
		for _, word := range strings.Fields(words) {
			if seen[call+" "+word] < 10 {
				t.Errorf("%s was %s only %d times", call, word, seen[call+" "+word])
			}
		}
	}
}

func sameFiles(t *testing.T, a, b []impl.File, want bool) {
	t.Helper()
	for _, pair := range [][2][]impl.File{{a, b}, {b, a}} {
		if got, code := impl.SameFiles(pair[0], pair[1]); got != want || code != impl.OK {
			t.Fatalf("SameFiles of %s and %s is %v, %d", filesText(pair[0]), filesText(pair[1]), got, code)
		}
	}
}

func TestP12FilesAreTheSameJustIfAllOfThemIs(t *testing.T) {
	lists := append(rightFiles()[1:], []impl.File{file("a", "\x00")}, []impl.File{file("a", "x")}, []impl.File{file("b", "")}, []impl.File{dir("b")},
		[]impl.File{dir("a"), file("a/b", "y")}, []impl.File{dir("a"), dir("a/b")}, []impl.File{dir("a"), file("b", "x")}, mixedFiles()[:10])
	for i, a := range lists {
		for j, b := range lists {
			sameFiles(t, a, slices.Clone(b), i == j)
		}
	}
	sameFiles(t, nil, []impl.File{}, true)
	sameFiles(t, nil, nil, true)
}

func filesByRule(list []impl.File) string {
	parts := []string{string([]byte{byte(len(list))})}
	for _, f := range list {
		kind := "\x00"
		if f.Dir {
			kind = "\x01"
		}
		parts = append(parts, string([]byte{byte(len(f.Path))}), f.Path, kind, twoBytes(len(f.Data)), f.Data)
	}
	return strings.Join(parts, "")
}

func filesReadBack(t *testing.T, list []impl.File) {
	t.Helper()
	b, code := impl.FilesBytes(list)
	if string(b) != filesByRule(list) || code != impl.OK {
		t.Fatalf("FilesBytes of %s is %x, %d", filesText(list), b, code)
	}
	back, code := impl.ReadFiles(b)
	if !slices.Equal(back, list) || code != impl.OK {
		t.Fatalf("ReadFiles of what FilesBytes made of %s is %s, %d", filesText(list), filesText(back), code)
	}
}

func TestP13BytesOfFilesWorkedOutByHand(t *testing.T) {
	for want, list := range map[string][]impl.File{
		"00":             nil,
		"010161000000":   {file("a", "")},
		"010161010000":   {dir("a")},
		"01016100000141": {file("a", "A")},
		"0202416201000004" + "41622f63" + "000003" + "000102": {dir("Ab"), file("Ab/c", "\x00\x01\x02")},
		"01015f0000c8" + strings.Repeat("78", 200):            {file("_", strings.Repeat("x", 200))},
		"0128" + strings.Repeat("7a", 40) + "00000179":        {file(strings.Repeat("z", 40), "y")},
	} {
		if b, code := impl.FilesBytes(list); fmt.Sprintf("%x", b) != want || code != impl.OK {
			t.Errorf("FilesBytes of %s is %x, %d", filesText(list), b, code)
		}
		back, code := impl.ReadFiles([]byte(unhex(t, want)))
		if !slices.Equal(back, list) || code != impl.OK {
			t.Errorf("ReadFiles of %s is %s, %d", want, filesText(back), code)
		}
	}
}

func TestP13FilesAreReadBack(t *testing.T) {
	for _, list := range append(rightFiles(), smallLists()...) {
		if rightByRule(list) {
			filesReadBack(t, list)
		}
	}
	for n := range mostFiles + 1 {
		filesReadBack(t, fullestFiles()[:n])
		filesReadBack(t, fullestFiles()[mostFiles-n:])
	}
	for size := range mostBytes + 1 {
		filesReadBack(t, []impl.File{dir("d"), file("d/f", numbered(size, size)), file("e", "\x00")})
	}
	for size := 1; size <= mostPath; size++ {
		filesReadBack(t, []impl.File{file(longText[:size], "x")})
	}
	if b, _ := impl.FilesBytes(fullestFiles()); len(b) != 1+12*(4+40+200) {
		t.Errorf("the fullest files have %d bytes", len(b))
	}
}

func TestP13FilesOfLongRunsAreReadBack(t *testing.T) {
	for seed := range 60 {
		s := stream(1300 + seed)
		var list []impl.File
		for range 60 {
			a := someFileAct(&s, list)
			if x := a.on(list); a.changesFiles() && x.code == impl.OK {
				list = x.list
			}
			filesReadBack(t, list)
		}
	}
}

func TestP13OtherFilesHaveOtherBytes(t *testing.T) {
	seen := map[string]string{}
	for _, list := range append(rightFiles()[1:], smallLists()...) {
		if !rightByRule(list) {
			continue
		}
		b, _ := impl.FilesBytes(list)
		if was, there := seen[string(b)]; there && was != filesText(list) {
			t.Errorf("%s and %s have the same bytes", was, filesText(list))
		}
		seen[string(b)] = filesText(list)
	}
}
