package tests

import (
	"bytes"
	"math"
	"slices"
	"strconv"
	"strings"
	"testing"

	"loop.example/s02863/impl"
)

// fsOf has a file an entry: its name, `=`, its bytes, with a bar behind those
// that are safe; without a bar all are.
func fsOf(entries ...string) impl.Fs {
	var fs impl.Fs
	for _, entry := range entries {
		name, data, _ := strings.Cut(entry, "=")
		safe, other, _ := strings.Cut(data, "|")
		fs.Files = append(fs.Files, impl.FsFile{Name: []byte(name), Data: []byte(safe + other), Safe: len(safe)})
	}
	return fs
}

func showFs(fs impl.Fs) string {
	var shown []string
	for _, f := range fs.Files {
		data := string(f.Data)
		if len(data) > 60 {
			data = data[:60] + ".. " + strconv.Itoa(len(data)) + " bytes"
		}
		shown = append(shown, strconv.Quote(string(f.Name))+" "+strconv.Quote(data)+" safe "+strconv.Itoa(f.Safe))
	}
	return strings.Join(shown, "; ")
}

func sameFs(a, b impl.Fs) bool {
	return slices.EqualFunc(a.Files, b.Files, func(f, g impl.FsFile) bool {
		return bytes.Equal(f.Name, g.Name) && bytes.Equal(f.Data, g.Data) && f.Safe == g.Safe
	})
}

func cloneFs(fs impl.Fs) impl.Fs {
	files := slices.Clone(fs.Files)
	for i := range files {
		files[i].Name, files[i].Data = bytes.Clone(files[i].Name), bytes.Clone(files[i].Data)
	}
	return impl.Fs{Files: files}
}

// withMore adds files named m00, m01 and so on, until there are so many.
func withMore(fs impl.Fs, count int) impl.Fs {
	more := cloneFs(fs)
	for i := 0; len(more.Files) < count; i++ {
		more.Files = append(more.Files, impl.FsFile{Name: []byte("m" + strconv.Itoa(i/10) + strconv.Itoa(i%10)), Data: []byte{'x', byte(i)}, Safe: i % 3})
	}
	return inOrder(more)
}

func inOrder(fs impl.Fs) impl.Fs {
	slices.SortFunc(fs.Files, func(f, g impl.FsFile) int { return strings.Compare(string(f.Name), string(g.Name)) })
	return fs
}

// badFileSystems break one rule each.
func badFileSystems() []impl.Fs {
	return []impl.Fs{
		fsOf("="), fsOf("=", "a="), fsOf("a=", "="), fsOf(strings.Repeat("n", 101) + "="), fsOf("a=", strings.Repeat("n", 101)+"=", "z="),
		fsOf("b=", "a="), fsOf("a=", "a="), fsOf("a=", "c=", "b="), fsOf("ab=", "a="), fsOf("a\x80=", "a\x7f="), fsOf("a=1", "b=2", "b=2"),
		{Files: []impl.FsFile{{Name: []byte("a"), Safe: 1}}}, {Files: []impl.FsFile{{Name: []byte("a"), Safe: -1}}},
		{Files: []impl.FsFile{{Name: []byte("a")}, {Name: []byte("b"), Data: []byte("xyz"), Safe: 4}}},
		{Files: []impl.FsFile{{Name: []byte("a"), Data: []byte("xyz"), Safe: math.MinInt}, {Name: []byte("b")}}},
		{Files: []impl.FsFile{{Name: []byte("a"), Data: []byte("xyz"), Safe: math.MaxInt}}},
		withMore(fsOf("a="), 51), withMore(fsOf(), 100), {Files: make([]impl.FsFile, 1)},
	}
}

func checkValidFs(t *testing.T, name string, fs impl.Fs, want bool) {
	t.Helper()
	if got := impl.ValidFs(fs); got != want {
		t.Errorf("ValidFs, %s: %v, want %v", name, got, want)
	}
}

func checkFs(t *testing.T, name string, fs impl.Fs, code int, want impl.Fs, wantCode int) {
	t.Helper()
	if !sameFs(fs, want) || code != wantCode {
		t.Errorf("%s: code %d, %s\nwant code %d, %s", name, code, showFs(fs), wantCode, showFs(want))
	}
	if code == impl.CodeOK && !impl.ValidFs(fs) {
		t.Errorf("%s: not valid: %s", name, showFs(fs))
	}
}

func TestToolNumbers(t *testing.T) {
	plans := []int{impl.PlanFine, impl.PlanFail, impl.PlanShort, impl.PlanBefore, impl.PlanAfter}
	if !slices.Equal(plans, []int{0, 1, 2, 3, 4}) {
		t.Errorf("plans: %v", plans)
	}
	exits := []int{impl.ExitOK, impl.ExitDiffers, impl.ExitFault, impl.ExitCrash}
	if !slices.Equal(exits, []int{0, 1, 2, 3}) {
		t.Errorf("exits: %v", exits)
	}
	if impl.MaxFiles != 50 || impl.MaxName != 100 {
		t.Errorf("limits: %d, %d", impl.MaxFiles, impl.MaxName)
	}
}

func TestValidFsCounts(t *testing.T) {
	checkValidFs(t, "no files", impl.Fs{}, true)
	checkValidFs(t, "an empty list", impl.Fs{Files: []impl.FsFile{}}, true)
	for count := 1; count <= 50; count++ {
		checkValidFs(t, strconv.Itoa(count)+" files", withMore(fsOf(), count), true)
	}
	checkValidFs(t, "51 files", withMore(fsOf(), 51), false)
	checkValidFs(t, "90 files", withMore(fsOf(), 90), false)
}

func TestValidFsNames(t *testing.T) {
	for size, want := range map[int]bool{0: false, 1: true, 2: true, 99: true, 100: true, 101: false, 1000: false} {
		long := strings.Repeat("n", size)
		checkValidFs(t, strconv.Itoa(size)+" bytes", fsOf(long+"="), want)
		checkValidFs(t, strconv.Itoa(size)+" bytes, the last", fsOf("a=x", long+"="), want)
		checkValidFs(t, strconv.Itoa(size)+" bytes, the first", fsOf(long+"=", "z=x"), want)
	}
	for b := range 256 {
		fs := impl.Fs{Files: []impl.FsFile{{Name: []byte{byte(b)}}}}
		checkValidFs(t, "one byte "+strconv.Itoa(b), fs, true)
	}
}

func TestValidFsOrder(t *testing.T) {
	ascending := [][]string{
		{"a", "b"}, {"a", "aa"}, {"a", "a\x00"}, {"aa", "ab"}, {"aa", "b"}, {"ab", "b"}, {"\x00", "\x00\x00"}, {"\x7f", "\x80"}, {"a\x7f", "a\x80"}, {"a", "\xff"}, {"\x80", "\xff"}, {"B", "a"}, {"a.tmp", "a0"},
		{"-", "0"}, {"a", "ab", "b", "ba", "c"}, {"\x00", "\x01", "\x7f", "\x80", "\xc3\xa9", "\xff", "\xff\x00"},
	}
	for _, names := range ascending {
		var entries []string
		for _, n := range names {
			entries = append(entries, n+"=")
		}
		checkValidFs(t, strings.Join(names, " "), fsOf(entries...), true)
		for i := 1; i < len(entries); i++ {
			swapped := slices.Clone(entries)
			swapped[i-1], swapped[i] = swapped[i], swapped[i-1]
			checkValidFs(t, strings.Join(names, " ")+" swapped", fsOf(swapped...), false)
			twice := slices.Clone(entries)
			twice[i-1] = twice[i]
			checkValidFs(t, strings.Join(names, " ")+" twice", fsOf(twice...), false)
		}
	}
	for a := range 256 {
		for b := range 256 {
			one := impl.Fs{Files: []impl.FsFile{{Name: []byte{byte(a)}}, {Name: []byte{byte(b)}}}}
			checkValidFs(t, "bytes "+strconv.Itoa(a)+" and "+strconv.Itoa(b), one, a < b)
			behind := impl.Fs{Files: []impl.FsFile{{Name: []byte{'x', byte(a), 'z'}}, {Name: []byte{'x', byte(b), 'y'}}}}
			checkValidFs(t, "inner bytes "+strconv.Itoa(a)+" and "+strconv.Itoa(b), behind, a < b)
		}
	}
}

func TestValidFsSafe(t *testing.T) {
	for size := range 4 {
		for safe := -2; safe <= size+2; safe++ {
			file := impl.FsFile{Name: []byte("m"), Data: make([]byte, size), Safe: safe}
			want := safe >= 0 && safe <= size
			name := strconv.Itoa(safe) + " safe of " + strconv.Itoa(size)
			checkValidFs(t, name, impl.Fs{Files: []impl.FsFile{file}}, want)
			checkValidFs(t, name+", the first", impl.Fs{Files: []impl.FsFile{file, {Name: []byte("z")}}}, want)
			checkValidFs(t, name+", the last", impl.Fs{Files: []impl.FsFile{{Name: []byte("a")}, file}}, want)
		}
	}
	for i, fs := range badFileSystems() {
		checkValidFs(t, "bad "+strconv.Itoa(i), fs, false)
	}
}

// fsCall is one of the functions on a file system with a name; those with more
// arguments have the same ones every time.
type fsCall struct {
	what string
	call func(impl.Fs, []byte) (impl.Fs, int)
}

// readAsFs is FsRead with its bytes in a file without a name.
func readAsFs(fs impl.Fs, name []byte) (impl.Fs, int) {
	data, code := impl.FsRead(fs, name)
	if len(data) == 0 {
		return impl.Fs{}, code
	}
	return impl.Fs{Files: []impl.FsFile{{Data: data}}}, code
}

func fsCalls() []fsCall {
	return []fsCall{
		{"FsRead", readAsFs},
		{"FsWrite", func(fs impl.Fs, name []byte) (impl.Fs, int) { return impl.FsWrite(fs, name, []byte("new")) }},
		{"FsSync", impl.FsSync},
		{"FsRemove", impl.FsRemove},
		{"FsRename from", func(fs impl.Fs, name []byte) (impl.Fs, int) { return impl.FsRename(fs, name, []byte("to")) }},
		{"FsRename to", func(fs impl.Fs, name []byte) (impl.Fs, int) { return impl.FsRename(fs, []byte("a"), name) }},
		{"FsRename to, from none", func(fs impl.Fs, name []byte) (impl.Fs, int) { return impl.FsRename(fs, []byte("none"), name) }},
		{"FsRename both", func(fs impl.Fs, name []byte) (impl.Fs, int) { return impl.FsRename(fs, name, name) }},
	}
}

func TestFsCallsOnBadFileSystems(t *testing.T) {
	for i, fs := range badFileSystems() {
		for _, c := range fsCalls() {
			for _, name := range []string{"a", "b", "none", "", strings.Repeat("n", 101)} {
				got, code := c.call(fs, []byte(name))
				checkFs(t, c.what+", bad "+strconv.Itoa(i), got, code, impl.Fs{}, impl.CodeBad)
			}
		}
		for _, keep := range []int{-1, 0, 1, math.MaxInt} {
			got, code := impl.FsCrash(fs, keep)
			checkFs(t, "FsCrash, bad "+strconv.Itoa(i), got, code, impl.Fs{}, impl.CodeBad)
		}
	}
}

func TestFsCallsWithBadNames(t *testing.T) {
	for _, fs := range []impl.Fs{{}, fsOf("a=one"), fsOf("a=o|ne", "b=", "to=x"), withMore(fsOf("a=|one"), 50)} {
		for _, c := range fsCalls() {
			for _, name := range []string{"", strings.Repeat("n", 101), strings.Repeat("a", 5000)} {
				got, code := c.call(fs, []byte(name))
				checkFs(t, c.what+" with "+strconv.Itoa(len(name))+" bytes", got, code, impl.Fs{}, impl.CodeBad)
			}
			got, code := c.call(fs, nil)
			checkFs(t, c.what+" with nil", got, code, impl.Fs{}, impl.CodeBad)
		}
	}
}

func TestFsCallsOnNoFile(t *testing.T) {
	long := strings.Repeat("n", 100)
	systems := []impl.Fs{{}, fsOf("b=one"), fsOf("b=o|ne", "d=", "z=|xyz"), withMore(fsOf("b=|one"), 50), fsOf("a\x00=x", "n=", long[1:]+"=", long[1:]+"o=|x")}
	for _, fs := range systems {
		for _, name := range []string{"a", "c", "zz", "bb", "\xff", "\x00", long, "B"} {
			for _, c := range fsCalls() {
				want := fs
				switch c.what {
				case "FsWrite", "FsRename to":
					continue
				case "FsRead":
					want = impl.Fs{}
				}
				got, code := c.call(fs, []byte(name))
				checkFs(t, c.what+" of "+name, got, code, want, impl.CodeNone)
			}
		}
	}
}

func TestFsRead(t *testing.T) {
	long := strings.Repeat("n", 100)
	fs := fsOf("a=one", "b=t|wo", "c=|three", "d=", long+"=x|y", "z=\x00\xff|\n")
	for name, want := range map[string]string{"a": "one", "b": "two", "c": "three", "d": "", long: "xy", "z": "\x00\xff\n"} {
		data, code := impl.FsRead(fs, []byte(name))
		if code != impl.CodeOK || string(data) != want {
			t.Errorf("FsRead of %s: %q, code %d", name, data, code)
		}
	}
	full := withMore(fsOf(), 50)
	for _, f := range full.Files {
		if data, code := impl.FsRead(full, f.Name); code != impl.CodeOK || !bytes.Equal(data, f.Data) {
			t.Errorf("FsRead of %s: %q, code %d", f.Name, data, code)
		}
	}
}

func checkWrite(t *testing.T, fs impl.Fs, name, data string, want impl.Fs, wantCode int) {
	t.Helper()
	got, code := impl.FsWrite(fs, []byte(name), []byte(data))
	checkFs(t, "FsWrite of "+name, got, code, want, wantCode)
}

func TestFsWrite(t *testing.T) {
	fs := fsOf("b=o|ne", "d=two", "f=|three")
	checkWrite(t, fs, "a", "new", fsOf("a=|new", "b=o|ne", "d=two", "f=|three"), impl.CodeOK)
	checkWrite(t, fs, "c", "new", fsOf("b=o|ne", "c=|new", "d=two", "f=|three"), impl.CodeOK)
	checkWrite(t, fs, "g", "new", fsOf("b=o|ne", "d=two", "f=|three", "g=|new"), impl.CodeOK)
	checkWrite(t, fs, "bb", "new", fsOf("b=o|ne", "bb=|new", "d=two", "f=|three"), impl.CodeOK)
	checkWrite(t, fs, "\xff", "new", fsOf("b=o|ne", "d=two", "f=|three", "\xff=|new"), impl.CodeOK)
	checkWrite(t, fs, "b", "new", fsOf("b=|new", "d=two", "f=|three"), impl.CodeOK)
	checkWrite(t, fs, "d", "two", fsOf("b=o|ne", "d=|two", "f=|three"), impl.CodeOK)
	checkWrite(t, fs, "f", "", fsOf("b=o|ne", "d=two", "f="), impl.CodeOK)
	checkWrite(t, fs, "e", "", fsOf("b=o|ne", "d=two", "e=", "f=|three"), impl.CodeOK)
	checkWrite(t, impl.Fs{}, "e", "x", fsOf("e=|x"), impl.CodeOK)
	checkWrite(t, fs, strings.Repeat("a", 100), "x", fsOf(strings.Repeat("a", 100)+"=|x", "b=o|ne", "d=two", "f=|three"), impl.CodeOK)
	if got, code := impl.FsWrite(fs, []byte("b"), nil); code != impl.CodeOK || !sameFs(got, fsOf("b=", "d=two", "f=|three")) {
		t.Errorf("FsWrite of nil: %s, code %d", showFs(got), code)
	}
}

func TestFsWriteFull(t *testing.T) {
	almost := withMore(fsOf("a=o|ne"), 49)
	want := cloneFs(almost)
	want.Files = append(want.Files, impl.FsFile{Name: []byte("z"), Data: []byte("x")})
	checkWrite(t, almost, "z", "x", want, impl.CodeOK)
	full := withMore(fsOf("a=o|ne"), 50)
	for _, name := range []string{"A", "b", "m00a", "z", strings.Repeat("z", 100)} {
		checkWrite(t, full, name, "x", full, impl.CodeFault)
		checkWrite(t, full, name, "", full, impl.CodeFault)
	}
	for i, f := range full.Files {
		want := cloneFs(full)
		want.Files[i].Data, want.Files[i].Safe = []byte("x"), 0
		checkWrite(t, full, string(f.Name), "x", want, impl.CodeOK)
	}
}

func TestFsSync(t *testing.T) {
	fs := fsOf("b=o|ne", "d=two", "f=|three", "g=")
	for name, want := range map[string]impl.Fs{
		"b": fsOf("b=one", "d=two", "f=|three", "g="), "d": fs, "f": fsOf("b=o|ne", "d=two", "f=three", "g="), "g": fs,
	} {
		got, code := impl.FsSync(fs, []byte(name))
		checkFs(t, "FsSync of "+name, got, code, want, impl.CodeOK)
	}
	long := strings.Repeat("n", 100)
	got, code := impl.FsSync(fsOf(long+"=|x"), []byte(long))
	checkFs(t, "FsSync of a long name", got, code, fsOf(long+"=x"), impl.CodeOK)
}

func TestFsRename(t *testing.T) {
	fs := fsOf("b=o|ne", "d=two", "f=|three")
	long := strings.Repeat("c", 100)
	cases := []struct {
		from, to string
		want     impl.Fs
	}{
		{"b", "a", fsOf("a=o|ne", "d=two", "f=|three")},
		{"b", "c", fsOf("c=o|ne", "d=two", "f=|three")},
		{"b", "e", fsOf("d=two", "e=o|ne", "f=|three")},
		{"b", "g", fsOf("d=two", "f=|three", "g=o|ne")},
		{"d", "a", fsOf("a=two", "b=o|ne", "f=|three")},
		{"d", "z", fsOf("b=o|ne", "f=|three", "z=two")},
		{"f", "a", fsOf("a=|three", "b=o|ne", "d=two")},
		{"f", "c", fsOf("b=o|ne", "c=|three", "d=two")},
		{"f", "ff", fsOf("b=o|ne", "d=two", "ff=|three")},
		{"b", "d", fsOf("d=o|ne", "f=|three")},
		{"b", "f", fsOf("d=two", "f=o|ne")},
		{"d", "b", fsOf("b=two", "f=|three")},
		{"d", "f", fsOf("b=o|ne", "f=two")},
		{"f", "b", fsOf("b=|three", "d=two")},
		{"f", "d", fsOf("b=o|ne", "d=|three")},
		{"b", "b", fs}, {"d", "d", fs}, {"f", "f", fs},
		{"b", long, fsOf(long+"=o|ne", "d=two", "f=|three")},
	}
	for _, c := range cases {
		got, code := impl.FsRename(fs, []byte(c.from), []byte(c.to))
		checkFs(t, "FsRename of "+c.from+" to "+c.to, got, code, c.want, impl.CodeOK)
	}
	for _, to := range []string{"a", "b", "c", "d", "f", long} {
		got, code := impl.FsRename(fs, []byte("c"), []byte(to))
		checkFs(t, "FsRename of none to "+to, got, code, fs, impl.CodeNone)
	}
	got, code := impl.FsRename(fsOf(long+"=|x", "d=y"), []byte(long), []byte("d"))
	checkFs(t, "FsRename of a long name", got, code, fsOf("d=|x"), impl.CodeOK)
}

func TestFsRenameFull(t *testing.T) {
	full := withMore(fsOf("a=o|ne", "z=two"), 50)
	for _, to := range []string{"A", "n", "zz"} {
		want := cloneFs(full)
		want.Files[0].Name = []byte(to)
		got, code := impl.FsRename(full, []byte("a"), []byte(to))
		checkFs(t, "FsRename among 50 files to "+to, got, code, inOrder(want), impl.CodeOK)
	}
	want := cloneFs(full)
	want.Files[49] = impl.FsFile{Name: []byte("z"), Data: []byte("one"), Safe: 1}
	want.Files = want.Files[1:]
	got, code := impl.FsRename(full, []byte("a"), []byte("z"))
	checkFs(t, "FsRename among 50 files to another", got, code, want, impl.CodeOK)
}

func TestFsRemove(t *testing.T) {
	fs := fsOf("b=o|ne", "d=two", "f=|three")
	for name, want := range map[string]impl.Fs{"b": fsOf("d=two", "f=|three"), "d": fsOf("b=o|ne", "f=|three"), "f": fsOf("b=o|ne", "d=two")} {
		got, code := impl.FsRemove(fs, []byte(name))
		checkFs(t, "FsRemove of "+name, got, code, want, impl.CodeOK)
	}
	long := strings.Repeat("n", 100)
	got, code := impl.FsRemove(fsOf(long+"=x"), []byte(long))
	checkFs(t, "FsRemove of the only file", got, code, impl.Fs{}, impl.CodeOK)
}

func TestFsCrash(t *testing.T) {
	fs := fsOf("a=one", "b=t|wo", "c=|three", "d=", "e=12|345")
	cases := []struct {
		keep int
		want impl.Fs
	}{
		{0, fsOf("a=one", "b=t", "c=", "d=", "e=12")},
		{1, fsOf("a=one", "b=tw", "c=t", "d=", "e=123")},
		{2, fsOf("a=one", "b=two", "c=th", "d=", "e=1234")},
		{3, fsOf("a=one", "b=two", "c=thr", "d=", "e=12345")},
		{4, fsOf("a=one", "b=two", "c=thre", "d=", "e=12345")},
		{5, fsOf("a=one", "b=two", "c=three", "d=", "e=12345")},
		{6, fsOf("a=one", "b=two", "c=three", "d=", "e=12345")},
		{math.MaxInt, fsOf("a=one", "b=two", "c=three", "d=", "e=12345")},
	}
	for _, c := range cases {
		got, code := impl.FsCrash(fs, c.keep)
		checkFs(t, "FsCrash with "+strconv.Itoa(c.keep), got, code, c.want, impl.CodeOK)
		got, code = impl.FsCrash(impl.Fs{}, c.keep)
		checkFs(t, "FsCrash of no files", got, code, impl.Fs{}, impl.CodeOK)
	}
	for _, keep := range []int{-1, -2, math.MinInt} {
		for _, fs := range []impl.Fs{{}, fs, fsOf("a=one")} {
			got, code := impl.FsCrash(fs, keep)
			checkFs(t, "FsCrash with "+strconv.Itoa(keep), got, code, impl.Fs{}, impl.CodeBad)
		}
	}
}
