package tests

import (
	"maps"
	"math"
	"regexp"
	"slices"
	"strconv"
	"strings"
	"testing"

	"loop.example/s02863/impl"
)

// plainDisk is a file system without an order: by name the bytes that are safe
// and those that are not.
type plainDisk map[string]plainFile

type plainFile struct {
	safe, other string
}

func (f plainFile) data() string { return f.safe + f.other }

func plainDiskOf(fs impl.Fs) plainDisk {
	d := plainDisk{}
	for _, f := range fs.Files {
		d[string(f.Name)] = plainFile{string(f.Data[:f.Safe]), string(f.Data[f.Safe:])}
	}
	return d
}

func (d plainDisk) fs() impl.Fs {
	var fs impl.Fs
	for _, name := range slices.Sorted(maps.Keys(d)) {
		f := d[name]
		fs.Files = append(fs.Files, impl.FsFile{Name: []byte(name), Data: []byte(f.data()), Safe: len(f.safe)})
	}
	return fs
}

func (d plainDisk) has(name string) bool {
	_, there := d[name]
	return there
}

func (d plainDisk) write(name, data string) bool {
	if !d.has(name) && len(d) == 50 {
		return false
	}
	d[name] = plainFile{other: data}
	return true
}

func (d plainDisk) sync(name string) bool {
	if !d.has(name) {
		return false
	}
	d[name] = plainFile{safe: d[name].data()}
	return true
}

func (d plainDisk) rename(from, to string) bool {
	f, there := d[from]
	if there {
		delete(d, from)
		d[to] = f
	}
	return there
}

func (d plainDisk) remove(name string) bool {
	there := d.has(name)
	delete(d, name)
	return there
}

func (d plainDisk) crash(keep int) {
	for name, f := range d {
		d[name] = plainFile{safe: f.safe + f.other[:min(keep, len(f.other))]}
	}
}

// plainMachine runs the tool; a crash is a panic.
type plainMachine struct {
	disk  plainDisk
	plan  []int
	keep  int
	calls int
}

type plainCrash struct{}

// call goes as the plan says; half is what it leaves when it is cut short.
func (m *plainMachine) call(whole func() bool, half func()) bool {
	step := 0
	if m.calls < len(m.plan) {
		step = m.plan[m.calls]
	}
	m.calls++
	if step == 1 {
		return false
	}
	if step == 2 {
		half()
		return false
	}
	succeeds := step != 3 && whole()
	if step == 3 || step == 4 {
		m.disk.crash(m.keep)
		panic(plainCrash{})
	}
	return succeeds
}

func nothingMade() {}

type plainOrder struct {
	name, kind    string
	width, indent int
}

var fewDigits = regexp.MustCompile(`^[0-9]{1,5}$`)

func plainOrderOf(args []string) (plainOrder, bool) {
	given := map[string]string{"-width": "80", "-indent": "2"}
	count := map[string]int{}
	for i := 0; i < len(args); i++ {
		word := args[i]
		switch word {
		case "-w", "-check":
			count["kind"]++
			given["kind"] = word
		case "-width", "-indent":
			count[word]++
			i++
			if i == len(args) || !fewDigits.MatchString(args[i]) {
				return plainOrder{}, false
			}
			given[word] = args[i]
		default:
			if word == "" || word[0] == '-' || len(word) > 96 {
				return plainOrder{}, false
			}
			count["name"]++
			given["name"] = word
		}
	}
	width, _ := strconv.Atoi(given["-width"])
	indent, _ := strconv.Atoi(given["-indent"])
	good := count["name"] == 1 && count["kind"] <= 1 && count["-width"] <= 1 && count["-indent"] <= 1 && width <= 65535 && indent <= 16
	return plainOrder{given["name"], given["kind"], width, indent}, good
}

func (m *plainMachine) run(o plainOrder) (exit int, out string) {
	defer func() {
		if recover() != nil {
			exit, out = 3, ""
		}
	}()
	if !m.call(func() bool { return m.disk.has(o.name) }, nothingMade) {
		return 2, ""
	}
	old := m.disk[o.name].data()
	formatted, code, _ := impl.Format([]byte(old), o.width, o.indent)
	text := string(formatted)
	if code != impl.CodeOK {
		return 2, ""
	}
	if o.kind == "" {
		return 0, text
	}
	if text == old {
		return 0, ""
	}
	if o.kind == "-check" {
		return 1, ""
	}
	temp := o.name + ".tmp"
	if m.call(func() bool { return m.disk.write(temp, text) }, func() { m.disk.write(temp, text[:len(text)/2]) }) &&
		m.call(func() bool { return m.disk.sync(temp) }, nothingMade) &&
		m.call(func() bool { return m.disk.rename(temp, o.name) }, nothingMade) {
		return 0, ""
	}
	m.call(func() bool { return m.disk.remove(temp) }, nothingMade)
	return 2, ""
}

func plainTool(fs impl.Fs, args []string, plan []int, keep int) (impl.Fs, impl.Outcome) {
	o, good := plainOrderOf(args)
	if !good {
		return fs, impl.Outcome{Exit: 2}
	}
	m := plainMachine{disk: plainDiskOf(fs), plan: plan, keep: keep}
	exit, out := m.run(o)
	return m.disk.fs(), impl.Outcome{Exit: exit, Out: []byte(out), Calls: m.calls}
}

// checkToolRule holds a run against the second reading and answers the calls.
func checkToolRule(t *testing.T, fs impl.Fs, args []string, plan []int, keep int) int {
	t.Helper()
	want, wantOut := plainTool(fs, args, plan, keep)
	checkRun(t, fs, argsOf(args...), plan, keep, want, wantOut)
	return wantOut.Calls
}

// eachPlan goes through all plans in which every step is one that the run comes
// to, with a number that stands for PlanFine; run answers the calls.
func eachPlan(fine int, run func([]int) int) {
	var each func([]int)
	each = func(plan []int) {
		if run(plan) <= len(plan) {
			return
		}
		for _, step := range []int{fine, 1, 2, 3, 4} {
			each(append(slices.Clone(plan), step))
		}
	}
	each(nil)
}

func fileData(fs impl.Fs, name string) (string, bool) {
	for _, f := range fs.Files {
		if string(f.Name) == name {
			return string(f.Data), true
		}
	}
	return "", false
}

// without leaves files out.
func without(fs impl.Fs, names ...string) impl.Fs {
	return impl.Fs{Files: slices.DeleteFunc(cloneFs(fs).Files, func(f impl.FsFile) bool { return slices.Contains(names, string(f.Name)) })}
}

func allSafe(fs impl.Fs, name string) bool {
	return plainDiskOf(fs)[name].other == ""
}

// checkToolPromises holds a run with good arguments against P13 to P16, and
// answers the calls.
func checkToolPromises(t *testing.T, fs impl.Fs, args []string, plan []int, keep int) int {
	t.Helper()
	o, _ := plainOrderOf(args)
	after, out := impl.RunTool(fs, argsOf(args...), plan, keep)
	broken := func(promise string) {
		t.Helper()
		t.Errorf("%s: RunTool(%.100q, %v, %d) on %s: exit %d, %s", promise, args, plan, keep, showFs(fs), out.Exit, showFs(after))
	}
	if !impl.ValidFs(after) {
		broken("a valid file system")
	}
	// What would be left of all files, had nothing been written.
	left := fs
	if out.Exit == impl.ExitCrash {
		left, _ = impl.FsCrash(fs, keep)
	}
	if o.kind != "-w" {
		if !sameFs(after, left) {
			broken("P13")
		}
		return out.Calls
	}
	if temp := o.name + ".tmp"; !sameFs(without(after, o.name, temp), without(left, o.name, temp)) {
		broken("P14, other files")
	}
	old, there := fileData(fs, o.name)
	now, still := fileData(after, o.name)
	formatted, code, _ := impl.Format([]byte(old), o.width, o.indent)
	text := string(formatted)
	if there != still || there && allSafe(fs, o.name) && now != old && (code != impl.CodeOK || now != text) {
		broken("P14, the named file")
	}
	if out.Exit == impl.ExitOK && (code != impl.CodeOK || now != text) || out.Exit == impl.ExitFault && now != old {
		broken("P15")
	}
	if there && allSafe(fs, o.name) && code == impl.CodeOK && len(text) <= impl.MaxInput && len(after.Files) < impl.MaxFiles {
		again, second := impl.RunTool(after, argsOf(args...), nil, keep)
		if final, _ := fileData(again, o.name); second.Exit != impl.ExitOK || final != text {
			broken("P16")
		}
	}
	return out.Calls
}

// checkRuns holds all plans with many keeps against the second reading and the
// promises.
func checkRuns(t *testing.T, fs impl.Fs, args []string, keeps ...int) {
	t.Helper()
	for i, keep := range keeps {
		fine := []int{0, 5, -1, math.MaxInt}[i%4]
		eachPlan(fine, func(plan []int) int { return checkToolRule(t, fs, args, plan, keep) })
		eachPlan(fine, func(plan []int) int { return checkToolPromises(t, fs, args, plan, keep) })
	}
}

func TestToolEveryPlan(t *testing.T) {
	systems := []impl.Fs{
		{}, disk("a=[1,2]"), disk("a=[1, 2]\n"), disk("a=[1 2]"), disk("a=[1,|2]"), disk("a=|[1,2]"), disk("a=[1,2];a.tmp=ju|nk"), disk("a=[1,2];a.tmp=[1, 2]\n"), disk("a=[1,2];a.tmp=;b=|bytes;z=z|z"),
		disk("A=|x;a=/*c*/[1,{}];a.tmp.tmp=12|34"), disk("a=|1\n;b=|1\n"), disk("a.tmp=[1,2]"), disk("a=null"), disk("a=|;b="),
		withMore(fsOf("a=[1,2]"), 49), withMore(fsOf("a=[1,2]"), 50), withMore(fsOf("a=[1,2]", "a.tmp=|x"), 50), withMore(fsOf("a=[1, 2]\n"), 50),
	}
	for _, fs := range systems {
		for _, kind := range []string{"", "-w", "-check"} {
			args := []string{kind, "a"}
			if kind == "" {
				args = args[1:]
			}
			checkRuns(t, fs, args, 0, 1, 3, 6, 7, 8, math.MaxInt)
			checkRuns(t, fs, append(args, "-width", "1", "-indent", "4"), 0, 5)
		}
	}
}

// fsGrower makes valid file systems.
type fsGrower struct {
	pick *picker
}

var growNames = []string{"a", "a", "a.tmp", "a.tmp.tmp", "b", "b.tmp", "a.tm", "a.tmpx", "\xff", "é", strings.Repeat("n", 96), strings.Repeat("n", 96) + ".tmp", strings.Repeat("n", 100)}

func (g fsGrower) source() string {
	sources := []string{"", "1", "1\n", "[1,2]", "[1, 2]\n", "[\n  1,\n  2,\n]\n", "{a:1}", "{a:[1,2,],/*c*/'b c':null}", "[1 2]", "x", "\xff", "//c\n[//d\n]", strings.Repeat(" ", 3998) + "[]", strings.Repeat(" ", 3999) + "[]", "[" + strings.Repeat("1,", 1500) + "]"}
	if choice := g.pick.below(len(sources) + 5); choice < len(sources) {
		return sources[choice]
	}
	return styled(g.pick, treeGrower{g.pick}.tree())
}

func (g fsGrower) fs() impl.Fs {
	d := plainDisk{}
	for range g.pick.below(6) {
		source := g.source()
		safe := len(source)
		if g.pick.below(2) == 0 {
			safe = g.pick.below(safe + 1)
		}
		d[growNames[g.pick.below(len(growNames))]] = plainFile{source[:safe], source[safe:]}
	}
	if g.pick.below(4) == 0 {
		return withMore(d.fs(), 50-g.pick.below(2))
	}
	return d.fs()
}

// args are good ones, but for names with too many bytes.
func (g fsGrower) args() []string {
	args := [][]string{{growNames[g.pick.below(len(growNames))]}}
	if kind := g.pick.below(4); kind > 0 {
		args = append(args, []string{[]string{"-w", "-w", "-check"}[kind-1]})
	}
	if g.pick.below(3) == 0 {
		args = append(args, []string{"-width", strconv.Itoa(g.pick.below(100))})
	}
	if g.pick.below(3) == 0 {
		args = append(args, []string{"-indent", strconv.Itoa(g.pick.below(17))})
	}
	for i := range args {
		j := g.pick.below(len(args))
		args[i], args[j] = args[j], args[i]
	}
	return slices.Concat(args...)
}

func (g fsGrower) plan() []int {
	plan := make([]int, g.pick.below(7))
	for i := range plan {
		plan[i] = max(0, g.pick.below(10)-4)
	}
	return plan
}

func TestToolGrown(t *testing.T) {
	pick := picker(362436069)
	g := fsGrower{&pick}
	for range 6000 {
		fs, args, plan := g.fs(), g.args(), g.plan()
		keep := pick.below(12)
		if pick.below(5) == 0 {
			keep = math.MaxInt - pick.below(2)
		}
		checkToolRule(t, fs, args, plan, keep)
		if _, good := plainOrderOf(args); good {
			checkToolPromises(t, fs, args, plan, keep)
		}
	}
}

// TestToolSecondRuns goes on from what a first run has left, with a second run
// that is cut off too, and then one that is not.
func TestToolSecondRuns(t *testing.T) {
	first, text := "{a:[1,2,],'b c':null}", "{ a: [1, 2], \"b c\": null }\n"
	args := argsOf("-w", "f")
	for _, fs := range []impl.Fs{fsOf("f=" + first), fsOf("a=|x", "f="+first, "f.tmp=ju|nk", "g=y"), withMore(fsOf("f="+first), 49)} {
		for _, keep := range []int{0, 5} {
			eachPlan(0, func(plan []int) int {
				after, out := impl.RunTool(fs, args, plan, keep)
				eachPlan(0, func(next []int) int {
					later, outLater := impl.RunTool(after, args, next, keep)
					if data, _ := fileData(later, "f"); data != text && (data != first || outLater.Exit == impl.ExitOK) {
						t.Errorf("%v, then %v, keep %d: %s", plan, next, keep, showFs(later))
					}
					final, outFinal := impl.RunTool(later, args, nil, keep)
					if data, _ := fileData(final, "f"); data != text || outFinal.Exit != impl.ExitOK {
						t.Errorf("%v, then %v, keep %d, then without faults: exit %d, %s", plan, next, keep, outFinal.Exit, showFs(final))
					}
					return outLater.Calls
				})
				return out.Calls
			})
		}
	}
}

func TestToolShortArguments(t *testing.T) {
	fs := disk("5=[3,4];a=[1,2];b=[1, 2]\n")
	words := []string{"-w", "-check", "-width", "-indent", "5", "17", "a", "", "-5"}
	var each func(args []string, more int)
	each = func(args []string, more int) {
		checkToolRule(t, fs, args, nil, 0)
		for _, w := range words {
			if more > 0 {
				each(append(slices.Clone(args), w), more-1)
			}
		}
	}
	each(nil, 4)
	pick := picker(521288629)
	words = append(words, "b", "80", "00000", "000000", "65535", "65536", "x y", "-", strings.Repeat("a", 96), strings.Repeat("a", 97))
	for range 20000 {
		args := make([]string, pick.below(8))
		for i := range args {
			args[i] = words[pick.below(len(words))]
		}
		checkToolRule(t, fs, args, nil, 0)
	}
}

// checkFsRule holds the functions on a valid file system with good names
// against the second reading.
func checkFsRule(t *testing.T, fs impl.Fs, name, other, data string) {
	t.Helper()
	check := func(what string, call func() (impl.Fs, int), plain func(plainDisk) bool, otherwise int) {
		t.Helper()
		d, wantCode := plainDiskOf(fs), impl.CodeOK
		if !plain(d) {
			d, wantCode = plainDiskOf(fs), otherwise
		}
		got, code := call()
		checkFs(t, what+" "+name+" "+other+" on "+showFs(fs), got, code, d.fs(), wantCode)
	}
	n, m := []byte(name), []byte(other)
	check("FsWrite", func() (impl.Fs, int) { return impl.FsWrite(fs, n, []byte(data)) }, func(d plainDisk) bool { return d.write(name, data) }, impl.CodeFault)
	check("FsSync", func() (impl.Fs, int) { return impl.FsSync(fs, n) }, func(d plainDisk) bool { return d.sync(name) }, impl.CodeNone)
	check("FsRename", func() (impl.Fs, int) { return impl.FsRename(fs, n, m) }, func(d plainDisk) bool { return d.rename(name, other) }, impl.CodeNone)
	check("FsRemove", func() (impl.Fs, int) { return impl.FsRemove(fs, n) }, func(d plainDisk) bool { return d.remove(name) }, impl.CodeNone)
	for _, keep := range []int{0, 1, 5, math.MaxInt} {
		check("FsCrash", func() (impl.Fs, int) { return impl.FsCrash(fs, keep) }, func(d plainDisk) bool { d.crash(keep); return true }, impl.CodeOK)
	}
	want, there := fileData(fs, name)
	if got, code := impl.FsRead(fs, n); string(got) != want || (code == impl.CodeOK) != there || !there && code != impl.CodeNone {
		t.Errorf("FsRead of %s on %s: %q, code %d", name, showFs(fs), got, code)
	}
}

func TestFsGrown(t *testing.T) {
	pick := picker(88675123)
	g := fsGrower{&pick}
	for range 3000 {
		fs := g.fs()
		name, other := growNames[pick.below(len(growNames))], growNames[pick.below(len(growNames))]
		if len(fs.Files) > 0 && pick.below(2) == 0 {
			name = string(fs.Files[pick.below(len(fs.Files))].Name)
		}
		checkFsRule(t, fs, name, other, g.source())
	}
}

// TestFsNameOrder puts names of every length and with every byte among others.
func TestFsNameOrder(t *testing.T) {
	fs := fsOf("\x01=1", "a=2", "aa=|3", "ab=4", "b\x7f=5", "b\x80=6", "é=7|8", "\xff\xff=9")
	var names []string
	for b := range 256 {
		names = append(names, string([]byte{byte(b)}), string([]byte{'b', byte(b)}), string([]byte{0xff, byte(b)}))
	}
	for size := 1; size <= 100; size++ {
		names = append(names, strings.Repeat("a", size), strings.Repeat("\xff", size))
	}
	for _, name := range names {
		checkFsRule(t, fs, name, "a", "new")
		checkFsRule(t, fs, "aa", name, "new")
	}
}

// TestCrashKeepsSafeBytes is P12.
func TestCrashKeepsSafeBytes(t *testing.T) {
	pick := picker(5783321)
	g := fsGrower{&pick}
	for range 2000 {
		fs := g.fs()
		keep := pick.below(8) * pick.below(1000)
		after, code := impl.FsCrash(fs, keep)
		if code != impl.CodeOK || len(after.Files) != len(fs.Files) {
			t.Fatalf("FsCrash(%d) of %s: code %d, %s", keep, showFs(fs), code, showFs(after))
		}
		for i, f := range fs.Files {
			got := after.Files[i]
			if string(got.Name) != string(f.Name) || !strings.HasPrefix(string(got.Data), string(f.Data[:f.Safe])) || !strings.HasPrefix(string(f.Data), string(got.Data)) || got.Safe != len(got.Data) || got.Safe-f.Safe > keep {
				t.Errorf("FsCrash(%d) of %s: %s", keep, showFs(fs), showFs(after))
			}
		}
		if again, _ := impl.FsCrash(after, pick.below(8)); !sameFs(again, after) {
			t.Errorf("a second crash after %s: %s", showFs(after), showFs(again))
		}
		if len(fs.Files) == 0 {
			continue
		}
		from, to := string(fs.Files[pick.below(len(fs.Files))].Name), growNames[pick.below(len(growNames))]
		moved, _ := impl.FsRename(fs, []byte(from), []byte(to))
		crashed, _ := impl.FsCrash(moved, keep)
		safe := plainDiskOf(fs)[from].safe
		data, there := fileData(crashed, to)
		if _, still := fileData(crashed, from); !there || still && from != to || !strings.HasPrefix(data, safe) {
			t.Errorf("FsRename of %s to %s and a crash: %s", from, to, showFs(crashed))
		}
		gone, _ := impl.FsRemove(fs, []byte(from))
		crashed, _ = impl.FsCrash(gone, keep)
		if _, still := fileData(crashed, from); still || !sameFs(crashed, without(after, from)) {
			t.Errorf("FsRemove of %s and a crash: %s", from, showFs(crashed))
		}
	}
}
