package tests

import (
	"bytes"
	"math"
	"strings"
	"testing"

	"loop.example/s02863/impl"
)

// disk has its files in one text, with `;` between them.
func disk(text string) impl.Fs {
	return fsOf(strings.Split(text, ";")...)
}

func argsOf(words ...string) [][]byte {
	var args [][]byte
	for _, w := range words {
		args = append(args, []byte(w))
	}
	return args
}

func wordsOf(line string) [][]byte {
	return argsOf(strings.Fields(line)...)
}

func sameOutcome(a, b impl.Outcome) bool {
	return a.Exit == b.Exit && bytes.Equal(a.Out, b.Out) && a.Calls == b.Calls
}

func checkRun(t *testing.T, fs impl.Fs, args [][]byte, plan []int, keep int, want impl.Fs, wantOut impl.Outcome) {
	t.Helper()
	got, out := impl.RunTool(fs, args, plan, keep)
	if !sameFs(got, want) || !sameOutcome(out, wantOut) {
		t.Errorf("RunTool(%.200q, %v, %d) on %s\nexit %d, %d calls, out %.200q, %s\nwant exit %d, %d calls, out %.200q, %s",
			args, plan, keep, showFs(fs), out.Exit, out.Calls, out.Out, showFs(got), wantOut.Exit, wantOut.Calls, wantOut.Out, showFs(want))
	}
}

func faultOf(calls int) impl.Outcome {
	return impl.Outcome{Exit: impl.ExitFault, Calls: calls}
}

// checkOrder asks for the text that the arguments lead to.
func checkOrder(t *testing.T, fs impl.Fs, args [][]byte, want string) {
	t.Helper()
	checkRun(t, fs, args, nil, 0, fs, impl.Outcome{Exit: impl.ExitOK, Out: []byte(want), Calls: 1})
}

func checkNoOrder(t *testing.T, args [][]byte) {
	t.Helper()
	for _, fs := range []impl.Fs{disk("a=[1,2];b=[1|,2];c=|x;z=1\n"), {}, withMore(fsOf("a=1"), 50)} {
		for _, plan := range [][]int{nil, {impl.PlanBefore}, {impl.PlanAfter}} {
			checkRun(t, fs, args, plan, 1, fs, faultOf(0))
		}
		checkRun(t, fs, args, nil, -1, impl.Fs{}, faultOf(0))
	}
	for _, fs := range badFileSystems() {
		checkRun(t, fs, args, nil, 1, impl.Fs{}, faultOf(0))
	}
}

func TestRunOptions(t *testing.T) {
	fs := disk("a=[1,2];b=[1|,2];z=1\n")
	flat, two, three := "[1, 2]\n", "[\n  1,\n  2,\n]\n", "[\n   1,\n   2,\n]\n"
	for line, want := range map[string]string{
		"a": flat, "b": flat, "z": "1\n",
		"-width 5 a": two, "a -width 5": two, "-width 6 a": flat, "-width 0 a": two, "-width 00005 a": two, "-width 00006 a": flat, "-width 65535 a": flat,
		"-indent 3 a": flat, "a -indent 3": flat, "-indent 3 -width 5 a": three, "-width 5 -indent 3 a": three, "-width 5 a -indent 3": three, "-indent 3 a -width 5": three, "a -width 5 -indent 3": three, "a -indent 3 -width 5": three,
		"-width 0 -indent 0 a": "[\n1,\n2,\n]\n", "-indent 00000 a -width 5": "[\n1,\n2,\n]\n", "-width 5 -indent 00003 a": three,
		"-width 5 -indent 16 a": "[\n" + strings.Repeat(" ", 16) + "1,\n" + strings.Repeat(" ", 16) + "2,\n]\n", "-width 5 -indent 00016 a": "[\n" + strings.Repeat(" ", 16) + "1,\n" + strings.Repeat(" ", 16) + "2,\n]\n",
	} {
		checkOrder(t, fs, wordsOf(line), want)
	}
	done := disk("a=[\n   1,\n   2,\n]\n;b=[1|,2];z=1\n")
	for _, line := range []string{
		"-w -width 5 -indent 3 a", "-width 5 -w -indent 3 a", "-width 5 -indent 3 -w a", "-width 5 -indent 3 a -w", "a -w -width 5 -indent 3", "a -width 5 -w -indent 3", "-indent 3 a -w -width 5",
	} {
		checkRun(t, fs, wordsOf(line), nil, 0, done, impl.Outcome{Calls: 4})
		check := strings.Replace(line, "-w ", "-check ", 1)
		if check == line {
			check = strings.TrimSuffix(line, "-w") + "-check"
		}
		checkRun(t, fs, wordsOf(check), nil, 0, fs, impl.Outcome{Exit: impl.ExitDiffers, Calls: 1})
		checkRun(t, done, wordsOf(check), nil, 0, done, impl.Outcome{Calls: 1})
	}
}

func TestRunUsualWidth(t *testing.T) {
	fits, wide := "[1"+strings.Repeat("0", 74)+",2]", "[1"+strings.Repeat("0", 75)+",2]"
	broken := "[\n  1" + strings.Repeat("0", 75) + ",\n  2,\n]\n"
	fs := fsOf("f="+fits, "w="+wide)
	checkOrder(t, fs, argsOf("f"), strings.Replace(fits, ",", ", ", 1)+"\n")
	checkOrder(t, fs, argsOf("f", "-indent", "2"), strings.Replace(fits, ",", ", ", 1)+"\n")
	checkOrder(t, fs, argsOf("f", "-width", "79", "-indent", "2"), strings.Replace(broken, "10", "1", 1))
	checkOrder(t, fs, argsOf("w"), broken)
	checkOrder(t, fs, argsOf("w", "-indent", "1"), strings.ReplaceAll(broken, "  ", " "))
	checkOrder(t, fs, argsOf("w", "-width", "80"), broken)
	checkOrder(t, fs, argsOf("w", "-width", "81"), strings.Replace(wide, ",", ", ", 1)+"\n")
	// Widths of five digits are told apart, too: the text has 18007 code points.
	long := "['" + strings.Repeat("\x01", 3000) + "',2]"
	text := `["` + strings.Repeat(`\u0001`, 3000) + `", 2]` + "\n"
	fs = fsOf("a=" + long)
	checkOrder(t, fs, argsOf("a", "-width", "18007"), text)
	checkOrder(t, fs, argsOf("-width", "18006", "a"), "[\n  "+text[1:len(text)-5]+",\n  2,\n]\n")
}

func TestRunNames(t *testing.T) {
	long := strings.Repeat("n", 96)
	names := []string{"a", "80", "5", "w", "check", "a-w", "a b", " ", ".tmp", "a.tmp", "a.tmp.tmp", "\x00", "\x7f", "\x80", "\xff\xfe", "é", "+1", "=", long[1:], long, "\u2212w", "~", ","}
	for _, name := range names {
		var others []impl.FsFile
		for _, f := range fsOf("!=1", "-=[1]", "-w=[1]", "zz=2").Files {
			if string(f.Name) != name {
				others = append(others, f)
			}
		}
		fs := inOrder(cloneFs(impl.Fs{Files: append(others, impl.FsFile{Name: []byte(name), Data: []byte("[1,2]"), Safe: 5})}))
		checkOrder(t, fs, argsOf(name), "[1, 2]\n")
		checkOrder(t, fs, argsOf("-width", "80", name), "[1, 2]\n")
		checkOrder(t, fs, argsOf(name, "-indent", "8"), "[1, 2]\n")
		done := cloneFs(fs)
		for i := range done.Files {
			if string(done.Files[i].Name) == name {
				done.Files[i].Data, done.Files[i].Safe = []byte("[1, 2]\n"), 7
			}
		}
		checkRun(t, fs, argsOf("-w", name), nil, 0, done, impl.Outcome{Calls: 4})
		temp := cloneFs(fs)
		temp.Files = append(temp.Files, impl.FsFile{Name: []byte(name + ".tmp"), Data: []byte("[1"), Safe: 2})
		checkRun(t, fs, argsOf("-w", name), []int{0, impl.PlanAfter}, 2, inOrder(temp), impl.Outcome{Exit: impl.ExitCrash, Calls: 2})
	}
}

func TestRunNoNames(t *testing.T) {
	for _, line := range []string{
		"", "-w", "-check", "-width 5", "-indent 2", "-w -width 5 -indent 2", "a b", "a a", "a -w b", "-w a b", "a b c", "z a -width 5", "- a", "-", "-- a", "-x a", "-a", "--w a", "-W a", "-wa", "-w- a", "-check= a", "-checks a", "-chec a", "-Check a", "-width=5 a", "-indent=2 a", "-width5 a", "-h", "-wide 5 a", "-indents 2 a", "--check a", "a -", "a --",
	} {
		checkNoOrder(t, wordsOf(line))
	}
	for _, args := range [][][]byte{
		nil, {}, {nil}, {{}}, argsOf("", "a"), argsOf("a", ""), argsOf("a", "", "-w"), argsOf("-w", ""), argsOf("-w ", "a"), argsOf(" -w", "-w", "a"), argsOf("-", "w", "a"),
		argsOf("-w", "a", "-w\x00"), argsOf("-width", "", "a"), argsOf("-indent", "", "a"), argsOf(strings.Repeat("n", 97)), argsOf("-w", strings.Repeat("n", 100)), argsOf("-check", strings.Repeat("n", 101)), argsOf(strings.Repeat("n", 5000)), argsOf("-" + strings.Repeat("n", 95)), argsOf("a", strings.Repeat("n", 97)),
	} {
		checkNoOrder(t, args)
	}
}

func TestRunOptionsTwice(t *testing.T) {
	for _, line := range []string{
		"-w -w a", "-w a -w", "a -w -w", "-check -check a", "-check a -check", "a -check -check", "-width 5 -width 5 a", "-width 5 a -width 6", "a -width 5 -width 5", "-indent 2 -indent 2 a", "-indent 2 a -indent 3", "a -indent 2 -indent 2",
		"-w -check a", "-check -w a", "-w a -check", "-check a -w", "a -w -check", "a -check -w", "-w -width 5 a -check", "-w -check -w a", "-w -width 5 -w a", "-indent 0 -width 0 -indent 0 a", "-width 0 a -width 0",
	} {
		checkNoOrder(t, wordsOf(line))
	}
}

func TestRunBadNumbers(t *testing.T) {
	for _, number := range []string{
		"", "-1", "+1", "-0", "1a", "a", "a1", "0x1", "1.0", "1e1", " 1", "1 ", "1_0", "1,0", "000001", "000000", "100000", "123456", "99999999999999999999", "18446744073709551617", "-w", "-width", "\u0661", "1\x00", "/", ":", "1/", "1:", "0000-",
	} {
		for _, option := range []string{"-width", "-indent"} {
			checkNoOrder(t, argsOf(option, number, "a"))
			checkNoOrder(t, argsOf("a", option, number))
			checkNoOrder(t, argsOf("-w", option, number, "a"))
		}
	}
	for _, line := range []string{
		"-width 65536 a", "-width 65540 a", "-width 70000 a", "-width 99999 a", "-indent 17 a", "-indent 00017 a", "-indent 20 a", "-indent 65535 a", "-indent 99999 a", "a -width", "a -indent", "-width", "-indent", "-w a -width", "-width 5 a -indent", "-width a", "-indent a", "-width -indent 2 a", "-width a 5", "5 -width a",
	} {
		checkNoOrder(t, wordsOf(line))
	}
	fs := disk("a=[1,2]")
	for _, line := range []string{"-width 65535 a", "-width 65534 a", "-indent 16 a", "-indent 15 a", "-width 0 a -indent 0", "-width 9 a", "-width 09 a", "-width 12345 a"} {
		if got, out := impl.RunTool(fs, wordsOf(line), nil, 0); out.Exit != impl.ExitOK || out.Calls != 1 || !sameFs(got, fs) {
			t.Errorf("RunTool(%s): exit %d, %d calls, %s", line, out.Exit, out.Calls, showFs(got))
		}
	}
}

func TestRunBadFileSystems(t *testing.T) {
	for _, fs := range badFileSystems() {
		for _, line := range []string{"a", "-w a", "-check a", "", "-x", "a b", "none"} {
			for _, keep := range []int{-1, 0, 7} {
				checkRun(t, fs, wordsOf(line), nil, keep, impl.Fs{}, faultOf(0))
				checkRun(t, fs, wordsOf(line), []int{impl.PlanBefore}, keep, impl.Fs{}, faultOf(0))
			}
		}
	}
	for _, fs := range []impl.Fs{{}, disk("a=1\n"), disk("a=[1|,2];b=x")} {
		for _, keep := range []int{-1, -2, math.MinInt} {
			for _, line := range []string{"a", "-w a", "-check a", "", "-x", "a b", "none"} {
				checkRun(t, fs, wordsOf(line), nil, keep, impl.Fs{}, faultOf(0))
			}
		}
	}
}

// TestRunKinds has each kind of run on files that are formatted, that are not,
// that Format does not take, and that are not there.
func TestRunKinds(t *testing.T) {
	fs := disk("bad=[1 2];done=[1, |2]\n;empty=;new=[1|,2]")
	fs.Files = append(fs.Files, impl.FsFile{Name: []byte("not"), Data: []byte("\xff"), Safe: 1})
	flat := []byte("[1, 2]\n")
	same, differs := impl.Outcome{Calls: 1}, impl.Outcome{Exit: impl.ExitDiffers, Calls: 1}
	checkRun(t, fs, wordsOf("done"), nil, 0, fs, impl.Outcome{Out: flat, Calls: 1})
	checkRun(t, fs, wordsOf("new"), nil, 0, fs, impl.Outcome{Out: flat, Calls: 1})
	checkRun(t, fs, wordsOf("-check done"), nil, 0, fs, same)
	checkRun(t, fs, wordsOf("-check new"), nil, 0, fs, differs)
	checkRun(t, fs, wordsOf("-check done -width 5"), nil, 0, fs, differs)
	checkRun(t, fs, wordsOf("-w done"), nil, 0, fs, same)
	written := cloneFs(fs)
	written.Files[3] = fsOf("new=[1, 2]\n").Files[0]
	checkRun(t, fs, wordsOf("-w new"), nil, 0, written, impl.Outcome{Calls: 4})
	for _, name := range []string{"bad", "empty", "not", "none", "new.tmp"} {
		for _, option := range []string{"", "-check ", "-w "} {
			for _, plan := range [][]int{nil, {0, 1}, {0, 2, 3}, {0, 3}, {0, 4}, {1}, {2}, {8}} {
				checkRun(t, fs, wordsOf(option+name), plan, 0, fs, faultOf(1))
			}
			crashed := disk("bad=[1 2];done=[1, ;empty=;new=[1")
			crashed.Files = append(crashed.Files, fs.Files[4])
			checkRun(t, fs, wordsOf(option+name), []int{3}, 0, crashed, impl.Outcome{Exit: impl.ExitCrash, Calls: 1})
			checkRun(t, fs, wordsOf(option+name), []int{4}, 0, crashed, impl.Outcome{Exit: impl.ExitCrash, Calls: 1})
		}
	}
}

func TestRunLongTexts(t *testing.T) {
	full := "1" + strings.Repeat(" ", 3999)
	over := "1" + strings.Repeat(" ", 4000)
	deep, deeper := strings.Repeat("[", 200)+strings.Repeat("]", 200), strings.Repeat("[", 201)+strings.Repeat("]", 201)
	fs := fsOf("deep="+deep, "deeper="+deeper, "full="+full, "over="+over)
	checkOrder(t, fs, argsOf("full"), "1\n")
	checkRun(t, fs, argsOf("over"), nil, 0, fs, faultOf(1))
	checkRun(t, fs, argsOf("-w", "over"), nil, 0, fs, faultOf(1))
	checkRun(t, fs, argsOf("-w", "deeper"), nil, 0, fs, faultOf(1))
	checkRun(t, fs, argsOf("-check", "deep"), nil, 0, fs, impl.Outcome{Exit: impl.ExitDiffers, Calls: 1})
	// Formatted it is longer than a text may be, so it is not taken again.
	wide := "[" + strings.Repeat("1,", 1999) + "]"
	text := "[\n" + strings.Repeat("  1,\n", 1999) + "]\n"
	fs = fsOf("a=" + wide)
	done := fsOf("a=" + text)
	checkOrder(t, fs, argsOf("a"), text)
	checkRun(t, fs, argsOf("-w", "a"), nil, 0, done, impl.Outcome{Calls: 4})
	checkRun(t, done, argsOf("-w", "a"), nil, 0, done, faultOf(1))
	checkRun(t, done, argsOf("-check", "a"), nil, 0, done, faultOf(1))
	checkRun(t, fs, argsOf("-w", "a"), []int{0, 2, 1}, 0, fsOf("a="+wide, "a.tmp=|"+text[:len(text)/2]), faultOf(3))
}

// planned is one run with a plan, told by hand.
type planned struct {
	plan  []int
	keep  int
	exit  int
	calls int
	want  string
}

func checkPlanned(t *testing.T, before, line, out string, runs []planned) {
	t.Helper()
	for _, r := range runs {
		want := impl.Outcome{Exit: r.exit, Calls: r.calls}
		if r.exit == impl.ExitOK {
			want.Out = []byte(out)
		}
		checkRun(t, disk(before), wordsOf(line), r.plan, r.keep, disk(r.want), want)
	}
}

func TestRunPlansOfRead(t *testing.T) {
	old := "a=[1,2];k=saf|e?"
	for line, exit := range map[string]int{"a": impl.ExitOK, "-check a": impl.ExitDiffers, "-check a -width 6": impl.ExitDiffers, "-width 5 -check k": impl.ExitFault} {
		ends := planned{exit: exit, calls: 1, want: old}
		var runs []planned
		for _, plan := range [][]int{nil, {}, {0}, {0, 1}, {0, 2, 3, 4}, {0, 3}, {0, 4}, {5}, {-1}, {99}, {math.MaxInt}, {math.MinInt}} {
			ends.plan = plan
			runs = append(runs, ends)
		}
		out := ""
		if exit == impl.ExitOK {
			out = "[1, 2]\n"
		}
		checkPlanned(t, old, line, out, runs)
		checkPlanned(t, old, line, out, []planned{
			{[]int{1}, 0, impl.ExitFault, 1, old}, {[]int{2}, 0, impl.ExitFault, 1, old}, {[]int{1, 3}, 1, impl.ExitFault, 1, old},
			{[]int{3}, 0, impl.ExitCrash, 1, "a=[1,2];k=saf"}, {[]int{3}, 1, impl.ExitCrash, 1, "a=[1,2];k=safe"}, {[]int{3}, 2, impl.ExitCrash, 1, "a=[1,2];k=safe?"},
			{[]int{4}, 0, impl.ExitCrash, 1, "a=[1,2];k=saf"}, {[]int{4}, 1, impl.ExitCrash, 1, "a=[1,2];k=safe"}, {[]int{4, 0}, math.MaxInt, impl.ExitCrash, 1, "a=[1,2];k=safe?"},
		})
	}
	// A crash may take bytes of the file itself, if they are not safe.
	checkPlanned(t, "a=[1|,2]", "a", "", []planned{{[]int{3}, 1, impl.ExitCrash, 1, "a=[1,"}, {[]int{4}, 0, impl.ExitCrash, 1, "a=[1"}})
	checkPlanned(t, "a=[1|, 2]\n", "-w a", "", []planned{{[]int{3}, 1, impl.ExitCrash, 1, "a=[1,"}, {[]int{4}, 0, impl.ExitCrash, 1, "a=[1"}, {[]int{0, 3}, 0, impl.ExitOK, 1, "a=[1|, 2]\n"}})
}

func TestRunPlansOfWrite(t *testing.T) {
	old, done := "a=[1,2];k=saf|e?", "a=[1, 2]\n;k=saf|e?"
	ok, fault, crash := impl.ExitOK, impl.ExitFault, impl.ExitCrash
	checkPlanned(t, old, "-w a", "", []planned{
		{nil, 0, ok, 4, done}, {[]int{0}, 0, ok, 4, done}, {[]int{0, 0}, 1, ok, 4, done}, {[]int{0, 0, 0}, 2, ok, 4, done}, {[]int{0, 0, 0, 0}, 3, ok, 4, done},
		{[]int{0, 0, 0, 0, 1}, 0, ok, 4, done}, {[]int{0, 0, 0, 0, 2}, 0, ok, 4, done}, {[]int{0, 0, 0, 0, 3}, 0, ok, 4, done}, {[]int{0, 0, 0, 0, 4, 4}, 0, ok, 4, done},
		{[]int{5}, 0, ok, 4, done}, {[]int{0, 5}, 0, ok, 4, done}, {[]int{0, 0, -1}, 0, ok, 4, done}, {[]int{0, 0, 0, 77}, 0, ok, 4, done}, {[]int{-1, -2, -3, -4, 1}, 0, ok, 4, done},
		// the read
		{[]int{1}, 0, fault, 1, old}, {[]int{2}, 0, fault, 1, old}, {[]int{3}, 0, crash, 1, "a=[1,2];k=saf"}, {[]int{4}, 1, crash, 1, "a=[1,2];k=safe"},
		// the write
		{[]int{0, 1}, 0, fault, 3, old}, {[]int{0, 2}, 0, fault, 3, old},
		{[]int{0, 3}, 0, crash, 2, "a=[1,2];k=saf"}, {[]int{0, 3}, 9, crash, 2, "a=[1,2];k=safe?"},
		{[]int{0, 4}, 0, crash, 2, "a=[1,2];a.tmp=;k=saf"}, {[]int{0, 4}, 1, crash, 2, "a=[1,2];a.tmp=[;k=safe"}, {[]int{0, 4}, 6, crash, 2, "a=[1,2];a.tmp=[1, 2];k=safe?"}, {[]int{0, 4}, 7, crash, 2, "a=[1,2];a.tmp=[1, 2]\n;k=safe?"}, {[]int{0, 4}, math.MaxInt, crash, 2, "a=[1,2];a.tmp=[1, 2]\n;k=safe?"},
		// the sync
		{[]int{0, 0, 1}, 0, fault, 4, old}, {[]int{0, 0, 2}, 0, fault, 4, old},
		{[]int{0, 0, 3}, 0, crash, 3, "a=[1,2];a.tmp=;k=saf"}, {[]int{0, 0, 3}, 2, crash, 3, "a=[1,2];a.tmp=[1;k=safe?"},
		{[]int{0, 0, 4}, 0, crash, 3, "a=[1,2];a.tmp=[1, 2]\n;k=saf"}, {[]int{0, 0, 4, 1}, 1, crash, 3, "a=[1,2];a.tmp=[1, 2]\n;k=safe"},
		// the rename
		{[]int{0, 0, 0, 1}, 0, fault, 5, old}, {[]int{0, 0, 0, 2}, 0, fault, 5, old},
		{[]int{0, 0, 0, 3}, 0, crash, 4, "a=[1,2];a.tmp=[1, 2]\n;k=saf"}, {[]int{0, 0, 0, 4}, 0, crash, 4, "a=[1, 2]\n;k=saf"}, {[]int{0, 0, 0, 4, 0}, 1, crash, 4, "a=[1, 2]\n;k=safe"},
	})
}

func TestRunPlansOfCleanUp(t *testing.T) {
	old := "a=[1,2];k=saf|e?"
	fault, crash := impl.ExitFault, impl.ExitCrash
	checkPlanned(t, old, "-w a", "", []planned{
		// behind a write that was not made there is nothing to remove
		{[]int{0, 1, 0}, 0, fault, 3, old}, {[]int{0, 1, 1}, 0, fault, 3, old}, {[]int{0, 1, 2}, 0, fault, 3, old}, {[]int{0, 1, 3}, 0, crash, 3, "a=[1,2];k=saf"}, {[]int{0, 1, 4}, 1, crash, 3, "a=[1,2];k=safe"}, {[]int{0, 1, 5}, 0, fault, 3, old}, {[]int{0, 1, 0, 3}, 0, fault, 3, old},
		// behind half a write
		{[]int{0, 2, 0}, 0, fault, 3, old}, {[]int{0, 2, 1}, 0, fault, 3, "a=[1,2];a.tmp=|[1,;k=saf|e?"}, {[]int{0, 2, 2}, 0, fault, 3, "a=[1,2];a.tmp=|[1,;k=saf|e?"}, {[]int{0, 2, 3}, 0, crash, 3, "a=[1,2];a.tmp=;k=saf"}, {[]int{0, 2, 3}, 2, crash, 3, "a=[1,2];a.tmp=[1;k=safe?"}, {[]int{0, 2, 3}, 5, crash, 3, "a=[1,2];a.tmp=[1,;k=safe?"}, {[]int{0, 2, 4}, 0, crash, 3, "a=[1,2];k=saf"}, {[]int{0, 2, -5}, 0, fault, 3, old}, {[]int{0, 2, 1, 4}, 0, fault, 3, "a=[1,2];a.tmp=|[1,;k=saf|e?"},
		// behind the sync
		{[]int{0, 0, 1, 0}, 0, fault, 4, old}, {[]int{0, 0, 1, 1}, 0, fault, 4, "a=[1,2];a.tmp=|[1, 2]\n;k=saf|e?"}, {[]int{0, 0, 2, 2}, 0, fault, 4, "a=[1,2];a.tmp=|[1, 2]\n;k=saf|e?"}, {[]int{0, 0, 1, 3}, 4, crash, 4, "a=[1,2];a.tmp=[1, ;k=safe?"}, {[]int{0, 0, 2, 4}, 1, crash, 4, "a=[1,2];k=safe"}, {[]int{0, 0, 1, 6}, 0, fault, 4, old}, {[]int{0, 0, 1, 0, 4}, 0, fault, 4, old},
		// behind the rename
		{[]int{0, 0, 0, 1, 0}, 0, fault, 5, old}, {[]int{0, 0, 0, 1, 1}, 0, fault, 5, "a=[1,2];a.tmp=[1, 2]\n;k=saf|e?"}, {[]int{0, 0, 0, 2, 2}, 0, fault, 5, "a=[1,2];a.tmp=[1, 2]\n;k=saf|e?"}, {[]int{0, 0, 0, 1, 3}, 0, crash, 5, "a=[1,2];a.tmp=[1, 2]\n;k=saf"}, {[]int{0, 0, 0, 2, 4}, 0, crash, 5, "a=[1,2];k=saf"}, {[]int{0, 0, 0, 1, 9}, 0, fault, 5, old}, {[]int{0, 0, 0, 1, 0, 3}, 0, fault, 5, old},
	})
}

func TestRunHalves(t *testing.T) {
	for source, half := range map[string]string{
		"1": "1", "12": "1", "123": "12", "1234": "12", "[1,2]": "[1,", "[1,23]": "[1, ", "{a:1}": "{ a:", "[]//c": "[]\n", "[]//": "[]\n", "'é'": "\"\xc3",
	} {
		fs := fsOf("a="+source, "b=|x")
		checkRun(t, fs, argsOf("-w", "a"), []int{0, 2, 1}, 0, fsOf("a="+source, "a.tmp=|"+half, "b=|x"), faultOf(3))
		checkRun(t, fs, argsOf("-w", "a"), []int{0, 2}, 0, fs, faultOf(3))
		checkRun(t, fs, argsOf("-w", "a"), []int{0, 2, 3}, 1, fsOf("a="+source, "a.tmp="+half[:1], "b=x"), impl.Outcome{Exit: impl.ExitCrash, Calls: 3})
	}
}

func TestRunTempThere(t *testing.T) {
	old := "a=[1,2];a.tmp=ju|nk;z="
	ok, fault, crash := impl.ExitOK, impl.ExitFault, impl.ExitCrash
	checkPlanned(t, old, "-w a", "", []planned{
		{nil, 0, ok, 4, "a=[1, 2]\n;z="}, {[]int{1}, 0, fault, 1, old}, {[]int{3}, 1, crash, 1, "a=[1,2];a.tmp=jun;z="},
		{[]int{0, 1}, 0, fault, 3, "a=[1,2];z="}, {[]int{0, 1, 1}, 0, fault, 3, old}, {[]int{0, 1, 2}, 0, fault, 3, old}, {[]int{0, 1, 3}, 0, crash, 3, "a=[1,2];a.tmp=ju;z="}, {[]int{0, 1, 4}, 0, crash, 3, "a=[1,2];z="},
		{[]int{0, 2}, 0, fault, 3, "a=[1,2];z="}, {[]int{0, 2, 1}, 0, fault, 3, "a=[1,2];a.tmp=|[1,;z="}, {[]int{0, 3}, 1, crash, 2, "a=[1,2];a.tmp=jun;z="}, {[]int{0, 4}, 1, crash, 2, "a=[1,2];a.tmp=[;z="}, {[]int{0, 4}, 0, crash, 2, "a=[1,2];a.tmp=;z="},
		{[]int{0, 0, 1}, 0, fault, 4, "a=[1,2];z="}, {[]int{0, 0, 3}, 3, crash, 3, "a=[1,2];a.tmp=[1,;z="}, {[]int{0, 0, 0, 1}, 0, fault, 5, "a=[1,2];z="}, {[]int{0, 0, 0, 4}, 0, crash, 4, "a=[1, 2]\n;z="},
	})
	checkPlanned(t, old, "a", "[1, 2]\n", []planned{{nil, 0, ok, 1, old}})
	checkPlanned(t, old, "-check a", "", []planned{{nil, 0, impl.ExitDiffers, 1, old}})
	done := "a=[1, 2]\n;a.tmp=ju|nk"
	checkPlanned(t, done, "-w a", "", []planned{{nil, 0, ok, 1, done}, {[]int{0, 1}, 0, ok, 1, done}})
	bad := "a=[1 2];a.tmp=ju|nk"
	checkPlanned(t, bad, "-w a", "", []planned{{nil, 0, fault, 1, bad}})
	// The temp file of a temp file is another one.
	checkPlanned(t, "a=x;a.tmp=[1,2]", "-w a.tmp", "", []planned{{nil, 0, ok, 4, "a=x;a.tmp=[1, 2]\n"}, {[]int{0, 0, 4}, 0, crash, 3, "a=x;a.tmp=[1,2];a.tmp.tmp=[1, 2]\n"}})
}

func TestRunFull(t *testing.T) {
	fs := withMore(fsOf("a=[1,2]", "b=1|2"), 50)
	args := argsOf("-w", "a")
	for _, plan := range [][]int{nil, {0, 1}, {0, 2}, {0, 2, 1}, {0, 0, 1}, {0, 0, 2}, {0, 7, 9}, {0, 0, 0, 3}} {
		checkRun(t, fs, args, plan, 0, fs, faultOf(3))
	}
	crashed, _ := impl.FsCrash(fs, 1)
	for _, plan := range [][]int{{3}, {0, 3}, {0, 4}, {0, 0, 3}, {0, 0, 4}, {0, 2, 3}, {0, 1, 4}} {
		checkRun(t, fs, args, plan, 1, crashed, impl.Outcome{Exit: impl.ExitCrash, Calls: len(plan)})
	}
	checkRun(t, fs, argsOf("a"), nil, 0, fs, impl.Outcome{Out: []byte("[1, 2]\n"), Calls: 1})
	checkRun(t, fs, argsOf("-w", "b"), nil, 0, fs, faultOf(3))

	almost := withMore(fsOf("a=[1,2]"), 49)
	done := withMore(fsOf("a=[1, 2]\n"), 49)
	checkRun(t, almost, args, nil, 0, done, impl.Outcome{Calls: 4})

	there := withMore(fsOf("a=[1,2]", "a.tmp=ju|nk"), 50)
	done = cloneFs(there)
	done.Files[0] = fsOf("a=[1, 2]\n").Files[0]
	done.Files = append(done.Files[:1], done.Files[2:]...)
	checkRun(t, there, args, nil, 0, done, impl.Outcome{Calls: 4})
	half := cloneFs(there)
	half.Files[1] = fsOf("a.tmp=|[1,").Files[0]
	checkRun(t, there, args, []int{0, 2, 1}, 0, half, faultOf(3))
	gone := cloneFs(there)
	gone.Files = append(gone.Files[:1], gone.Files[2:]...)
	checkRun(t, there, args, []int{0, 2}, 0, gone, faultOf(3))
	checkRun(t, there, args, []int{0, 0, 0, 1}, 0, gone, faultOf(5))
	crashed, _ = impl.FsCrash(done, 0)
	checkRun(t, there, args, []int{0, 0, 0, 4}, 0, crashed, impl.Outcome{Exit: impl.ExitCrash, Calls: 4})
}

// TestRunEveryKeep cuts the temp file at every place.
func TestRunEveryKeep(t *testing.T) {
	text := "[1, 2]\n"
	for keep := range 12 {
		left := text[:min(keep, len(text))]
		other := "other"[:2+min(keep, 3)]
		want := fsOf("a=[1,2]", "a.tmp="+left, "b="+other)
		fs := fsOf("a=[1,2]", "b=ot|her")
		for _, plan := range [][]int{{0, 4}, {0, 0, 3}, {0, 0, 1, 3}} {
			got, out := impl.RunTool(fs, argsOf("-w", "a"), plan, keep)
			if !sameFs(got, want) || out.Exit != impl.ExitCrash || len(out.Out) > 0 || out.Calls != len(plan) {
				t.Errorf("keep %d, %v: exit %d, %d calls, %s", keep, plan, out.Exit, out.Calls, showFs(got))
			}
		}
	}
}
