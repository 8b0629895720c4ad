package tests

import (
	"bytes"
	"fmt"
	"slices"
	"strings"
	"testing"

	"loop.example/s02863/impl"
)

// toolInput is what the functions of the tool take between them.
type toolInput struct {
	fs       impl.Fs
	name, to []byte
	data     []byte
	args     [][]byte
	plan     []int
	keep     int
}

// toolAnswer is what they answer between them.
type toolAnswer struct {
	fs      impl.Fs
	out     []byte
	numbers [2]int
}

type toolFunction struct {
	what string
	call func(toolInput) toolAnswer
}

func toolFunctions() []toolFunction {
	changed := func(fs impl.Fs, code int) toolAnswer { return toolAnswer{fs: fs, numbers: [2]int{code}} }
	return []toolFunction{
		{"ValidFs", func(in toolInput) toolAnswer {
			if impl.ValidFs(in.fs) {
				return toolAnswer{numbers: [2]int{1}}
			}
			return toolAnswer{}
		}},
		{"FsRead", func(in toolInput) toolAnswer {
			data, code := impl.FsRead(in.fs, in.name)
			return toolAnswer{out: data, numbers: [2]int{code}}
		}},
		{"FsWrite", func(in toolInput) toolAnswer { return changed(impl.FsWrite(in.fs, in.name, in.data)) }},
		{"FsSync", func(in toolInput) toolAnswer { return changed(impl.FsSync(in.fs, in.name)) }},
		{"FsRename", func(in toolInput) toolAnswer { return changed(impl.FsRename(in.fs, in.name, in.to)) }},
		{"FsRename back", func(in toolInput) toolAnswer { return changed(impl.FsRename(in.fs, in.to, in.name)) }},
		{"FsRename to itself", func(in toolInput) toolAnswer { return changed(impl.FsRename(in.fs, in.name, in.name)) }},
		{"FsRemove", func(in toolInput) toolAnswer { return changed(impl.FsRemove(in.fs, in.name)) }},
		{"FsCrash", func(in toolInput) toolAnswer { return changed(impl.FsCrash(in.fs, in.keep)) }},
		{"RunTool", func(in toolInput) toolAnswer {
			fs, out := impl.RunTool(in.fs, in.args, in.plan, in.keep)
			return toolAnswer{fs, out.Out, [2]int{out.Exit, out.Calls}}
		}},
	}
}

func sameAnswer(a, b toolAnswer) bool {
	return sameFs(a.fs, b.fs) && bytes.Equal(a.out, b.out) && a.numbers == b.numbers
}

func cloneAnswer(a toolAnswer) toolAnswer {
	return toolAnswer{cloneFs(a.fs), bytes.Clone(a.out), a.numbers}
}

func stretchesOfFs(fs impl.Fs) []stretch {
	found := []stretch{stretchOf(fs.Files)}
	for _, f := range fs.Files {
		found = append(found, stretchOf(f.Name), stretchOf(f.Data))
	}
	return found
}

func stretchesOfAnswer(a toolAnswer) []stretch {
	return append(stretchesOfFs(a.fs), stretchOf(a.out))
}

func stretchesOfInput(in toolInput) []stretch {
	found := append(stretchesOfFs(in.fs), stretchOf(in.name), stretchOf(in.to), stretchOf(in.data), stretchOf(in.args), stretchOf(in.plan))
	for _, a := range in.args {
		found = append(found, stretchOf(a))
	}
	return found
}

// withRoom has a copy of each list of an input, with room behind it.
func withRoom(in toolInput) toolInput {
	text := func(list []byte) []byte { given, _ := roomy(list, '1'); return given }
	files := slices.Clone(in.fs.Files)
	for i, f := range files {
		files[i].Name, files[i].Data = text(f.Name), text(f.Data)
	}
	in.fs.Files, _ = roomy(files, impl.FsFile{Name: []byte("behind"), Data: []byte("behind")})
	in.name, in.to, in.data = text(in.name), text(in.to), text(in.data)
	args := slices.Clone(in.args)
	for i, a := range args {
		args[i] = text(a)
	}
	in.args, _ = roomy(args, []byte("-w"))
	in.plan, _ = roomy(in.plan, impl.PlanBefore)
	return in
}

// spread shows an input with all that its lists have room for.
func spread(in toolInput) string {
	all := func(list []byte) string { return fmt.Sprintf("%d:%q ", len(list), list[:cap(list)]) }
	var s strings.Builder
	for _, f := range in.fs.Files[:cap(in.fs.Files)] {
		s.WriteString(all(f.Name) + all(f.Data) + fmt.Sprint(f.Safe))
	}
	for _, a := range in.args[:cap(in.args)] {
		s.WriteString(all(a))
	}
	return s.String() + all(in.name) + all(in.to) + all(in.data) + fmt.Sprint(in.plan[:cap(in.plan)])
}

func overwriteFs(fs impl.Fs) {
	for _, f := range fs.Files {
		fill(f.Name, '?')
		fill(f.Data, '?')
	}
	fill(fs.Files, impl.FsFile{Name: []byte("?"), Safe: -1})
}

func overwriteInput(in toolInput) {
	overwriteFs(in.fs)
	fill(in.name, '?')
	fill(in.to, '?')
	fill(in.data, '?')
	for _, a := range in.args {
		fill(a, '?')
	}
	fill(in.args, []byte("?"))
	fill(in.plan, impl.PlanFail)
}

// oneMemory has one list at many places, and lists that overlap.
func oneMemory() toolInput {
	memory := []byte("[1,2][1,2]")
	fs := impl.Fs{Files: []impl.FsFile{
		{Name: memory[1:2], Data: memory, Safe: 5},
		{Name: memory[:2], Data: memory[:5], Safe: 5},
		{Name: memory[:5], Data: memory[:5]},
		{Name: memory, Data: memory[5:], Safe: 1},
	}}
	return toolInput{fs: fs, name: memory[:5], to: memory[:2], data: memory, args: [][]byte{memory[:2], []byte("-w")}}
}

func toolInputs() []toolInput {
	systems := []impl.Fs{
		{}, disk("a=[1,2]"), disk("a=[1,2];a.tmp=ju|nk;b=sa|fe;z=|x"), disk("a=[1, 2]\n;b="), disk("a=[1 2];b=x"), disk("b=x;a=y"), withMore(fsOf("a=[1,2]", "b=|x"), 49), withMore(fsOf("a=[1,2]", "b=|x"), 50), withMore(fsOf("a=[1,2]"), 51), disk("a=|[1,2];b=|[1,2]"),
	}
	orders := [][][]byte{argsOf("a"), argsOf("-w", "a"), argsOf("-check", "a"), argsOf("a", "-width", "5", "-w", "-indent", "3"), argsOf("-w"), argsOf("a", "-width"), nil}
	plans := [][]int{nil, {1}, {3}, {4}, {0, 1}, {0, 2}, {0, 2, 1}, {0, 4}, {0, 0, 1, 3}, {0, 0, 0, 4}, {0, 0, 0, 1, 1}}
	var inputs []toolInput
	for i, fs := range systems {
		for j, args := range orders {
			for k, plan := range plans {
				keep := (i + j + k) % 5
				names := [][2]string{{"a", "b"}, {"a", "c"}, {"none", "a"}, {"", "a"}, {"a", ""}, {"b", "a.tmp"}}[(i+2*j+3*k)%6]
				inputs = append(inputs, toolInput{fs, []byte(names[0]), []byte(names[1]), []byte("data"), args, plan, keep})
			}
		}
	}
	inputs = append(inputs, toolInput{fs: disk("a=[1,2]"), name: []byte("a"), args: argsOf("a"), keep: -1})
	one := oneMemory()
	for _, plan := range plans {
		one.plan = plan
		inputs = append(inputs, one)
		other := one
		other.args = [][]byte{one.name, []byte("-check")}
		inputs = append(inputs, other)
	}
	// The names and bytes of the arguments may be those of the files.
	fs := disk("a=[1,2];b=|x")
	return append(inputs, toolInput{fs: fs, name: fs.Files[0].Name, to: fs.Files[1].Name, data: fs.Files[1].Data, args: [][]byte{fs.Files[0].Name}, keep: 1})
}

func checkToolMemory(t *testing.T, f toolFunction, in toolInput) {
	t.Helper()
	before := spread(in)
	first := f.call(in)
	second := f.call(in)
	name := f.what + " of " + before[:min(len(before), 300)]
	if spread(in) != before {
		t.Errorf("%s: the argument is changed: %.300s", name, spread(in))
	}
	checkApart(t, name, append(stretchesOfAnswer(first), stretchesOfAnswer(second)...))
	for _, s := range stretchesOfInput(in) {
		checkApart(t, name, append(stretchesOfAnswer(first), s))
	}
	want := cloneAnswer(first)
	given := withRoom(in)
	whole := spread(given)
	third := f.call(given)
	if spread(given) != whole {
		t.Errorf("%s: the room behind an argument is written into: %.300s", name, spread(given))
	}
	overwriteInput(given)
	if !sameAnswer(third, want) {
		t.Errorf("%s: the answer changes with the argument: %s %q", name, showFs(third.fs), third.out)
	}
	overwriteFs(first.fs)
	fill(first.out, '!')
	if later := f.call(in); !sameAnswer(second, want) || !sameAnswer(later, want) {
		t.Errorf("%s: another answer at a later call: %s %q", name, showFs(later.fs), later.out)
	}
}

func TestToolMemory(t *testing.T) {
	for _, in := range toolInputs() {
		for _, f := range toolFunctions() {
			checkToolMemory(t, f, in)
		}
	}
}

// TestToolEmptyLists has nil and empty lists in all places.
func TestToolEmptyLists(t *testing.T) {
	for _, empty := range [][]byte{nil, {}} {
		fs := impl.Fs{Files: []impl.FsFile{{Name: []byte("a"), Data: empty}, {Name: []byte("b"), Data: []byte("x")}}}
		got, code := impl.FsWrite(fs, []byte("b"), empty)
		checkFs(t, "FsWrite of nothing", got, code, fsOf("a=", "b="), impl.CodeOK)
		got, code = impl.FsSync(fs, []byte("a"))
		checkFs(t, "FsSync of nothing", got, code, fsOf("a=", "b=|x"), impl.CodeOK)
		if data, code := impl.FsRead(fs, []byte("a")); len(data) != 0 || code != impl.CodeOK {
			t.Errorf("FsRead of nothing: %q, code %d", data, code)
		}
		checkRun(t, fs, [][]byte{empty}, nil, 0, fs, faultOf(0))
		checkRun(t, fs, [][]byte{[]byte("a")}, []int{}, 0, fs, faultOf(1))
		checkRun(t, impl.Fs{Files: []impl.FsFile{}}, argsOf("a"), nil, 0, impl.Fs{}, faultOf(1))
	}
}
