package tests

import (
	"fmt"
	"math"
	"math/rand"
	"slices"
	"strings"
	"testing"

	"loop.example/g00446/impl"
)

func fsOf(files ...impl.File) impl.Fs {
	return impl.Fs{Files: files}
}

func fileOf(name string, data string, synced int64) impl.File {
	return impl.File{Name: name, Data: data, Synced: synced}
}

// someFs has files with nothing, some and all of their bytes synced, and an empty one.
func someFs() impl.Fs {
	return fsOf(
		fileOf(made("base"), made("the base's bytes"), 16),
		fileOf(made("empty"), "", 0),
		fileOf(made("journal"), made("one two three"), 7),
		fileOf(made("temp"), made("loose"), 0))
}

// manyFiles have the names f00, f01 and so on, which rise.
func manyFiles(many int) impl.Fs {
	var f impl.Fs
	for i := range many {
		f.Files = append(f.Files, fileOf(fmt.Sprintf("f%02d", i), fmt.Sprint(i), 1))
	}
	return f
}

// wrongFs: each in one way only.
func wrongFs() map[string]impl.Fs {
	return map[string]impl.Fs{
		"falling":                   fsOf(fileOf("b", "x", 0), fileOf("a", "y", 0)),
		"falling at the end":        fsOf(fileOf("a", "x", 0), fileOf("c", "x", 0), fileOf("b", "y", 0)),
		"two of one Name":           fsOf(fileOf("a", "x", 0), fileOf("a", "y", 0)),
		"two of one Name, apart":    fsOf(fileOf("a", "x", 0), fileOf("b", "y", 0), fileOf("a", "z", 0)),
		"a shorter Name behind":     fsOf(fileOf("ab", "x", 0), fileOf("a", "y", 0)),
		"no Name":                   fsOf(fileOf("", "x", 0)),
		"a Name that is none":       fsOf(fileOf("A", "x", 0), fileOf("b", "x", 0)),
		"a Name that begins by 0":   fsOf(fileOf("0", "x", 0)),
		"a Name of 21 bytes":        fsOf(fileOf(long(21), "x", 0)),
		"Data of one byte too many": fsOf(fileOf("a", long(impl.MaxFile+1), 0)),
		"Synced below 0":            fsOf(fileOf("a", "x", -1)),
		"Synced far below 0":        fsOf(fileOf("a", "x", math.MinInt64)),
		"Synced above its bytes":    fsOf(fileOf("a", "x", 2)),
		"Synced of an empty one":    fsOf(fileOf("a", "", 1)),
		"Synced far above":          fsOf(fileOf("a", "x", 0), fileOf("b", "x", math.MaxInt64)),
		"the last one is wrong":     fsOf(fileOf("a", "x", 0), fileOf("b", "x", 1), fileOf("c", "x", 2)),
		"one file too many":         manyFiles(impl.MaxFiles + 1),
		"hundreds of files":         manyFiles(impl.MaxList + 1),
	}
}

func wrongNames() []string {
	return []string{"", "A", "0a", "_a", "a-b", "a b", "a.b", "aB", "ä", "a\x00", long(21), long(impl.MaxBytes)}
}

func TestFsRight(t *testing.T) {
	right := map[string]impl.Fs{
		"none":                {},
		"an empty list":       {Files: []impl.File{}},
		"an empty file":       fsOf(fileOf("a", "", 0)),
		"some":                someFs(),
		"nothing synced":      fsOf(fileOf("a", "xy", 0)),
		"all synced":          fsOf(fileOf("a", "xy", 2)),
		"MaxFiles":            manyFiles(impl.MaxFiles),
		"MaxFile bytes":       fsOf(fileOf("a", long(impl.MaxFile), impl.MaxFile)),
		"a Name of 20 bytes":  fsOf(fileOf(long(20), "x", 1)),
		"one begins another":  fsOf(fileOf("a", "", 0), fileOf("a0", "", 0), fileOf("a_", "", 0), fileOf("aa", "", 0)),
		"the same Data twice": fsOf(fileOf("a", "x", 1), fileOf("b", "x", 1)),
	}
	for what, f := range right {
		same(t, what, impl.FsRight(f), true)
	}
	for what, f := range wrongFs() {
		same(t, what, impl.FsRight(f), false)
	}
}

// fsCalls: each call that tells an Fs and takes a name, with arguments that are right for someFs.
func fsCalls() map[string]func(f impl.Fs, name string) impl.FsOut {
	return map[string]func(f impl.Fs, name string) impl.FsOut{
		"FsAppend":    func(f impl.Fs, name string) impl.FsOut { return impl.FsAppend(f, name, "more") },
		"FsCut":       func(f impl.Fs, name string) impl.FsOut { return impl.FsCut(f, name, 0) },
		"FsSync":      impl.FsSync,
		"FsRemove":    impl.FsRemove,
		"FsRename":    func(f impl.Fs, name string) impl.FsOut { return impl.FsRename(f, name, "other") },
		"FsRename to": func(f impl.Fs, name string) impl.FsOut { return impl.FsRename(f, "temp", name) },
	}
}

func TestFilesThatAreNotRight(t *testing.T) {
	for what, f := range wrongFs() {
		for call, do := range fsCalls() {
			for _, name := range []string{"a", "b", "f00", "missing", "temp", "A"} {
				alike(t, call+" of "+name+": "+what, do(f, name), impl.FsOut{Code: impl.ErrForm})
			}
			alike(t, call+", too long: "+what, do(f, tooLong()), impl.FsOut{Code: impl.ErrSize})
		}
		same(t, "FsRead: "+what, impl.FsRead(f, "a"), impl.TextOut{Code: impl.ErrForm})
		same(t, "FsRead, none: "+what, impl.FsRead(f, "missing"), impl.TextOut{Code: impl.ErrForm})
		alike(t, "FsNames: "+what, impl.FsNames(f), nil)
		alike(t, "FsCut, out of range: "+what, impl.FsCut(f, "a", -1), impl.FsOut{Code: impl.ErrForm})
		alike(t, "FsAppend, no room: "+what, impl.FsAppend(f, "a", long(impl.MaxFile+1)), impl.FsOut{Code: impl.ErrForm})
	}
}

func TestNamesThatAreNone(t *testing.T) {
	for _, f := range []impl.Fs{{}, someFs(), manyFiles(impl.MaxFiles)} {
		for _, name := range wrongNames() {
			for call, do := range fsCalls() {
				alike(t, fmt.Sprintf("%s of %.30q", call, name), do(f, name), impl.FsOut{Code: impl.ErrForm})
			}
			same(t, fmt.Sprintf("FsRead of %.30q", name), impl.FsRead(f, name), impl.TextOut{Code: impl.ErrForm})
			alike(t, fmt.Sprintf("FsCut of %.30q", name), impl.FsCut(f, name, -1), impl.FsOut{Code: impl.ErrForm})
			alike(t, fmt.Sprintf("FsAppend of %.30q", name), impl.FsAppend(f, name, long(impl.MaxFile+1)), impl.FsOut{Code: impl.ErrForm})
		}
	}
}

func TestTextsTooLongForFiles(t *testing.T) {
	for _, f := range []impl.Fs{{}, someFs(), wrongFs()["falling"]} {
		for call, do := range fsCalls() {
			alike(t, call, do(f, tooLong()), impl.FsOut{Code: impl.ErrSize})
		}
		same(t, "FsRead", impl.FsRead(f, tooLong()), impl.TextOut{Code: impl.ErrSize})
		alike(t, "FsRename of a name that is none to one too long", impl.FsRename(f, "A", tooLong()), impl.FsOut{Code: impl.ErrSize})
		alike(t, "FsRename of one too long to a name that is none", impl.FsRename(f, tooLong(), "A"), impl.FsOut{Code: impl.ErrSize})
		for _, name := range []string{"temp", "missing", "A", tooLong()} {
			alike(t, "FsAppend of a text too long", impl.FsAppend(f, name, tooLong()), impl.FsOut{Code: impl.ErrSize})
		}
	}
}

func TestFilesThatAreNotThere(t *testing.T) {
	for _, f := range []impl.Fs{{}, someFs(), manyFiles(impl.MaxFiles)} {
		for _, name := range []string{"a", "bas", "bases", "zzz", long(20)} {
			none := impl.FsOut{Code: impl.ErrNone}
			same(t, "FsRead of "+name, impl.FsRead(f, name), impl.TextOut{Code: impl.ErrNone})
			alike(t, "FsSync of "+name, impl.FsSync(f, name), none)
			alike(t, "FsRemove of "+name, impl.FsRemove(f, name), none)
			alike(t, "FsRename of "+name, impl.FsRename(f, name, "other"), none)
			alike(t, "FsRename of "+name+" to its own", impl.FsRename(f, name, name), none)
			for _, size := range []int64{0, 1, -1, math.MaxInt64, math.MinInt64} {
				alike(t, "FsCut of "+name, impl.FsCut(f, name, size), none)
			}
		}
	}
}

func TestFsRead(t *testing.T) {
	f := someFs()
	for _, file := range f.Files {
		out := impl.FsRead(f, file.Name)
		same(t, "FsRead of "+file.Name, out, impl.TextOut{Text: file.Data})
		fresh(t, "FsRead of "+file.Name, out, f)
	}
}

func TestFsNames(t *testing.T) {
	alike(t, "none", impl.FsNames(impl.Fs{}), nil)
	f := someFs()
	names := impl.FsNames(f)
	alike(t, "some", names, []string{"base", "empty", "journal", "temp"})
	fresh(t, "some", names, f)
	same(t, "how many of MaxFiles", len(impl.FsNames(manyFiles(impl.MaxFiles))), impl.MaxFiles)
}

func TestAppendToAFileThatIsThere(t *testing.T) {
	f := someFs()
	for at, file := range f.Files {
		for _, text := range []string{"", "x", "\x00\xff\n", long(200), long(impl.MaxFile - len(file.Data))} {
			want := someFs()
			want.Files[at].Data += text
			given := made(text)
			out := impl.FsAppend(f, file.Name, given)
			alike(t, "FsAppend to "+file.Name, out, impl.FsOut{Fs: want})
			fresh(t, "FsAppend to "+file.Name, out, f, given)
		}
		alike(t, "one byte too many for "+file.Name, impl.FsAppend(f, file.Name, long(impl.MaxFile-len(file.Data)+1)), impl.FsOut{Code: impl.ErrFull})
		alike(t, "MaxBytes for "+file.Name, impl.FsAppend(f, file.Name, long(impl.MaxBytes)), impl.FsOut{Code: impl.ErrFull})
	}
	full := fsOf(fileOf("a", long(impl.MaxFile), 5))
	alike(t, "nothing to a full one", impl.FsAppend(full, "a", ""), impl.FsOut{Fs: full})
	alike(t, "one byte to a full one", impl.FsAppend(full, "a", "x"), impl.FsOut{Code: impl.ErrFull})
}

func TestAppendToANewFile(t *testing.T) {
	f := someFs()
	for _, name := range []string{"a", "base0", "k", "zz", long(20)} {
		for _, text := range []string{"", "x", long(impl.MaxFile)} {
			want := someFs()
			want.Files = append(want.Files, fileOf(name, text, 0))
			slices.SortFunc(want.Files, func(a, b impl.File) int { return strings.Compare(a.Name, b.Name) })
			given := made(name)
			out := impl.FsAppend(f, given, text)
			alike(t, "FsAppend to "+name, out, impl.FsOut{Fs: want})
			fresh(t, "FsAppend to "+name, out, f, given)
		}
		alike(t, "one byte too many for "+name, impl.FsAppend(f, name, long(impl.MaxFile+1)), impl.FsOut{Code: impl.ErrFull})
	}
	alike(t, "to none", impl.FsAppend(impl.Fs{}, "a", "x"), impl.FsOut{Fs: fsOf(fileOf("a", "x", 0))})
}

func TestAppendUpToMaxFiles(t *testing.T) {
	almost := manyFiles(impl.MaxFiles - 1)
	full := impl.FsAppend(almost, "f11", "")
	same(t, "the last one: code", full.Code, int64(impl.OK))
	same(t, "the last one: how many", len(full.Fs.Files), impl.MaxFiles)
	for _, text := range []string{"", "x", long(impl.MaxFile + 1)} {
		alike(t, "one file too many", impl.FsAppend(full.Fs, "f12", text), impl.FsOut{Code: impl.ErrFull})
	}
	there := impl.FsAppend(full.Fs, "f00", "x")
	same(t, "one that is there", impl.FsRead(there.Fs, "f00"), impl.TextOut{Text: "0x"})
}

func TestFsCut(t *testing.T) {
	f := someFs()
	for at, file := range f.Files {
		all := int64(len(file.Data))
		for size := range all + 1 {
			want := someFs()
			want.Files[at].Data = file.Data[:size]
			want.Files[at].Synced = min(size, file.Synced)
			out := impl.FsCut(f, file.Name, size)
			alike(t, fmt.Sprintf("FsCut of %s to %d", file.Name, size), out, impl.FsOut{Fs: want})
			fresh(t, "FsCut of "+file.Name, out, f)
		}
		for _, size := range []int64{-1, math.MinInt64, all + 1, math.MaxInt64} {
			alike(t, fmt.Sprintf("FsCut of %s to %d", file.Name, size), impl.FsCut(f, file.Name, size), impl.FsOut{Code: impl.ErrRange})
		}
	}
}

func TestFsSync(t *testing.T) {
	f := someFs()
	for at, file := range f.Files {
		want := someFs()
		want.Files[at].Synced = int64(len(file.Data))
		out := impl.FsSync(f, file.Name)
		alike(t, "FsSync of "+file.Name, out, impl.FsOut{Fs: want})
		fresh(t, "FsSync of "+file.Name, out, f)
	}
}

func TestFsRemove(t *testing.T) {
	f := someFs()
	for at, file := range f.Files {
		want := someFs()
		want.Files = slices.Delete(want.Files, at, at+1)
		out := impl.FsRemove(f, file.Name)
		alike(t, "FsRemove of "+file.Name, out, impl.FsOut{Fs: want})
		fresh(t, "FsRemove of "+file.Name, out, f)
	}
	alike(t, "the only one", impl.FsRemove(fsOf(fileOf("a", "x", 1)), "a"), impl.FsOut{})
}

func TestFsRename(t *testing.T) {
	f := someFs()
	for at, file := range f.Files {
		for _, to := range []string{"a", "c", "f", "k", "zz", "base", "empty", "journal", "temp"} {
			want := someFs()
			want.Files[at].Name = to
			want.Files = slices.DeleteFunc(want.Files, func(x impl.File) bool { return x.Name == to })
			want.Files = append(want.Files, fileOf(to, file.Data, file.Synced))
			slices.SortFunc(want.Files, func(a, b impl.File) int { return strings.Compare(a.Name, b.Name) })
			given := made(to)
			out := impl.FsRename(f, file.Name, given)
			alike(t, "FsRename of "+file.Name+" to "+to, out, impl.FsOut{Fs: want})
			fresh(t, "FsRename of "+file.Name+" to "+to, out, f, given)
		}
	}
	full := manyFiles(impl.MaxFiles)
	same(t, "of MaxFiles to a new name", impl.FsRead(impl.FsRename(full, "f03", "a").Fs, "a"), impl.TextOut{Text: "3"})
}

func TestFsCrash(t *testing.T) {
	f := someFs()
	cases := []struct {
		what string
		keep []int64
		more []int64
	}{
		{"no keep", nil, []int64{0, 0, 0, 0}},
		{"an empty keep", []int64{}, []int64{0, 0, 0, 0}},
		{"noughts", []int64{0, 0, 0, 0}, []int64{0, 0, 0, 0}},
		{"some", []int64{1, 2, 3, 4}, []int64{0, 0, 3, 4}},
		{"one by one", []int64{0, 0, 6, 5}, []int64{0, 0, 6, 5}},
		{"one more than there is", []int64{1, 1, 7, 6}, []int64{0, 0, 6, 5}},
		{"below 0", []int64{-1, -2, -3, -4}, []int64{0, 0, 0, 0}},
		{"far below 0", []int64{math.MinInt64, math.MinInt64, math.MinInt64, 1}, []int64{0, 0, 0, 1}},
		{"far above", []int64{math.MaxInt64, math.MaxInt64, math.MaxInt64, math.MaxInt64}, []int64{0, 0, 6, 5}},
		{"shorter", []int64{9, 9, 2}, []int64{0, 0, 2, 0}},
		{"shorter by most", []int64{9}, []int64{0, 0, 0, 0}},
		{"longer", []int64{0, 0, 1, 2, 3, 4}, []int64{0, 0, 1, 2}},
		{"MaxList of them", slices.Repeat([]int64{2}, impl.MaxList), []int64{0, 0, 2, 2}},
	}
	for _, c := range cases {
		want := someFs()
		for at, more := range c.more {
			file := &want.Files[at]
			file.Synced += more
			file.Data = file.Data[:file.Synced]
		}
		keep := slices.Clone(c.keep)
		out := impl.FsCrash(f, keep)
		alike(t, c.what, out, want)
		alike(t, c.what+": keep", keep, c.keep)
		fresh(t, c.what, out, f, keep)
	}
	alike(t, "of none", impl.FsCrash(impl.Fs{}, []int64{1, 2}), impl.Fs{})
	alike(t, "a keep too long", impl.FsCrash(f, make([]int64, impl.MaxList+1)), impl.Fs{})
	alike(t, "a keep too long of none", impl.FsCrash(impl.Fs{}, make([]int64, impl.MaxList+1)), impl.Fs{})
}

func TestFsCrashOfFilesThatAreNotRight(t *testing.T) {
	for what, f := range wrongFs() {
		for _, keep := range [][]int64{nil, {1, 1}, {-1}, {math.MaxInt64}} {
			out := impl.FsCrash(f, keep)
			alike(t, what, out, f)
			fresh(t, what, out.Files, f.Files)
		}
		alike(t, what+", a keep too long", impl.FsCrash(f, make([]int64, impl.MaxList+1)), impl.Fs{})
	}
}

func TestFilesAreNotChanged(t *testing.T) {
	all := wrongFs()
	all["some"] = someFs()
	all["MaxFiles"] = manyFiles(impl.MaxFiles)
	for what, f := range all {
		before := copyOf(f)
		for _, do := range fsCalls() {
			for _, name := range []string{"a", "base", "temp", "f05", "missing", ""} {
				do(f, name)
			}
		}
		impl.FsRight(f)
		impl.FsNames(f)
		impl.FsRead(f, "base")
		impl.FsCrash(f, []int64{1, 1, 1, 1})
		alike(t, what, f, before)
	}
}

// TestFilesInARow holds a long row of calls against files in a map, told by the document's words.
func TestFilesInARow(t *testing.T) {
	random := rand.New(rand.NewSource(2))
	names := []string{"a", "a1", "b", "base", "c", "d", "e", "f", "g", "h", "i", "journal", "temp", "z"}
	model := map[string]impl.File{}
	var f impl.Fs
	for range 4000 {
		name, to := names[random.Intn(len(names))], names[random.Intn(len(names))]
		file, there := model[name]
		size := int64(len(file.Data))
		var out impl.FsOut
		code := int64(impl.OK)
		switch kind := random.Intn(8); {
		case kind < 3:
			text := long(random.Intn(900))
			out = impl.FsAppend(f, name, text)
			if !there && len(model) == impl.MaxFiles || len(file.Data)+len(text) > impl.MaxFile {
				code = impl.ErrFull
			} else {
				model[name] = fileOf(name, file.Data+text, file.Synced)
			}
		case !there:
			cut := random.Int63n(9)
			out = []impl.FsOut{impl.FsCut(f, name, cut), impl.FsSync(f, name), impl.FsRename(f, name, to), impl.FsRemove(f, name)}[random.Intn(4)]
			code = impl.ErrNone
		case kind == 3:
			cut := random.Int63n(size+3) - 1
			out = impl.FsCut(f, name, cut)
			if cut < 0 || cut > size {
				code = impl.ErrRange
			} else {
				model[name] = fileOf(name, file.Data[:cut], min(cut, file.Synced))
			}
		case kind == 4:
			out = impl.FsSync(f, name)
			model[name] = fileOf(name, file.Data, size)
		case kind == 5:
			out = impl.FsRename(f, name, to)
			delete(model, name)
			model[to] = fileOf(to, file.Data, file.Synced)
		case kind == 6:
			out = impl.FsRemove(f, name)
			delete(model, name)
		default:
			out.Fs = crashInARow(f, model, random)
		}
		same(t, "code", out.Code, code)
		if code == impl.OK {
			f = out.Fs
		}
		alike(t, "files", f, fsOfModel(model))
		same(t, "right", impl.FsRight(f), true)
	}
}

func crashInARow(f impl.Fs, model map[string]impl.File, random *rand.Rand) impl.Fs {
	keep := make([]int64, random.Intn(len(model)+3))
	for i := range keep {
		keep[i] = random.Int63n(2000) - 300
	}
	for at, file := range fsOfModel(model).Files {
		end := file.Synced
		if at < len(keep) && keep[at] > 0 {
			end = min(end+keep[at], int64(len(file.Data)))
		}
		model[file.Name] = fileOf(file.Name, file.Data[:end], end)
	}
	return impl.FsCrash(f, keep)
}

func fsOfModel(model map[string]impl.File) impl.Fs {
	var f impl.Fs
	for _, file := range model {
		f.Files = append(f.Files, file)
	}
	slices.SortFunc(f.Files, func(a, b impl.File) int { return strings.Compare(a.Name, b.Name) })
	return f
}
