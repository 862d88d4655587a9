package disk_test

import (
	"bytes"
	"fmt"
	"maps"
	"slices"
	"strings"
	"testing"

	"lectern/api"
	"lectern/disk"
)

// same holds two values against each other; a nil list is an empty one.
func same(a, b any) bool {
	return show(a) == show(b)
}

// show tells numbers as numbers, and texts so that none looks like two.
func show(a any) string {
	return fmt.Sprintf("%+v %+q", a, a)
}

func build(t *testing.T, files ...api.File) *disk.Disk {
	t.Helper()
	d, e := disk.New(files)
	if e != api.OK || d == nil {
		t.Fatalf("New: %v, %v", d, e)
	}
	return d
}

// numbered returns n files.
func numbered(n int) []api.File {
	var l []api.File
	for i := range n {
		l = append(l, api.File{Name: fmt.Sprintf("f%02d", i), Data: []byte{byte(i)}})
	}
	return l
}

var (
	validNames   = []string{"a", "0", ".", "-", "a-z.09", "wal-1.new", strings.Repeat("n", api.MaxName)}
	invalidNames = []string{"", "A", "a b", "a/b", "a_b", "\x00", "é", "\xff", "{", "`", ":", strings.Repeat("n", api.MaxName+1)}
)

// P18.1.
func TestNew(t *testing.T) {
	big := make([]byte, api.MaxFile+1)
	for _, name := range validNames {
		d := build(t, api.File{Name: name, Data: []byte("abc")})
		if b, e := d.Read(name); string(b) != "abc" || e != api.OK {
			t.Errorf("%q: %q, %v", name, b, e)
		}
	}
	for _, l := range [][]api.File{nil, numbered(api.MaxFiles), {{Name: "a", Data: big[1:]}}} {
		d := build(t, l...)
		if got := d.Crash(nil); !same(got, l) || d.Calls() != 0 {
			t.Errorf("%d files: %d", len(l), len(got))
		}
	}
	bad := [][]api.File{numbered(api.MaxFiles + 1), {{Name: "a", Data: big}}, {{Name: "a"}, {Name: "a"}}, {{Name: "b"}, {Name: "a"}}}
	for _, name := range invalidNames {
		bad = append(bad, []api.File{{Name: name}})
	}
	for _, l := range bad {
		if d, e := disk.New(l); d != nil || e != api.ErrForm {
			t.Errorf("%d files: %v, %v", len(l), d, e)
		}
	}
}

// P18.2, P18.3: invalid names and negative sizes come first and are not counted, also without power.
func TestInvalidNames(t *testing.T) {
	for _, off := range []bool{false, true} {
		d := build(t, api.File{Name: "a", Data: []byte("abc")})
		if off {
			d.Off(0)
		}
		for _, name := range invalidNames {
			_, r := d.Read(name)
			for i, e := range []api.Errno{d.Append(name, nil), d.Cut(name, 0), d.Sync(name), d.Remove(name), d.Rename(name, "a"), d.Rename("a", name), d.Rename(name, name), r} {
				if e != api.ErrForm {
					t.Errorf("%q, method %d: %v", name, i, e)
				}
			}
		}
		for _, n := range []int{-1, -1 << 63} {
			if a, b := d.Cut("a", n), d.Cut("none", n); a != api.ErrForm || b != api.ErrForm {
				t.Errorf("Cut to %d: %v, %v", n, a, b)
			}
		}
		if d.Calls() != 0 {
			t.Errorf("%d calls", d.Calls())
		}
	}
}

// P18.2: errors of valid calls, which are counted.
func TestErrors(t *testing.T) {
	big := make([]byte, api.MaxFile+1)
	d := build(t, numbered(api.MaxFiles)...)
	calls := 0
	for i, c := range []struct {
		got, want api.Errno
	}{
		{d.Append("new", nil), api.ErrFull},
		{d.Append("new", big), api.ErrLimit},
		{d.Append("f00", big), api.ErrLimit},
		{d.Append("f00", big[:api.MaxFile]), api.ErrLimit},
		{d.Append("f00", big[:api.MaxFile-1]), api.OK},
		{d.Append("f00", nil), api.OK},
		{d.Append("f00", big[:1]), api.ErrLimit},
		{d.Cut("new", 0), api.ErrNone},
		{d.Cut("f01", 2), api.ErrForm},
		{d.Cut("f01", 1<<63-1), api.ErrForm},
		{d.Cut("f01", 1), api.OK},
		{d.Cut("f01", 0), api.OK},
		{d.Cut("f01", 1), api.ErrForm},
		{d.Sync("new"), api.ErrNone},
		{d.Sync("f01"), api.OK},
		{d.Remove("new"), api.ErrNone},
		{d.Rename("new", "f01"), api.ErrNone},
		{d.Rename("new", "new"), api.ErrNone},
		{d.Rename("f02", "f02"), api.OK},
		{d.Rename("f02", "f03"), api.OK},
		{d.Append("new", nil), api.OK},
		{d.Remove("new"), api.OK},
		{d.Remove("new"), api.ErrNone},
	} {
		calls++
		if c.got != c.want {
			t.Errorf("call %d: %v, not %v", i, c.got, c.want)
		}
	}
	if d.Calls() != calls {
		t.Errorf("%d calls, not %d", d.Calls(), calls)
	}
	if b, e := d.Read("new"); len(b) != 0 || e != api.ErrNone {
		t.Errorf("Read: %q, %v", b, e)
	}
	if b, e := d.Read("f03"); string(b) != "\x02" || e != api.OK {
		t.Errorf("what was renamed: %q, %v", b, e)
	}
}

// plainFile and plainDisk do what the chapter says, without power failures.
type plainFile struct{ visible, durable string }

type plainDisk map[string]plainFile

func (p plainDisk) names() []string { return slices.Sorted(maps.Keys(p)) }

func (p plainDisk) append(name, b string) api.Errno {
	f, found := p[name]
	switch {
	case len(f.visible)+len(b) > api.MaxFile:
		return api.ErrLimit
	case !found && len(p) == api.MaxFiles:
		return api.ErrFull
	}
	f.visible += b
	p[name] = f
	return api.OK
}

func (p plainDisk) cut(name string, n int) api.Errno {
	f, found := p[name]
	switch {
	case !found:
		return api.ErrNone
	case n > len(f.visible):
		return api.ErrForm
	}
	f.visible = f.visible[:n]
	p[name] = f
	return api.OK
}

func (p plainDisk) sync(name string) api.Errno {
	f, found := p[name]
	if !found {
		return api.ErrNone
	}
	p[name] = plainFile{f.visible, f.visible}
	return api.OK
}

func (p plainDisk) rename(from, to string) api.Errno {
	f, found := p[from]
	if !found {
		return api.ErrNone
	}
	delete(p, from)
	p[to] = f
	return api.OK
}

func (p plainDisk) remove(name string) api.Errno {
	if _, found := p[name]; !found {
		return api.ErrNone
	}
	delete(p, name)
	return api.OK
}

func floor(a, b int) int {
	q := a / b
	if a%b < 0 {
		q--
	}
	return q
}

func (f plainFile) crash(p int) string {
	switch p - 3*floor(p, 3) {
	case 0:
		return f.durable
	case 1:
		return f.visible
	}
	k := (max(len(f.visible), len(f.durable)) + 31) / 32
	m := floor(p, 3) - (k+1)*floor(floor(p, 3), k+1)
	var out []byte
	for i := range len(f.visible) {
		switch {
		case i/32 < m:
			out = append(out, f.visible[i])
		case i < len(f.durable):
			out = append(out, f.durable[i])
		default:
			out = append(out, 0)
		}
	}
	return string(out)
}

func (p plainDisk) crash(picks []int) []api.File {
	var l []api.File
	for _, name := range p.names() {
		f := p[name]
		data := f.visible
		if f.visible != f.durable {
			pick := 0
			if len(picks) > 0 {
				pick, picks = picks[0], picks[1:]
			}
			data = f.crash(pick)
		}
		l = append(l, api.File{Name: name, Data: []byte(data)})
	}
	return l
}

type chance uint64

func (c *chance) below(n int) int {
	*c = *c*6364136223846793005 + 1442695040888963407
	return int(*c >> 33 % chance(n))
}

func (c *chance) name() string { return fmt.Sprintf("f%02d", c.below(18)) }

func (c *chance) picks() []int {
	var l []int
	for range c.below(12) {
		switch c.below(5) {
		case 0:
			l = append(l, -c.below(1000))
		case 1:
			l = append(l, []int{-1 << 63, 1<<63 - 1, 1<<63 - 2, 1<<63 - 3, -1<<63 + 1}[c.below(5)])
		default:
			l = append(l, c.below(100))
		}
	}
	return l
}

// step makes the same call of both disks.
func (c *chance) step(d *disk.Disk, p plainDisk) (what string, got, want api.Errno) {
	name, to := c.name(), c.name()
	switch k := c.below(12); {
	case k < 5:
		b := strings.Repeat(string(rune('a'+c.below(26))), []int{0, 1, 31, 32, 33, 64, 200}[c.below(7)])
		return "Append " + name, d.Append(name, []byte(b)), p.append(name, b)
	case k < 7:
		n := c.below(150)
		return "Cut " + name, d.Cut(name, n), p.cut(name, n)
	case k < 10:
		return "Sync " + name, d.Sync(name), p.sync(name)
	case k < 11:
		return "Rename " + name + " " + to, d.Rename(name, to), p.rename(name, to)
	}
	return "Remove " + name, d.Remove(name), p.remove(name)
}

// P18.2 to P18.4: a long time, with a look at what crashes would leave.
func TestAgainstPlainDisk(t *testing.T) {
	for seed := range 20 {
		c := chance(seed)
		d, p := build(t), plainDisk{}
		for step := range 400 {
			what, got, want := c.step(d, p)
			if got != want || d.Calls() != step+1 {
				t.Fatalf("seed %d, step %d: %s: %v, not %v; %d calls", seed, step, what, got, want, d.Calls())
			}
			if names, e := d.List(); e != api.OK || !same(names, p.names()) {
				t.Fatalf("seed %d, step %d: List: %v, %v", seed, step, names, e)
			}
			name := c.name()
			if b, e := d.Read(name); string(b) != p[name].visible || (e == api.OK) != slices.Contains(p.names(), name) {
				t.Fatalf("seed %d, step %d: Read(%s): %q, %v", seed, step, name, b, e)
			}
			picks := c.picks()
			if got, want := d.Crash(picks), p.crash(picks); !same(got, want) {
				t.Fatalf("seed %d, step %d: Crash(%v): %q, not %q", seed, step, picks, got, want)
			}
		}
	}
}

// The chapter's example.
func TestExample(t *testing.T) {
	d := build(t)
	d.Append("a", []byte("abc"))
	for pick, want := range []string{"", "abc"} {
		if l := d.Crash([]int{pick}); !same(l, []api.File{{Name: "a", Data: []byte(want)}}) {
			t.Errorf("pick %d: %q", pick, l)
		}
	}
}

// P18.4: every torn write of two unequal contents, by hand.
func TestTorn(t *testing.T) {
	x, y := strings.Repeat("x", 40), strings.Repeat("y", 70)
	d := build(t, api.File{Name: "a", Data: []byte(x)})
	d.Cut("a", 0)
	d.Append("a", []byte(y))
	nought := strings.Repeat("\x00", 30)
	for m, want := range []string{x + nought, y[:32] + x[:8] + nought, y[:64] + nought[:6], y, x + nought, y[:32] + x[:8] + nought} {
		if l := d.Crash([]int{2 + 3*m}); string(l[0].Data) != want {
			t.Errorf("%d sectors: %q, not %q", m, l[0].Data, want)
		}
	}
	if l := d.Crash([]int{-1}); string(l[0].Data) != y {
		t.Errorf("pick -1: %q", l[0].Data)
	}
	d.Sync("a")
	d.Cut("a", 33)
	for m, want := range []string{y[:33], y[:33], y[:33], y[:33]} {
		if l := d.Crash([]int{2 + 3*m}); string(l[0].Data) != want {
			t.Errorf("a shorter file, %d sectors: %q", m, l[0].Data)
		}
	}
}

// all makes one call of each counted method; it returns their errors.
func all(d *disk.Disk) []api.Errno {
	return []api.Errno{d.Append("a", []byte("x")), d.Cut("a", 0), d.Sync("a"), d.Rename("a", "b"), d.Rename("b", "a"), d.Remove("a")}
}

// P18.3: the power fails at the call that was said, and stays off.
func TestOff(t *testing.T) {
	for n := -1; n <= 7; n++ {
		d := build(t)
		d.Off(n)
		for i, e := range all(d) {
			if want := i+1 >= n; (e == api.ErrPower) != want || !want && e != api.OK {
				t.Errorf("Off(%d), call %d: %v", n, i+1, e)
			}
		}
		if n > 6 {
			continue
		}
		d.Off(100)
		_, a := d.Read("a")
		names, b := d.List()
		if a != api.ErrPower || b != api.ErrPower || len(names) != 0 || d.Calls() != 6 || d.Append("a", nil) != api.ErrPower || d.Calls() != 7 {
			t.Errorf("Off(%d): %v, %v, %d calls", n, a, b, d.Calls())
		}
	}
}

// P18.3: without power nothing is changed; a call that fails for another reason counts; Read and List do not.
func TestOffEffects(t *testing.T) {
	d := build(t, api.File{Name: "a", Data: []byte("abc")})
	d.Off(3)
	d.Cut("a", 9)
	d.Read("a")
	d.List()
	d.Append("a", []byte("d"))
	before := d.Crash([]int{1})
	for _, e := range all(d) {
		if e != api.ErrPower {
			t.Errorf("%v", e)
		}
	}
	if got := d.Crash([]int{1}); !same(got, before) || string(got[0].Data) != "abcd" {
		t.Errorf("%q, not %q", got, before)
	}
	d = build(t)
	d.Off(1)
	if e := d.Append("a", nil); e != api.ErrPower || len(d.Crash(nil)) != 0 {
		t.Errorf("%v, %q", e, d.Crash(nil))
	}
}

// P18.3: a later Off replaces an earlier one.
func TestOffAgain(t *testing.T) {
	d := build(t)
	d.Off(1)
	d.Off(3)
	for i, want := range []api.Errno{api.OK, api.OK, api.ErrPower} {
		if i == 1 {
			d.Off(2)
		}
		if e := d.Append("a", nil); e != want {
			t.Errorf("call %d: %v, not %v", i+1, e, want)
		}
	}
}

// P18.5: what was synced is found after every crash.
func TestSynced(t *testing.T) {
	d := build(t)
	d.Append("a", []byte("abc"))
	d.Append("b", []byte("abc"))
	d.Sync("a")
	d.Rename("a", "c")
	for pick := range 12 {
		l := d.Crash([]int{pick, pick})
		if len(l) != 2 || l[1].Name != "c" || string(l[1].Data) != "abc" {
			t.Errorf("pick %d: %q", pick, l)
		}
	}
}

// R2: arguments are not kept, results are new.
func TestMemory(t *testing.T) {
	first := []byte("abc")
	d := build(t, api.File{Name: "a", Data: first})
	more := []byte("def")
	d.Append("a", more)
	first[0], more[0] = 'x', 'x'
	r, _ := d.Read("a")
	r[1] = 'x'
	_ = append(r[:3], 'x')
	l := d.Crash([]int{1})
	l[0].Data[2] = 'x'
	_ = append(l[0].Data[:3], 'x')
	names, _ := d.List()
	names[0] = "x"
	if b, e := d.Read("a"); e != api.OK || !bytes.Equal(b, []byte("abcdef")) {
		t.Errorf("%q, %v", b, e)
	}
	if l := d.Crash(nil); string(l[0].Data) != "abc" {
		t.Errorf("%q", l)
	}
}
