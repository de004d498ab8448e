package disk_test

import (
	"strings"
	"testing"

	"consol/api"
	"consol/disk"
)

func all(d *disk.Disk, f int) string {
	s, _ := d.Read(f, 0, 1<<30)
	return s
}

func TestP2_1New(t *testing.T) {
	d := disk.New()
	if d.Down() || d.Size(0) != 0 || d.Size(15) != 0 || d.Size(16) != 0 || d.Size(-1) != 0 {
		t.Error("new")
	}
	d.Write(3, 0, "abc")
	d.Lose(1)
	d.Arm(3, []int{1})
	c := d.Copy()
	c.Write(3, 0, "xyzw")
	if all(d, 3) != "abc" || all(c, 3) != "xyzw" || d.Size(3) != 3 {
		t.Error("copy shares")
	}
	if c.Sync(3) != api.ErrLost || d.Sync(3) != api.ErrLost {
		t.Error("lost syncs are not copied")
	}
	if c.Sync(3) != api.ErrDown || !c.Down() || d.Down() || c.Size(3) != 4 {
		t.Error("arm is not copied")
	}
	if d.Sync(3) != api.OK || d.Sync(3) != api.ErrDown {
		t.Error("arm of the original")
	}
}

func TestP2_2Calls(t *testing.T) {
	d := disk.New()
	for _, f := range []int{-1, 16} {
		if _, e := d.Read(f, 0, 1); e != api.ErrArg {
			t.Error("read")
		}
		if d.Write(f, 0, "a") != api.ErrArg || d.Sync(f) != api.ErrArg || d.Truncate(f, 0) != api.ErrArg {
			t.Error("file", f)
		}
	}
	if d.Write(0, -1, "a") != api.ErrArg || d.Write(0, 1<<24, "a") != api.ErrFull || d.Write(0, 1<<62, "") != api.ErrFull || d.Write(0, 1<<24, "") != api.OK {
		t.Error("write")
	}
	if d.Write(0, 2, "ab") != api.OK || all(d, 0) != "\x00\x00ab" || d.Size(0) != 4 {
		t.Error("put")
	}
	if s, e := d.Read(0, 3, 1<<62); s != "b" || e != api.OK {
		t.Error(s)
	}
	if s, e := d.Read(0, 9, 9); s != "" || e != api.OK {
		t.Error(s)
	}
	if _, e := d.Read(0, -1, 1); e != api.ErrArg {
		t.Error("at")
	}
	if _, e := d.Read(0, 0, -1); e != api.ErrArg {
		t.Error("size")
	}
	if d.Truncate(0, 5) != api.ErrArg || d.Truncate(0, -1) != api.ErrArg || d.Truncate(0, 3) != api.OK || all(d, 0) != "\x00\x00a" {
		t.Error("truncate")
	}
	d.Lose(2)
	if d.Sync(0) != api.ErrLost || d.Sync(0) != api.ErrLost || d.Sync(0) != api.OK {
		t.Error("lose")
	}
	d.Crash(nil)
	if _, e := d.Read(99, 0, 1); e != api.ErrDown {
		t.Error("down")
	}
	if d.Write(99, 0, "") != api.ErrDown || d.Sync(99) != api.ErrDown || d.Truncate(99, 0) != api.ErrDown || d.Size(0) != 3 {
		t.Error("down")
	}
}

func TestP2_3Crash(t *testing.T) {
	for _, c := range []struct {
		keep []int
		want string
	}{{[]int{1}, "aXY"}, {[]int{0}, "abc"}, {nil, "abc"}, {[]int{-1}, "aXY"}} {
		d := disk.New()
		d.Write(0, 0, "abc")
		d.Sync(0)
		d.Write(0, 1, "XY")
		d.Crash(c.keep)
		if !d.Down() {
			t.Error("up")
		}
		d.Crash([]int{1})
		d.Start()
		if all(d, 0) != c.want {
			t.Errorf("%q", all(d, 0))
		}
	}
	d := disk.New()
	d.Write(0, 62, "abcd")
	d.Crash([]int{0, 1})
	d.Start()
	if all(d, 0) != strings.Repeat("\x00", 64)+"cd" {
		t.Errorf("%q", all(d, 0))
	}
	d = disk.New()
	d.Write(0, 0, strings.Repeat("x", 200))
	d.Crash([]int{1, 0})
	d.Start()
	if x, o := strings.Repeat("x", 64), strings.Repeat("\x00", 64); all(d, 0) != x+o+x {
		t.Errorf("%q", all(d, 0))
	}
	d = disk.New()
	d.Lose(1)
	d.Lose(-4)
	if d.Sync(0) != api.OK {
		t.Error("lose of less than 0")
	}
	d.Lose(1)
	d.Crash(nil)
	d.Start()
	if d.Sync(0) != api.ErrLost {
		t.Error("lost syncs stay due")
	}
}

func TestP2_3Order(t *testing.T) {
	d := disk.New()
	d.Write(1, 64, "b")
	d.Write(0, 0, "a")
	d.Write(1, 0, "c")
	d.Write(1, 64, "d") // pending already
	d.Crash([]int{1, 0, 0})
	d.Start()
	if all(d, 0) != "" || all(d, 1) != strings.Repeat("\x00", 64)+"d" {
		t.Errorf("%q %q", all(d, 0), all(d, 1))
	}
}

func TestP2_4Arm(t *testing.T) {
	d := disk.New()
	d.Arm(2, []int{1})
	if d.Write(0, 0, "a") != api.OK || d.Write(0, 1, "b") != api.ErrDown || !d.Down() {
		t.Fatal("arm")
	}
	d.Start()
	if all(d, 0) != "ab" || d.Sync(0) != api.OK {
		t.Errorf("%q", all(d, 0))
	}
	d.Arm(1, nil)
	d.Arm(0, nil)
	if d.Sync(0) != api.OK {
		t.Error("no crash is scheduled")
	}
	d.Arm(1, []int{1})
	if d.Write(0, -1, "x") != api.ErrDown || !d.Down() {
		t.Error("a refused write counts")
	}
	d.Arm(1, nil)
	d.Write(0, 0, "x") // does not count: the machine is down
	d.Start()
	if d.Truncate(0, 0) != api.ErrDown || d.Size(0) != 2 {
		t.Error("truncate is not performed")
	}
	d.Start()
	d.Arm(2, nil)
	d.Crash(nil)
	d.Start()
	if d.Sync(0) != api.OK || d.Sync(0) != api.OK {
		t.Error("a crash cancels the schedule")
	}
	d.Lose(1)
	d.Arm(1, nil)
	if d.Sync(0) != api.ErrDown {
		t.Error("sync")
	}
	d.Start()
	if d.Sync(0) != api.ErrLost {
		t.Error("a sync that is not performed takes no loss")
	}
}

func TestP2_5Bytes(t *testing.T) {
	for mask := range 16 {
		keep := []int{mask & 1, mask >> 1 & 1, mask >> 2 & 1, mask >> 3 & 1}
		d := disk.New()
		d.Write(0, 0, strings.Repeat("o", 100))
		d.Sync(0)
		d.Write(0, 130, strings.Repeat("n", 100))
		d.Write(0, 10, "n")
		before := all(d, 0)
		d.Crash(keep)
		d.Start()
		after := all(d, 0)
		if len(after) < 100 || len(after) > len(before) {
			t.Fatal(len(after))
		}
		for i := range after {
			old := byte(0)
			if i < 100 {
				old = 'o'
			}
			if after[i] != old && after[i] != before[i] {
				t.Fatal(i)
			}
		}
	}
}

func TestP2_6Synced(t *testing.T) {
	d := disk.New()
	d.Write(0, 0, strings.Repeat("o", 200))
	d.Write(0, 300, "x")
	d.Sync(0)
	d.Write(0, 70, "n")
	d.Crash([]int{1})
	d.Start()
	want := strings.Repeat("o", 70) + "n" + strings.Repeat("o", 129) + strings.Repeat("\x00", 100) + "x"
	if all(d, 0) != want {
		t.Errorf("%q", all(d, 0))
	}
	d.Write(0, 0, "q")
	d.Truncate(0, 70)
	d.Crash(nil)
	d.Start()
	if all(d, 0) != "q"+strings.Repeat("o", 69) {
		t.Error("truncate is durable")
	}
}

func TestP2_2Bounds(t *testing.T) {
	d := disk.New()
	d.Write(0, 0, "abc")
	if s, e := d.Read(0, 0, 0); s != "" || e != api.OK {
		t.Error("no bytes")
	}
	if d.Truncate(0, 3) != api.OK || d.Truncate(0, 0) != api.OK || d.Size(0) != 0 {
		t.Error("truncate")
	}
	if d.Write(0, 1<<24-1, "a") != api.OK || d.Size(0) != 1<<24 {
		t.Error("the last byte")
	}
	d = disk.New()
	d.Write(0, 0, "abcd")
	d.Write(0, 2, "xy")
	if all(d, 0) != "abxy" {
		t.Error("at the end")
	}
}

func TestP2_3Files(t *testing.T) {
	d := disk.New()
	d.Write(0, 0, "a")
	d.Write(1, 0, "b")
	d.Sync(0)
	c := d.Copy()
	d.Crash(nil)
	d.Start()
	if all(d, 0) != "a" || all(d, 1) != "" {
		t.Error("a sync is about one file")
	}
	c.Crash([]int{3, 2})
	c.Start()
	if all(c, 1) != "b" {
		t.Error("what is synced is pending no more")
	}
	d.Write(1, 0, "b")
	d.Crash([]int{2})
	d.Start()
	if all(d, 1) != "" {
		t.Error("2 is even")
	}
}
