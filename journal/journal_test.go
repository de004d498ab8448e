package journal_test

import (
	"slices"
	"strings"
	"testing"

	"consol/api"
	"consol/disk"
	"consol/journal"
	"consol/wire"
)

func formOf(record string) string { return wire.Text(record) + wire.Num(journal.Sum(record)) }

// records opens a journal on a file with some contents.
func records(s string) []string {
	d := disk.New()
	d.Write(0, 0, s)
	j, _ := journal.Open(d, 0)
	return j.All()
}

func contents(d *disk.Disk, f int) string {
	s, _ := d.Read(f, 0, d.Size(f))
	return s
}

func TestP3_1SumAndOpen(t *testing.T) {
	if journal.Sum("") != 0 || journal.Sum("a") != 97 || journal.Sum("ab") != 293 {
		t.Error("sum")
	}
	if big := strings.Repeat("\xff", 20000); journal.Sum(big) != 255*(20000*20001/2)%2147483647 {
		t.Error("modulus")
	}
	d := disk.New()
	for _, f := range []int{-1, 16} {
		if j, e := journal.Open(d, f); j != nil || e != api.ErrArg {
			t.Error("file")
		}
	}
	d.Write(0, 0, "2:ab,293;1:a,98;")
	j, e := journal.Open(d, 0)
	if e != api.OK || !slices.Equal(j.All(), []string{"ab"}) || d.Size(0) != 9 {
		t.Error(e, d.Size(0))
	}
	d.Lose(1)
	if j, e := journal.Open(d, 0); j != nil || e != api.ErrLost {
		t.Error("lost")
	}
	d.Write(0, 9, "x")
	d.Arm(2, nil)
	if j, e := journal.Open(d, 0); j != nil || e != api.ErrDown {
		t.Error("truncate")
	}
	if j, e := journal.Open(d, 0); j != nil || e != api.ErrDown {
		t.Error("down")
	}
	d = disk.New()
	long := strings.Repeat("l", 20001)
	d.Write(0, 0, formOf("a")+formOf(long)+formOf("b"))
	if j, _ := journal.Open(d, 0); j.Len() != 1 || d.Size(0) != len(formOf("a")) {
		t.Error("a record that is too long")
	}
}

func TestP3_2Append(t *testing.T) {
	d := disk.New()
	j, _ := journal.Open(d, 0)
	if j.Append("ab") != api.OK || j.Append("") != api.OK || contents(d, 0) != "2:ab,293;0:,0;" {
		t.Errorf("%q", contents(d, 0))
	}
	if j.Append(strings.Repeat("x", 20001)) != api.ErrRange || j.Len() != 2 {
		t.Error("range")
	}
	for j.Append(strings.Repeat("x", 20000)) == api.OK {
	}
	n := j.Len()
	if j.Append(strings.Repeat("x", 20000)) != api.ErrFull || j.Append("small") != api.OK || j.Len() != n+1 || d.Size(0) > journal.Max {
		t.Error("full")
	}
	d.Crash(nil)
	if j.Append("a") != api.ErrDown || j.Append(strings.Repeat("x", 20001)) != api.ErrState || j.Sync() != api.ErrState || j.Len() != n+1 {
		t.Error("state")
	}
}

func TestP3_3Sync(t *testing.T) {
	d := disk.New()
	j, _ := journal.Open(d, 5)
	j.Append("a")
	if j.Sync() != api.OK {
		t.Error("sync")
	}
	d.Lose(1)
	if j.Sync() != api.ErrLost || j.Sync() != api.ErrState || j.Append("b") != api.ErrState {
		t.Error("lost")
	}
}

func TestP3_4Records(t *testing.T) {
	d := disk.New()
	j, _ := journal.Open(d, 0)
	j.Append("a")
	j.Append("b")
	d.Crash(nil)
	j.Sync()
	if j.Len() != 2 || j.Get(0) != "a" || j.Get(1) != "b" || j.Get(2) != "" || j.Get(-1) != "" || !slices.Equal(j.All(), []string{"a", "b"}) {
		t.Error(j.All())
	}
}

func TestP3_5Fresh(t *testing.T) {
	j, _ := journal.Open(disk.New(), 0)
	j.Append("a")
	j.All()[0] = "x"
	if j.Get(0) != "a" {
		t.Error("shared")
	}
}

func TestP3_6Crashes(t *testing.T) {
	records := []string{"first", strings.Repeat("long", 60), "", strings.Repeat("z", 200), "\x00\x00", "last"}
	for at := 1; at < 14; at++ {
		for mask := range 32 {
			d := disk.New()
			j, _ := journal.Open(d, 0)
			keep := []int{mask & 1, mask >> 1 & 1, mask >> 2 & 1, mask >> 3 & 1, mask >> 4 & 1}
			d.Arm(at, keep)
			synced, failed := 0, ""
			for i, r := range records {
				if e := j.Append(r); e == api.ErrDown {
					failed = r
				}
				if i%2 == 1 && j.Sync() == api.OK {
					synced = j.Len()
				}
			}
			d.Crash(keep)
			d.Start()
			k, e := journal.Open(d, 0)
			if e != api.OK || k.Len() < synced || k.Len() > j.Len()+1 {
				t.Fatal(at, mask, e, k.Len(), synced)
			}
			want := append(j.All(), failed)
			if !slices.Equal(k.All(), want[:k.Len()]) {
				t.Fatal(at, mask, k.All())
			}
		}
	}
}

func TestP3_7Again(t *testing.T) {
	d := disk.New()
	d.Write(0, 0, formOf("a")+formOf("b")+"3:xy")
	j, _ := journal.Open(d, 0)
	before := contents(d, 0)
	k, e := journal.Open(d, 0)
	if e != api.OK || !slices.Equal(j.All(), k.All()) || contents(d, 0) != before || before != formOf("a")+formOf("b") {
		t.Error("again")
	}
	s := formOf("a") + formOf("bc") + formOf("")
	for i := range s {
		part := records(s[:i])
		whole := records(s)
		if !slices.Equal(part, whole[:len(part)]) {
			t.Error(i)
		}
	}
}

func TestP3_2Limits(t *testing.T) {
	d := disk.New()
	j, _ := journal.Open(d, 15)
	long := strings.Repeat("l", 20000)
	if j.Append(long) != api.OK {
		t.Error("20000 bytes")
	}
	if k, _ := journal.Open(d, 15); k.Len() != 1 || k.Get(0) != long {
		t.Error("read again")
	}
	for journal.Max-d.Size(15) > 30000 {
		j.Append(long)
	}
	// A record with n bytes b and its sum take so many bytes that the list ends at Max exactly.
	for n := range 20001 {
		record := strings.Repeat("b", n)
		if d.Size(15)+len(formOf(record)) > journal.Max-20000 && d.Size(15)+len(formOf(record)) <= journal.Max-20 {
			j.Append(record)
			break
		}
	}
	left := journal.Max - d.Size(15)
	for n := range 20001 {
		record := strings.Repeat("b", n)
		if len(formOf(record)) == left {
			if j.Append(record+"b") != api.ErrFull || j.Append(record) != api.OK || d.Size(15) != journal.Max {
				t.Error("the last byte")
			}
			return
		}
	}
	t.Error("no record fits", left)
}
