package fsck_test

import (
	"bytes"
	"testing"

	"copse/api"
	"copse/device"
	"copse/fsck"
)

func junk() []byte { return bytes.Repeat([]byte{'x'}, 512) }

func TestP22_1_PagesThatMayNotBe(t *testing.T) {
	for _, n := range []int{0, 1, 7, 8, 24, 31} {
		for _, dead := range []bool{false, true} {
			d := device.New(n)
			for i := range n {
				must(t, d.Write(i, junk()))
			}
			must(t, d.Sync())
			if dead {
				d.Crash(nil)
			}
			wantFound(t, "too small", d, false, -1, api.FindBounds)
			if r, _, _ := d.Counts(); r != 0 {
				t.Errorf("%d sectors: %d were read", n, r)
			}
		}
	}
	for _, n := range []int{32, 33, 39, 40} {
		wantFound(t, "just large enough", device.New(n), false, -1, api.FindMeta)
		d := device.New(n)
		must(t, d.Write(0, plainMeta(n/8, 0, 0)))
		wantFound(t, "just large enough, empty", d, true)
	}
}

// A device never has too many pages: one of more sectors than MaxSectors has just these.
func TestP22_1_TheGreatestDevice(t *testing.T) {
	last := api.MaxPages - 1
	d := &disk{device.New(api.MaxSectors + 1), t, api.MaxPages}
	r, err := fsck.Examine(d.Device)
	if err != nil || !sameReport(r, api.Report{Findings: found(-1, api.FindMeta)}) {
		t.Errorf("zeros: %v, %v", r, err)
	}
	d.leaf(last, 1, big("a", "b", "c")).leaf(2, 1, big("m", "n", "o")).branch(77, 3, over([]int{last, 2}, "m")).meta(77, 1).synced()
	r, err = fsck.Examine(d.Device)
	if err != nil || !sameReport(r, api.Report{Findings: found(77, api.FindTxid)}) {
		t.Errorf("eight million sectors: %v, %v", r, err)
	}
	n, err := fsck.Repair(d.Device)
	if n != 6 || err != nil {
		t.Errorf("Repair: %d, %v", n, err)
	}
	wantSaved(t, "eight million sectors, mended", d.Device, asTexts(big("a", "b", "c", "m", "n", "o"))...)
}

func asTexts(l []api.Pair) []string {
	var texts []string
	for _, p := range l {
		texts = append(texts, p.Key, p.Value)
	}
	return texts
}

func TestP22_1_Dead(t *testing.T) {
	w := newWood()
	w.txids[5] = 10
	for what, d := range map[string]*disk{"zeros": newDisk(t, 4), "a store": newWood().lay(t), "a spoilt one": w.lay(t), "two spoilt slots": newDisk(t, 4).write(0, junk()).write(8, junk())} {
		d.synced().Crash(nil)
		r, err := fsck.Examine(d.Device)
		if err != api.ErrDead || !sameReport(r, api.Report{}) {
			t.Errorf("%s: %v, %v", what, r, err)
		}
		wantAsPlain(t, what+", dead", d.Device)
		d.Revive()
		wantAsPlain(t, what+", revived", d.Device)
	}
}

func TestP22_1_Slots(t *testing.T) {
	zeros := make([]byte, 512)
	lastByte := bytes.Clone(zeros)
	lastByte[511] = 1
	firstByte := bytes.Clone(zeros)
	firstByte[0] = 1
	even, odd := plainMeta(4, 0, 6), plainMeta(4, 0, 7)
	torn := append(bytes.Clone(even[:100]), junk()[100:]...)
	noSum := bytes.Clone(odd)
	noSum[24]++
	for _, c := range []struct {
		what     string
		a, b     []byte
		sound    bool
		findings []int
	}{
		{"both empty", zeros, zeros, false, []int{-1, api.FindMeta}},
		{"0 spoilt, 1 empty", junk(), zeros, false, []int{-1, api.FindMeta}},
		{"0 empty, 1 spoilt", zeros, junk(), false, []int{-2, api.FindMeta}},
		{"both spoilt", junk(), junk(), false, []int{-1, api.FindMeta, -2, api.FindMeta}},
		{"both valid", even, odd, true, nil},
		{"0 valid, 1 empty", even, zeros, true, nil},
		{"0 empty, 1 valid", zeros, odd, true, nil},
		{"0 valid, 1 spoilt", even, junk(), true, []int{-2, api.FindMeta}},
		{"0 spoilt, 1 valid", junk(), odd, true, []int{-1, api.FindMeta}},
		{"0 torn", torn, odd, true, []int{-1, api.FindMeta}},
		{"1 with another sum", even, noSum, true, []int{-2, api.FindMeta}},
		{"0 all zero but the last byte", lastByte, odd, true, []int{-1, api.FindMeta}},
		{"1 all zero but the first byte", even, firstByte, true, []int{-2, api.FindMeta}},
		{"both all zero but a byte", lastByte, firstByte, false, []int{-1, api.FindMeta, -2, api.FindMeta}},
		{"each in the other one's place", odd, even, false, []int{-1, api.FindMeta, -2, api.FindMeta}},
		{"0 of another device", plainMeta(5, 0, 6), odd, true, []int{-1, api.FindMeta}},
		{"1 with a root that is no page", even, plainMeta(4, 4, 7), true, []int{-2, api.FindMeta}},
		{"1 with the root 1", even, plainMeta(4, 1, 7), true, []int{-2, api.FindMeta}},
	} {
		d := newDisk(t, 4).write(0, c.a).write(8, c.b)
		wantFound(t, c.what+", pending", d.Device, c.sound, c.findings...)
		wantFound(t, c.what, d.synced().Device, c.sound, c.findings...)
		for _, i := range []int{1, 7, 9, 15} { // what stands beside the slots is nobody's
			d.write(i, junk())
		}
		wantFound(t, c.what+", and junk beside the slots", d.Device, c.sound, c.findings...)
	}
}

// A slot's finding comes ahead of the tree's; that of an empty slot only where nothing else is found.
func TestP22_1_SlotsAndTree(t *testing.T) {
	w := newWood()
	w.txids[5] = 10
	wantFound(t, "an empty slot", w.lay(t).Device, false, 5, api.FindTxid)
	wantFound(t, "a spoilt slot", w.lay(t).write(0, junk()).Device, false, -1, api.FindMeta, 5, api.FindTxid)
	w.meta.Txid = 8
	wantFound(t, "the other one", w.lay(t).write(8, junk()).Device, false, -2, api.FindMeta, 5, api.FindTxid, 8, api.FindTxid, 17, api.FindTxid)
	wantFound(t, "no slot at all, and a whole tree", newWood().lay(t).write(8, make([]byte, 512)).Device, false, -1, api.FindMeta)
}

// The meta with the greater transaction counts, and its tree alone.
func TestP22_1_TwoMetas(t *testing.T) {
	d := newDisk(t, 6).leaf(2, 4, big("a")).leaf(3, 5, big("b")).meta(2, 4).meta(3, 5)
	wantFound(t, "both trees are right", d.Device, true)
	wantFound(t, "the older one's is not", d.write(16, junk()).Device, true)
	d.leaf(2, 4, big("a")).write(24, junk())
	wantFound(t, "the younger one's is not", d.Device, false, 3, api.FindPage)
	d.write(8, junk())
	wantFound(t, "the younger one is no meta", d.Device, true, -2, api.FindMeta)
	d.leaf(2, 5, big("a"))
	wantFound(t, "and the older one's page is too young", d.Device, false, -2, api.FindMeta, 2, api.FindTxid)
}

func TestP22_1_NoRoot(t *testing.T) {
	for _, txid := range []uint64{0, 1, 2, 1<<64 - 1} {
		d := newDisk(t, 8).meta(0, txid)
		wantFound(t, "no root", d.Device, true)
		for i := 16; i < 64; i++ {
			d.write(i, junk())
		}
		wantFound(t, "no root, and junk in all pages", d.Device, true)
	}
}
