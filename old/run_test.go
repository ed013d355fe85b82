package old_test

import (
	"fmt"
	"math/rand"
	"strings"
	"testing"

	"pinnace/asm"
	"pinnace/bus"
	"pinnace/old"
	"pinnace/ring"
	"pinnace/soc"
	"pinnace/virtio"
)

// code are the words of a program.
func code(t *testing.T, text string) []uint32 {
	t.Helper()
	l, _, err := asm.Program(text)
	must(t, err)
	return l
}

// through is the machine that a machine's file of some version becomes.
func through(t *testing.T, x *soc.Machine, version int) *soc.Machine {
	t.Helper()
	y, err := old.Read(encoded(t, x, version))
	must(t, err)
	return y
}

// loop is a program that counts, and then lets a byte go out.
const loop = "lui x5, 65536\naddi x6, x0, 10\nloop:\naddi x6, x6, -1\nbne x6, x0, loop\naddi x7, x0, 97\nsb x7, 0(x5)\nwfi"

// P5, OL3: a machine that goes through an elder file in the middle of a loop ends the loop. A file of version 1 does not
// hold how long a byte has waited to go out, so that it goes out a little later then.
func TestLoopEndsThroughElderFiles(t *testing.T) {
	words := code(t, loop)
	run := func(stop, version int) string {
		x := newMachine(t, soc.Config{Pages: 1}, words...)
		var out strings.Builder
		for tick := range 40 {
			if tick == stop {
				x = through(t, x, version)
			}
			for _, o := range x.Tick() {
				fmt.Fprintf(&out, "%d: %s;", o.Tick, o.Data)
			}
		}
		return out.String()
	}
	for stop := range 40 {
		for version := 1; version <= 3; version++ {
			want := "27: a;"
			if waited := stop - 23; version == 1 && waited > 0 && waited < 4 {
				want = fmt.Sprintf("%d: a;", 27+waited)
			}
			if got := run(stop, version); got != want {
				t.Errorf("stopped at %d, by version %d: out goes %q, not %q", stop, version, got, want)
			}
		}
	}
}

// offered is a world of which a driver has offered a request to the disk, and has told it so or not.
func offered(bell bool) world {
	w := world{c: soc.Config{Pages: 1, Sectors: 9}, m: make([]byte, page)}
	s := &w.s
	s.H.Pc, s.H.Wait = base, true
	s.B.Sectors, s.B.Bell = 9, bell
	s.B.P = virtio.State{Status: 15, Drv: [2]uint32{0, 1}}
	s.B.P.Q[0] = virtio.Queue{Ready: true, R: ring.Ring{Size: 4, Desc: base + 0x100, Avail: base + 0x200, Used: base + 0x300}}
	copy(w.m[0x100:], lay(uint64(base+0x400), uint32(16), uint16(1), uint16(1), uint64(base+0x500), uint32(513), uint16(2), uint16(0)))
	copy(w.m[0x200:], lay(uint16(0), uint16(1), uint16(0)))
	copy(w.m[0x400:], lay(uint32(0), uint32(0), uint64(3)))
	return w
}

// asked are what the disk is asked for in some ticks.
func asked(x *soc.Machine) string {
	var out strings.Builder
	for range 5 {
		for _, o := range x.Tick() {
			fmt.Fprintf(&out, "%d: kind %d, %+v;", o.Tick, o.Kind, o.Ask)
		}
	}
	return out.String()
}

// OL3: as the bell has rung in what a file of version 2 becomes, a request that was offered is not forgotten.
func TestOfferedRequestIsNotForgotten(t *testing.T) {
	const want = "1: kind 3, {ID:0 Write:false Sector:3 N:512 Data:[]};"
	for _, bell := range []bool{false, true} {
		w := offered(bell)
		for version, want := range map[int]string{1: "", 2: want, 3: map[bool]string{true: want}[bell]} {
			if got := asked(through(t, w.machine(t), version)); got != want {
				t.Errorf("version %d, bell %v: the disk is asked %q, not %q", version, bell, got, want)
			}
		}
	}
}

// OL3: a request that waits for the disk is answered behind a file of version 2 as if nothing had been.
func TestRequestThatWaitsIsAnswered(t *testing.T) {
	x := offered(true).machine(t)
	x.Tick()
	y := through(t, x, 2)
	for _, x := range []*soc.Machine{x, y} {
		must(t, x.Finish(0, true, make([]byte, 512)))
		x.Tick()
	}
	if a, b := worldOf(t, x), worldOf(t, y); string(a.m) != string(b.m) || a.m[0x302] != 1 {
		t.Error("the request is answered otherwise")
	}
	if _, err := old.Read(encoded(t, y, 1)); err != nil {
		t.Error(err)
	}
	if errno(through(t, y, 1).Finish(0, true, nil)) != 8 {
		t.Error("a request waits in what a file of version 1 becomes")
	}
}

// OL3: what an elder file becomes goes on, whatever comes, as a machine with its state does.
func TestGoesOn(t *testing.T) {
	r := rand.New(rand.NewSource(10))
	for i := range 60 {
		w := someWorld(r)
		for version := 1; version <= 3; version++ {
			x, y := through(t, w.machine(t), version), w.of(version).machine(t)
			for range 15 {
				if r.Intn(4) == 0 {
					c := byte(r.Intn(256))
					must(t, x.Put(c))
					must(t, y.Put(c))
				}
				if a, b := fmt.Sprint(x.Tick()), fmt.Sprint(y.Tick()); a != b {
					t.Fatalf("world %d, version %d: out goes %s, not %s", i, version, a, b)
				}
			}
			if !soc.Same(x, y) {
				t.Fatalf("world %d, version %d: it goes on otherwise", i, version)
			}
		}
	}
}

// OL3: a write that waits is not in an elder file, so that it is never done there.
func TestWriteThatWaitsIsGone(t *testing.T) {
	w := worldOf(t, newMachine(t, soc.Config{Pages: 1}))
	w.s.H.Wait = true
	w.s.Q.L = []bus.Post{{Dev: 3, At: 0, N: 1, Value: 'b'}}
	for version, want := range map[int]string{1: "", 2: "", 3: "b"} {
		x := through(t, w.machine(t), version)
		got := ""
		for range 9 {
			for _, o := range x.Tick() {
				got += string(o.Data)
			}
		}
		if got != want {
			t.Errorf("version %d: out goes %q, not %q", version, got, want)
		}
	}
}
