package nic_test

import (
	"fmt"
	"math"
	"testing"

	"pinnace/api"
	"pinnace/nic"
	"pinnace/virtio"
)

// numbers are edges of what may be written.
var numbers = []uint32{0, 1, 2, 3, 4, 8, 11, 15, 64, 128, 256, 257, 1 << 16, math.MaxInt32, 1 << 31, math.MaxUint32}

// farPlaces are places from 0x200 on.
var farPlaces = []uint32{0x200, 0x201, 0x202, 0x204, 0x250, 0x270, 0x300, 0x1000, 0x1100, 0x10100, 1 << 16, 1<<16 + 0x70, 1 << 31, 1<<31 + 0x100, base + 0x70, math.MaxUint32 - 3, math.MaxUint32}

// settings are settings that may be: of all that a driver does.
func settings() []virtio.State {
	out := []virtio.State{{}, live(), {Status: 3, Irq: 3, Sel: 1}, {Status: 15, Drv: [2]uint32{0, 1}}}
	for _, sel := range []uint32{0, 1, 2} {
		for _, status := range []uint32{0, 3, 11, 15, 79, 143} {
			p := live()
			p.Sel, p.DrvSel, p.FeatSel, p.Status, p.Irq = sel, sel, sel, status, sel
			out = append(out, p)
		}
		for queue := range 2 {
			p := live()
			p.Sel, p.Q[queue].Ready = sel, false
			out = append(out, p)
		}
	}
	return out
}

// NC1: what is read from 0x100 on, also where P can't be.
func TestReadOwn(t *testing.T) {
	for _, p := range append(settings(), oddP()) {
		for _, lost := range numbers {
			for at := uint32(0x100); at < 0x200; at += 4 {
				want := uint32(0)
				if at == 0x100 {
					want = lost
				}
				if got, err := nic.Read(nic.State{P: p, Bell: true, Lost: lost}, at); got != want || err != nil {
					t.Fatalf("%#x: %d, %v, not %d", at, got, err, want)
				}
			}
		}
	}
}

// NC1: what is no register from 0x100 on is ErrBus, also where P can't be.
func TestReadNowhere(t *testing.T) {
	places := farPlaces
	for at := uint32(0x100); at < 0x200; at++ {
		if at%4 != 0 {
			places = append(places, at)
		}
	}
	for _, at := range places {
		for _, s := range []nic.State{{}, {P: live(), Lost: 7}, {P: oddP(), Lost: 7}} {
			if got, err := nic.Read(s, at); got != 0 || errno(err) != api.ErrBus {
				t.Errorf("%#x: %d, %v", at, got, err)
			}
		}
	}
}

// NC1: below 0x100 all is virtio's, of the id 1, with its errors.
func TestReadVirtio(t *testing.T) {
	for _, p := range append(settings(), oddP()) {
		for at := range uint32(0x100) {
			want, wantErr := virtio.Read(p, 1, at)
			if got, err := nic.Read(nic.State{P: p, Bell: true, Lost: 7}, at); got != want || errno(err) != errno(wantErr) {
				t.Fatalf("%#x of %+v: %d, %v, not %d, %v", at, p, got, err, want, wantErr)
			}
		}
	}
}

// NC1: by hand: registers of all devices, the id, and errors.
func TestReadByHand(t *testing.T) {
	for _, c := range []struct {
		p        virtio.State
		at, want uint32
		err      api.Errno
	}{
		{virtio.State{}, 0, 0x74726976, 0},
		{virtio.State{}, 4, 2, 0},
		{virtio.State{}, 8, 1, 0},
		{live(), 8, 1, 0},
		{live(), 12, 0x504e4143, 0},
		{live(), 0x70, 15, 0},
		{virtio.State{Sel: 1}, 0x34, 256, 0},
		{live(), 0xfc, 0, 0},
		{live(), 9, 0, api.ErrBus},
		{live(), 0xff, 0, api.ErrBus},
		{live(), 0x101, 0, api.ErrBus},
		{oddP(), 8, 0, api.ErrArg},
		{oddP(), 9, 0, api.ErrArg},
	} {
		if got, err := nic.Read(nic.State{P: c.p, Lost: 9}, c.at); got != c.want || errno(err) != c.err {
			t.Errorf("%#x: %#x, %v, not %#x, %d", c.at, got, err, c.want, c.err)
		}
	}
}

// writes fails the test, if a write does not make just that state.
func writes(t *testing.T, s nic.State, at, v uint32, want nic.State) {
	t.Helper()
	if got, err := nic.Write(s, at, v); err != nil || got != want {
		t.Fatalf("%+v, %d at %#x: %+v, %v, not %+v", s, v, at, got, err, want)
	}
}

// NC1: what is written from 0x100 on does nothing, also where P's status is 0, or P can't be.
func TestWriteOwn(t *testing.T) {
	for _, p := range append(settings(), oddP()) {
		for _, bell := range []bool{false, true} {
			s := nic.State{P: p, Bell: bell, Lost: 7}
			for at := uint32(0x100); at < 0x200; at += 4 {
				for _, v := range numbers {
					writes(t, s, at, v, s)
				}
			}
		}
	}
}

// NC1: what is no register from 0x100 on is ErrBus, also where P can't be.
func TestWriteNowhere(t *testing.T) {
	places := farPlaces
	for at := uint32(0x100); at < 0x200; at++ {
		if at%4 != 0 {
			places = append(places, at)
		}
	}
	for _, s := range []nic.State{{}, {P: live(), Bell: true, Lost: 7}, {P: oddP(), Lost: 7}} {
		for _, at := range places {
			for _, v := range numbers {
				if got, err := nic.Write(s, at, v); got != (nic.State{}) || errno(err) != api.ErrBus {
					t.Fatalf("%#x: %+v, %v", at, got, err)
				}
			}
		}
	}
}

// NC1: below 0x100 all is virtio's, with its errors; the bell rings at a notice of the queue 1; of a status of 0 then it
// has not rung, and none is Lost.
func TestWriteVirtio(t *testing.T) {
	for _, p := range append(settings(), oddP()) {
		for _, bell := range []bool{false, true} {
			s := nic.State{P: p, Bell: bell, Lost: 7}
			for at := range uint32(0x100) {
				for _, v := range numbers {
					q, n, wantErr := virtio.Write(p, at, v)
					if wantErr != nil {
						if got, err := nic.Write(s, at, v); got != (nic.State{}) || errno(err) != errno(wantErr) {
							t.Fatalf("%d at %#x of %+v: %+v, %v, not %v", v, at, p, got, err, wantErr)
						}
						continue
					}
					want := s
					want.P = q
					if n == 1 {
						want.Bell = true
					}
					if q.Status == 0 {
						want.Bell, want.Lost = false, 0
					}
					writes(t, s, at, v, want)
				}
			}
		}
	}
	for at, want := range map[uint32]api.Errno{8: api.ErrArg, 9: api.ErrArg, 0x50: api.ErrArg, 0x70: api.ErrArg, 0x71: api.ErrArg, 0x100: 0, 0x101: api.ErrBus} {
		if _, err := nic.Write(nic.State{P: oddP(), Lost: 7}, at, 0); errno(err) != want {
			t.Errorf("%#x of a P that can't be: %v, not %d", at, err, want)
		}
	}
}

// NC1: by hand: the bell at notices of both queues, and of none.
func TestWriteBell(t *testing.T) {
	quiet, rung := nic.State{P: live(), Lost: 7}, nic.State{P: live(), Lost: 7, Bell: true}
	writes(t, quiet, 0x50, 1, rung)
	writes(t, rung, 0x50, 1, rung)
	for _, v := range []uint32{0, 2, 3, 257, 1<<16 + 1, math.MaxUint32} {
		writes(t, quiet, 0x50, v, quiet)
		writes(t, rung, 0x50, v, rung)
	}
	for _, at := range []uint32{0x60, 0x48, 0x4c, 0x54, 0x150} {
		writes(t, quiet, at, 1, quiet)
	}
	for name, change := range map[string]func(*nic.State){
		"not Ready": func(s *nic.State) { s.P.Q[1].Ready = false },
		"not Live":  func(s *nic.State) { s.P.Status = 11 },
		"failed":    func(s *nic.State) { s.P.Status = 79 },
	} {
		t.Run(name, func(t *testing.T) {
			writes(t, with(quiet, change), 0x50, 1, with(quiet, change))
			writes(t, with(rung, change), 0x50, 1, with(rung, change))
		})
	}
	// The queue 0 is nothing to it.
	without := with(quiet, func(s *nic.State) { s.P.Q[0] = virtio.Queue{} })
	writes(t, without, 0x50, 1, with(without, func(s *nic.State) { s.Bell = true }))
}

// NC1: by hand: a status of 0: it is reset, the bell has not rung, and none is Lost.
func TestWriteReset(t *testing.T) {
	for _, lost := range numbers {
		for _, bell := range []bool{false, true} {
			writes(t, nic.State{P: live(), Bell: bell, Lost: lost}, 0x70, 0, nic.State{})
			// Also where another register is written, while the status is 0.
			s := nic.State{Bell: bell, Lost: lost}
			writes(t, s, 0x14, 5, nic.State{P: virtio.State{FeatSel: 5}})
			writes(t, s, 0x70, 0, nic.State{})
			writes(t, s, 0x70, 64, nic.State{})
			writes(t, s, 0x50, 1, nic.State{})
			// Another status lets both be.
			writes(t, s, 0x70, 3, nic.State{P: virtio.State{Status: 3}, Bell: bell, Lost: lost})
			s.P = live()
			writes(t, s, 0x70, 128, with(s, func(s *nic.State) { s.P.Status = 143 }))
			writes(t, s, 0x44, 0, s)
		}
	}
}

// NC1: of a state that may be Write makes one that may be.
func TestWriteStaysRight(t *testing.T) {
	for i, p := range settings() {
		s := nic.State{P: p, Bell: true, Lost: 7}
		for at := uint32(0); at < 0x200; at += 4 {
			for _, v := range numbers {
				got, err := nic.Write(s, at, v)
				must(t, err)
				checks(t, fmt.Sprintf("the setting %d, %d at %#x", i, v, at), got, true)
			}
		}
	}
}
