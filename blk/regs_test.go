package blk_test

import (
	"fmt"
	"math"
	"testing"

	"pinnace/api"
	"pinnace/blk"
	"pinnace/virtio"
)

// numbers are edges of what may be written.
var numbers = []uint32{0, 1, 2, 3, 4, 8, 11, 15, 64, 128, 256, 257, 1 << 16, math.MaxInt32, 1 << 31, math.MaxUint32}

// farPlaces are places from 0x200 on.
var farPlaces = []uint32{0x200, 0x201, 0x202, 0x204, 0x270, 0x300, 0x1000, 0x1100, 0x10100, 1 << 16, 1<<16 + 0x70, 1 << 31, 1<<31 + 0x100, base + 0x70, math.MaxUint32 - 3, math.MaxUint32}

// settings are settings that may be: of all that a driver does.
func settings() []virtio.State {
	out := []virtio.State{{}, live(), {Status: 3, Irq: 3, Sel: 1}, {Status: 15, Drv: [2]uint32{0, 1}}}
	for _, sel := range []uint32{0, 1, 2} {
		for _, status := range []uint32{0, 3, 11, 15, 79, 143} {
			p := live()
			p.Sel, p.DrvSel, p.FeatSel, p.Status, p.Irq = sel, sel, sel, status, sel
			out = append(out, p)
		}
		p := live()
		p.Sel, p.Q[0].Ready = sel, false
		out = append(out, p)
		p.Q[0].Ready, p.Q[1].Ready = true, false
		out = append(out, p)
	}
	return out
}

// oddP is a setting that can't be.
func oddP() virtio.State {
	p := live()
	p.Status |= 16
	return p
}

// BK1: what is read from 0x100 on.
func TestReadOwn(t *testing.T) {
	for _, p := range append(settings(), oddP()) {
		for _, sectors := range numbers {
			s := waiting()
			s.P, s.Sectors = p, sectors
			for at := uint32(0x100); at < 0x200; at += 4 {
				want := uint32(0)
				if at == 0x100 {
					want = sectors
				}
				if got, err := blk.Read(s, at); got != want || err != nil {
					t.Fatalf("%#x: %d, %v, not %d", at, got, err, want)
				}
			}
		}
	}
}

// BK1: what is no register; of a P that can't be virtio's error comes where virtio is asked.
func TestReadNowhere(t *testing.T) {
	for at := uint32(0x100); at < 0x200; at++ {
		if at%4 == 0 {
			continue
		}
		if got, err := blk.Read(waiting(), at); got != 0 || errno(err) != api.ErrBus {
			t.Errorf("%#x: %d, %v", at, got, err)
		}
		if got, err := blk.Read(blk.State{P: oddP()}, at); got != 0 || errno(err) != api.ErrArg {
			t.Errorf("%#x of a P that can't be: %d, %v", at, got, err)
		}
	}
	for _, at := range farPlaces {
		for _, s := range []blk.State{{}, waiting(), {P: oddP(), Sectors: 7}} {
			if got, err := blk.Read(s, at); got != 0 || errno(err) != api.ErrBus {
				t.Errorf("%#x: %d, %v", at, got, err)
			}
		}
	}
}

// BK1: below 0x100 all is virtio's, of the id 2, with its errors.
func TestReadVirtio(t *testing.T) {
	for _, p := range append(settings(), oddP()) {
		for at := range uint32(0x100) {
			s := waiting()
			s.P = p
			want, wantErr := virtio.Read(p, 2, at)
			if got, err := blk.Read(s, at); got != want || errno(err) != errno(wantErr) {
				t.Fatalf("%#x of %+v: %d, %v, not %d, %v", at, p, got, err, want, wantErr)
			}
		}
	}
	if id, err := blk.Read(blk.State{}, 8); id != 2 || err != nil {
		t.Errorf("the id: %d, %v", id, err)
	}
	if v, err := blk.Read(blk.State{P: oddP()}, 8); v != 0 || errno(err) != api.ErrArg {
		t.Errorf("of a P that can't be: %d, %v", v, err)
	}
	if v, err := blk.Read(blk.State{P: oddP()}, 9); v != 0 || errno(err) != api.ErrArg {
		t.Errorf("of a P that can't be, at 9: %d, %v", v, err)
	}
	if v, err := blk.Read(waiting(), 9); v != 0 || errno(err) != api.ErrBus {
		t.Errorf("at 9: %d, %v", v, err)
	}
}

// writes fails the test, if a write does not make just that state; what was handed in stays.
func writes(t *testing.T, s blk.State, at, v uint32, want blk.State) {
	t.Helper()
	was := told(s)
	got, err := blk.Write(s, at, v)
	if err != nil || told(got) != told(want) {
		t.Fatalf("%+v, %d at %#x: %+v, %v, not %+v", s, v, at, got, err, want)
	}
	spoil(got)
	if told(s) != was {
		t.Fatalf("%+v, %d at %#x: what was handed in is changed: %s", s, v, at, was)
	}
}

// spoil writes all over a state's lists, so that what shares them is seen to change.
func spoil(s blk.State) {
	in := s.In[:cap(s.In)]
	for i := range in {
		l := in[i].L[:cap(in[i].L)]
		for j := range l {
			l[j].At, l[j].N, l[j].Write = 77, -77, !l[j].Write
		}
		in[i] = blk.Req{ID: 99, Head: -99}
	}
}

// BK1: what is written from 0x100 on does nothing, also where P's status is 0, or P can't be.
func TestWriteOwn(t *testing.T) {
	for _, p := range append(settings(), oddP()) {
		s := waiting()
		s.P = p
		for at := uint32(0x100); at < 0x200; at += 4 {
			for _, v := range numbers {
				writes(t, s, at, v, s)
			}
		}
	}
}

// BK1: what is no register from 0x100 on is ErrBus, also of a P that can't be.
func TestWriteNowhere(t *testing.T) {
	places := farPlaces
	for at := uint32(0x100); at < 0x200; at++ {
		if at%4 != 0 {
			places = append(places, at)
		}
	}
	for _, s := range []blk.State{{}, waiting(), {P: oddP(), Sectors: 7}} {
		for _, at := range places {
			for _, v := range numbers {
				if got, err := blk.Write(s, at, v); told(got) != told(blk.State{}) || errno(err) != api.ErrBus {
					t.Fatalf("%#x: %+v, %v", at, got, err)
				}
			}
		}
	}
}

// BK1: below 0x100 all is virtio's, with its errors; of a status of 0 then none is In, and the bell has not rung.
func TestWriteVirtio(t *testing.T) {
	for _, p := range append(settings(), oddP()) {
		for _, bell := range []bool{false, true} {
			s := waiting()
			s.P, s.Bell = p, bell
			for at := range uint32(0x100) {
				for _, v := range numbers {
					q, n, wantErr := virtio.Write(p, at, v)
					if wantErr != nil {
						if got, err := blk.Write(s, at, v); told(got) != told(blk.State{}) || errno(err) != errno(wantErr) {
							t.Fatalf("%d at %#x of %+v: %+v, %v, not %v", v, at, p, got, err, wantErr)
						}
						continue
					}
					want := copyOf(s)
					want.P = q
					if n == 0 {
						want.Bell = true
					}
					if q.Status == 0 {
						want.In, want.Bell = nil, false
					}
					writes(t, s, at, v, want)
				}
			}
		}
	}
	for _, at := range []uint32{8, 9, 0x50, 0x70, 0x71} {
		if got, err := blk.Write(blk.State{P: oddP(), Sectors: 7}, at, 0); told(got) != told(blk.State{}) || errno(err) != api.ErrArg {
			t.Errorf("%#x of a P that can't be: %+v, %v", at, got, err)
		}
	}
}

// BK1: by hand: the bell, and a reset.
func TestWriteByHand(t *testing.T) {
	s := waiting()
	s.Bell = false
	writes(t, s, 0x50, 0, with(s, func(s *blk.State) { s.Bell = true }))
	writes(t, s, 0x50, 1, s)
	writes(t, s, 0x50, 2, s)
	writes(t, waiting(), 0x50, 0, waiting())
	writes(t, waiting(), 0x50, 1, waiting())
	for name, change := range map[string]func(*virtio.State){
		"not Ready": func(p *virtio.State) { p.Q[0].Ready = false },
		"not Live":  func(p *virtio.State) { p.Status = 11 },
		"failed":    func(p *virtio.State) { p.Status = 79 },
	} {
		t.Run(name, func(t *testing.T) {
			s := waiting()
			s.Bell = false
			change(&s.P)
			writes(t, s, 0x50, 0, s)
		})
	}
	// A reset: Sectors and Next stay.
	writes(t, waiting(), 0x70, 0, blk.State{Sectors: 100, Next: 9})
	writes(t, many(8), 0x70, 0, blk.State{Sectors: 100, Next: 8})
	writes(t, blk.State{Sectors: 7, Bell: true, Next: 3}, 0x14, 5, blk.State{Sectors: 7, Next: 3, P: virtio.State{FeatSel: 5}})
	// Another status lets all wait.
	writes(t, waiting(), 0x70, 128, with(waiting(), func(s *blk.State) { s.P.Status = 143 }))
}

// BK1: of a state that may be Write makes one that may be.
func TestWriteStaysRight(t *testing.T) {
	for i, p := range settings() {
		s := waiting()
		s.P = p
		if p.Status == 0 {
			s.In = nil
		}
		checks(t, fmt.Sprint("the setting ", i), s, 8, true)
		for at := uint32(0); at < 0x200; at += 4 {
			for _, v := range numbers {
				got, err := blk.Write(s, at, v)
				must(t, err)
				checks(t, fmt.Sprintf("the setting %d, %d at %#x", i, v, at), got, 8, true)
			}
		}
	}
}
