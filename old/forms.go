package old

import (
	"pinnace/api"
	"pinnace/save"
	"pinnace/soc"
	"pinnace/tlv"
)

// The sections of a file of version 1, in their order; each one's tag is one more than its place.
const (
	firstPages = iota
	firstHart
	firstControl
	firstTimer
	firstPort
	firstMemory
)

// So those of version 2.
const (
	secondConfig = iota
	secondTicks
	secondHart
	secondControl
	secondTimer
	secondSources
	secondPort
	secondDiskSetting
	secondDisk
	secondMemory
)

// So those of version 3 that are a config's and a state's.
const (
	lastConfig = iota
	lastTicks
	lastHart
	lastControl
	lastPosts
	lastTimer
	lastSources
	lastPort
	lastEngine
	lastDiskSetting
	lastDisk
	lastNetSetting
	lastNet
)

// How many bytes numbers have, and those that stand together.
const (
	octetBytes   = 1
	halfBytes    = 2
	wordBytes    = 4
	doubleBytes  = 8
	hartBytes    = 32 * wordBytes // Pc, and X's second to last
	setBytes     = 3 * wordBytes  // Status, Enable, Vector
	trapBytes    = 2 * wordBytes  // Epc, Cause
	controlBytes = 7 * wordBytes  // all control registers but Count
	restBytes    = 7 * octetBytes // what the port has behind Ier: Lcr, Mcr, Scr, Dll, Dlm, Over, Wait
)

// What a number is that an elder version does not hold, where that is not 0.
const (
	portLcr  = 3
	diskBell = 1
)

// secondOf are the sections of version 2, with what they can hold of a machine.
func secondOf(x *soc.Machine) [][]byte {
	l := bytesOf(save.Parts(x.Config(), x.State()))
	control, _ := split(l[lastControl], controlBytes)
	_, disk := split(l[lastDisk], octetBytes)
	return [][]byte{
		secondConfig:      l[lastConfig],
		secondTicks:       l[lastTicks],
		secondHart:        l[lastHart],
		secondControl:     control,
		secondTimer:       l[lastTimer],
		secondSources:     l[lastSources],
		secondPort:        l[lastPort],
		secondDiskSetting: l[lastDiskSetting],
		secondDisk:        disk,
		secondMemory:      memoryOf(x),
	}
}

// firstOf are the sections of version 1, with what they can hold of those of version 2.
func firstOf(l [][]byte) [][]byte {
	pages, _ := split(l[secondConfig], halfBytes)
	hart, _ := split(l[secondHart], hartBytes)
	set, rest := split(l[secondControl], setBytes)
	_, rest = split(rest, wordBytes) // Scratch
	trap, _ := split(rest, trapBytes)
	_, timer := split(l[secondTimer], octetBytes)
	port, _ := split(l[secondPort], len(l[secondPort])-restBytes)
	return [][]byte{
		firstPages:   pages,
		firstHart:    hart,
		firstControl: join(set, trap),
		firstTimer:   timer,
		firstPort:    port,
		firstMemory:  l[secondMemory],
	}
}

// secondOfFirst are the sections of version 2 that those of version 1 become. Where one of these is too short, or too
// long, what it becomes is so, too, and is refused there.
func secondOfFirst(l [][]byte) [][]byte {
	set, trap := split(l[firstControl], setBytes)
	time, _ := split(l[firstTimer], doubleBytes)
	first := atFirst()
	_, disk := split(first[lastDisk], octetBytes)
	return [][]byte{
		secondConfig:      join(l[firstPages], noughts(wordBytes-halfBytes), noughts(wordBytes)), // Sectors
		secondTicks:       time,
		secondHart:        join(l[firstHart], noughts(octetBytes)),                 // Wait
		secondControl:     join(set, noughts(wordBytes), trap, noughts(wordBytes)), // Scratch, Value
		secondTimer:       join(noughts(octetBytes), l[firstTimer]),                // Soft
		secondSources:     first[lastSources],
		secondPort:        join(l[firstPort], []byte{portLcr}, noughts(restBytes-octetBytes)),
		secondDiskSetting: first[lastDiskSetting],
		secondDisk:        disk,
		secondMemory:      l[firstMemory],
	}
}

// lastOfSecond are a config's and a state's sections of version 3 that those of version 2 become.
func lastOfSecond(l [][]byte) [][]byte {
	first := atFirst()
	return [][]byte{
		lastConfig:      l[secondConfig],
		lastTicks:       l[secondTicks],
		lastHart:        l[secondHart],
		lastControl:     join(l[secondControl], noughts(doubleBytes)), // Count
		lastPosts:       first[lastPosts],
		lastTimer:       l[secondTimer],
		lastSources:     l[secondSources],
		lastPort:        l[secondPort],
		lastEngine:      first[lastEngine],
		lastDiskSetting: l[secondDiskSetting],
		// Nobody knows any more whether the bell had rung; if it has, what is offered is looked at in any case.
		lastDisk:       join([]byte{diskBell}, l[secondDisk]),
		lastNetSetting: first[lastNetSetting],
		lastNet:        first[lastNet],
	}
}

// atFirst are the sections of version 3 of devices as at first.
func atFirst() [][]byte { return bytesOf(save.Parts(soc.Config{}, soc.State{})) }

// memoryOf are all bytes of a machine's memory.
func memoryOf(x *soc.Machine) []byte {
	m := x.Mem()
	// Only a machine that no call answered has no memory, and so no bytes.
	b, err := m.Read(0, m.Pages()*api.PageSize)
	if err != nil {
		return nil
	}
	return b
}

// tagged are sections of these bytes, with the tags from 1 on.
func tagged(l [][]byte) []tlv.Section {
	out := make([]tlv.Section, 0, len(l))
	for i, b := range l {
		out = append(out, tlv.Section{Tag: tagOf(i), B: b})
	}
	return out
}

// tagOf is the tag of the section at a place.
func tagOf(place int) uint32 { return uint32(place + 1) }

// bytesOf are the bytes of sections, without their tags.
func bytesOf(l []tlv.Section) [][]byte {
	out := make([][]byte, 0, len(l))
	for _, s := range l {
		out = append(out, s.B)
	}
	return out
}

// join are bytes, one run behind the other.
func join(l ...[]byte) []byte {
	var out []byte
	for _, b := range l {
		out = append(out, b...)
	}
	return out
}

// split parts bytes behind the first n of them; if there are fewer, behind the last one.
func split(b []byte, n int) ([]byte, []byte) {
	n = min(n, len(b))
	return b[:n], b[n:]
}

// noughts are so many bytes 0.
func noughts(n int) []byte { return make([]byte, n) }
