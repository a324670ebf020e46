package tests

import (
	"bytes"
	"testing"

	"loop.example/g01227/impl"
)

func wantBytes(t *testing.T, name string, got []byte, code int64, want []byte, wantCode int64) {
	t.Helper()
	if !bytes.Equal(got, want) || code != wantCode {
		t.Errorf("%s: got %v, %d, want %v, %d", name, got, code, want, wantCode)
	}
}

func wantUnread(t *testing.T, name string, data []byte, wantCode int64) {
	t.Helper()
	list, code := impl.ReadPacket(data)
	wantTallies(t, name, list, code, nil, wantCode)
}

func wantTorn(t *testing.T, name string, data []byte, want []impl.Tally) {
	t.Helper()
	list, code := impl.TornTallies(data)
	wantTallies(t, name, list, code, want, impl.OK)
}

func mustPacket(t *testing.T, list []impl.Tally) []byte {
	t.Helper()
	data, code := impl.PacketOf(list)
	if code != impl.OK {
		t.Fatalf("PacketOf(%v): code %d", list, code)
	}
	return data
}

// sealed makes the last check of changed data right again.
func sealed(data []byte) []byte {
	last := len(data) - 1
	data[last] = modelCheck(data[:last])
	return data
}

func TestPacketsAreReadAgain(t *testing.T) {
	d := &draw{340}
	for range 2000 {
		list := d.some()
		data, code := impl.PacketOf(list)
		wantBytes(t, "PacketOf", data, code, modelPacket(list), impl.OK)
		back, code := impl.ReadPacket(data)
		wantTallies(t, "ReadPacket", back, code, list, impl.OK)
		wantTorn(t, "TornTallies", data, list)
		if t.Failed() {
			t.Fatal(list)
		}
	}
}

func TestPlainPackets(t *testing.T) {
	for _, c := range []struct {
		list []impl.Tally
		want []byte
	}{
		{nil, []byte{68, 84, 0, 125}},
		{[]impl.Tally{{Turn: 258, Count: 3, Full: 1000}}, []byte{68, 84, 1, 2, 1, 3, 0, 232, 3, 2, 186}},
		{[]impl.Tally{{}, {Turn: 65535, Count: 32767, Full: 1000}}, []byte{68, 84, 2, 0, 0, 0, 0, 0, 0, 8, 255, 255, 255, 127, 232, 3, 170, 48}},
	} {
		data, code := impl.PacketOf(c.list)
		wantBytes(t, "PacketOf", data, code, c.want, impl.OK)
		list, code := impl.ReadPacket(c.want)
		wantTallies(t, "ReadPacket", list, code, c.list, impl.OK)
		wantTorn(t, "TornTallies", c.want, c.list)
	}
	longest := (&draw{341}).tallies(96, 3)
	if data := mustPacket(t, longest); len(data) != 7*96+4 {
		t.Errorf("the longest packet has %d bytes", len(data))
	}
}

func TestPacketOfRefuses(t *testing.T) {
	for name, bad := range badTallies() {
		data, code := impl.PacketOf(bad)
		wantBytes(t, name, data, code, nil, impl.ErrInvalid)
	}
}

// TestChangedPacketsAreNotRead changes each byte of packets to all others in turn.
func TestChangedPacketsAreNotRead(t *testing.T) {
	d := &draw{342}
	for _, count := range []int{0, 1, 2, 5} {
		list := d.tallies(count, 300)
		data := mustPacket(t, list)
		for i := range data {
			old := data[i]
			for x := range 256 {
				data[i] = byte(x)
				// Modulo 251 some bytes are the same, so not each change is told by a check.
				if byte(x) == old || (x-int(old))%251 == 0 && i > 2 && i < len(data)-1 && (i-2)%7 != 0 {
					continue
				}
				want := int64(impl.ErrProof)
				if i < 3 {
					want = impl.ErrSyntax
				}
				wantUnread(t, "a byte that is changed", data, want)
				at := (i - 3) / 7
				if i >= 3 {
					wantTorn(t, "a byte that is changed", data, list[:min(at, count)])
				}
			}
			data[i] = old
		}
	}
}

// TestBytesThatACheckDoesNotTell has bytes that are the same modulo 251.
func TestBytesThatACheckDoesNotTell(t *testing.T) {
	data := mustPacket(t, []impl.Tally{{Turn: 2, Count: 0, Full: 3}})
	data[5] = 251
	list, code := impl.ReadPacket(data)
	wantTallies(t, "251 in place of 0", list, code, []impl.Tally{{Turn: 2, Count: 251, Full: 3}}, impl.OK)
	data[3] = 253
	list, code = impl.ReadPacket(data)
	wantTallies(t, "253 in place of 2", list, code, []impl.Tally{{Turn: 253, Count: 251, Full: 3}}, impl.OK)
}

// TestChecksAreLessThan251 has packets whose checks are so little that 251 more is a byte as well.
func TestChecksAreLessThan251(t *testing.T) {
	last, inner := 0, 0
	for count := range int16(2000) {
		data := mustPacket(t, []impl.Tally{{Count: count}})
		if data[10] < 5 {
			last++
			data[10] += 251
			wantUnread(t, "the last check, and 251", data, impl.ErrProof)
			data[10] -= 251
		}
		if data[9] < 5 {
			inner++
			data[9] += 251
			wantUnread(t, "a check, and 251", sealed(data), impl.ErrProof)
			wantTorn(t, "a check, and 251", data, nil)
		}
	}
	if last == 0 || inner == 0 {
		t.Errorf("little checks: %d, %d", last, inner)
	}
}

func TestTalliesThatChangePlacesAreTold(t *testing.T) {
	d := &draw{343}
	for range 300 {
		list := d.tallies(2+d.below(20), 4)
		data := mustPacket(t, list)
		one, two := d.below(len(list)), d.below(len(list))
		if one == two {
			continue
		}
		old := bytes.Clone(data)
		copy(data[3+7*one:10+7*one], old[3+7*two:])
		copy(data[3+7*two:10+7*two], old[3+7*one:])
		wantUnread(t, "two tallies change places", sealed(data), impl.ErrProof)
		wantTorn(t, "two tallies change places", data, list[:min(one, two)])
	}
}

func TestReadPacketRefuses(t *testing.T) {
	three := []impl.Tally{{Turn: 4, Count: 5, Full: 400}, {Turn: 5, Count: 6, Full: 500}, {Turn: 9, Count: 7, Full: 600}}
	good := mustPacket(t, three)
	changed := func(at int, x byte) []byte {
		data := bytes.Clone(good)
		data[at] = x
		return data
	}
	longest := mustPacket(t, (&draw{344}).tallies(96, 0))
	tooLong := modelPacket((&draw{345}).tallies(97, 0))
	for _, c := range []struct {
		name string
		data []byte
		code int64
	}{
		{"nothing", nil, impl.ErrSyntax}, {"no number", []byte("DT"), impl.ErrSyntax}, {"no check", []byte("DT\x00"), impl.ErrSyntax},
		{"the first byte", changed(0, 'd'), impl.ErrSyntax}, {"the second byte", changed(1, 'D'), impl.ErrSyntax}, {"the number is less", changed(2, 2), impl.ErrSyntax}, {"the number is greater", changed(2, 4), impl.ErrSyntax},
		{"sealed, the first byte", sealed(changed(0, 'd')), impl.ErrSyntax}, {"sealed, the number is less", sealed(changed(2, 2)), impl.ErrSyntax},
		{"a byte more", append(bytes.Clone(good), 0), impl.ErrSyntax}, {"a byte less", good[:len(good)-1], impl.ErrSyntax}, {"a byte ahead", append([]byte{0}, good...), impl.ErrSyntax},
		{"the length ahead of a check", append(changed(4, 9), 0), impl.ErrSyntax},
		{"the number is too great", changed(2, 97), impl.ErrSyntax}, {"the greatest number", changed(2, 255), impl.ErrSyntax},
		{"97 tallies", tooLong, impl.ErrRange}, {"a byte more than there may be", append(bytes.Clone(longest), 0), impl.ErrRange}, {"many bytes", make([]byte, 1000000), impl.ErrRange},
		{"as many bytes as there may be", make([]byte, 676), impl.ErrSyntax}, {"one more", make([]byte, 677), impl.ErrRange},
		{"the last check", changed(len(good)-1, good[len(good)-1]^1), impl.ErrProof}, {"a check of a tally", sealed(changed(9, good[9]^1)), impl.ErrProof},
		{"a byte of a tally", sealed(changed(10, good[10]^1)), impl.ErrProof}, {"the last byte of a tally", sealed(changed(22, good[22]^1)), impl.ErrProof},
	} {
		wantUnread(t, c.name, c.data, c.code)
	}
}

// packable reports whether each number of a list fits the bytes of a packet.
func packable(list []impl.Tally) bool {
	for _, x := range list {
		if x.Turn < 0 || x.Turn > 65535 {
			return false
		}
	}
	return len(list) <= 96
}

func TestTalliesThatAreNotValidAreNotRead(t *testing.T) {
	met := 0
	for name, bad := range badTallies() {
		if !packable(bad) {
			continue
		}
		met++
		data := modelPacket(bad)
		wantUnread(t, name, data, impl.ErrSyntax)
		// A check that is another one comes ahead of them.
		data[len(data)-1] ^= 1
		wantUnread(t, name+", and another check", data, impl.ErrProof)
		data[len(data)-1] ^= 1
		data[len(data)-2] ^= 1
		wantUnread(t, name+", and another check of a tally", sealed(data), impl.ErrProof)
		begin := 0
		for impl.ValidTallies(bad[:begin+1]) {
			begin++
		}
		wantTorn(t, name, modelPacket(bad), bad[:begin])
	}
	if met < 10 {
		t.Errorf("only %d lists are not valid", met)
	}
}

// TestTornPacketsAreReadFromTheBeginning cuts packets at each byte.
func TestTornPacketsAreReadFromTheBeginning(t *testing.T) {
	d := &draw{346}
	for _, count := range []int{0, 1, 2, 7, 96} {
		list := d.tallies(count, 3)
		data := mustPacket(t, list)
		for length := range len(data) {
			torn := data[:length:length]
			if length < 3 {
				got, code := impl.TornTallies(torn)
				wantTallies(t, "no number", got, code, nil, impl.ErrSyntax)
				continue
			}
			wantTorn(t, "torn", torn, list[:(length-3)/7])
			wantUnread(t, "torn", torn, impl.ErrSyntax)
		}
	}
}

func TestTornTallies(t *testing.T) {
	d := &draw{347}
	list := d.tallies(9, 3)
	good := mustPacket(t, list)
	changed := func(at int, x byte) []byte {
		data := bytes.Clone(good)
		data[at] = x
		return data
	}
	last := len(good) - 1
	wantTorn(t, "the byte at the end", changed(last, good[last]^1), list)
	wantTorn(t, "the number is less", changed(2, 4), list[:4])
	wantTorn(t, "the number is 0", changed(2, 0), nil)
	wantTorn(t, "the number is greater", changed(2, 96), list)
	wantTorn(t, "bytes behind the end", append(bytes.Clone(good), make([]byte, 500)...), list)
	wantTorn(t, "no tallies, and no check", []byte("DT\x00"), nil)
	wantTorn(t, "no tallies, though some are told", []byte("DT\x60"), nil)
	for i := range list {
		check := 3 + 7*i + 6
		wantTorn(t, "another check", changed(check, good[check]^128), list[:i])
	}
	// Behind a tally that is not read none is, also where it is right.
	late := append([]impl.Tally{}, list...)
	late[3].Turn = late[2].Turn
	wantTorn(t, "a turn twice", modelPacket(late), late[:3])
	late[3].Turn = late[8].Turn
	wantTorn(t, "a turn that is too great", modelPacket(late), late[:4])
	longest := mustPacket(t, d.tallies(96, 0))
	for name, c := range map[string]struct {
		data []byte
		code int64
	}{
		"nothing": {nil, impl.ErrSyntax}, "no number": {[]byte("DT"), impl.ErrSyntax}, "the first byte": {changed(0, 0), impl.ErrSyntax}, "the second byte": {changed(1, 'D'), impl.ErrSyntax},
		"a number that is too great": {changed(2, 97), impl.ErrSyntax}, "the greatest number": {changed(2, 255), impl.ErrSyntax}, "97 tallies": {modelPacket(d.tallies(97, 0)), impl.ErrRange},
		"a byte more than there may be": {append(longest, 0), impl.ErrRange}, "many bytes": {append(bytes.Clone(good), make([]byte, 900000)...), impl.ErrRange}, "the wrong word, too long": {make([]byte, 677), impl.ErrRange},
	} {
		got, code := impl.TornTallies(c.data)
		wantTallies(t, name, got, code, nil, c.code)
	}
}

// TestRandomBytesAreReadAsTheModelReads has data that begin like a packet, with tallies that are often right.
func TestRandomBytesAreReadAsTheModelReads(t *testing.T) {
	d := &draw{348}
	for range 20000 {
		list := d.tallies(d.below(8), 2)
		data := modelPacket(list)
		for range d.below(3) {
			data[d.below(len(data))] = byte(d.below(256))
		}
		data = data[:d.below(len(data)+1)]
		got, code := impl.TornTallies(data)
		if len(data) < 3 || data[0] != 'D' || data[1] != 'T' || data[2] > 96 {
			wantTallies(t, "bytes", got, code, nil, impl.ErrSyntax)
			continue
		}
		if code != impl.OK || !impl.ValidTallies(got) || len(got) > int(data[2]) {
			t.Fatalf("%v: %v, %d", data, got, code)
		}
		// What is read is just what is written so.
		written := modelPacket(got)
		if end := len(written) - 1; end > len(data) || !bytes.Equal(written[3:end], data[3:end]) {
			t.Fatalf("%v: %v", data, got)
		}
		whole, code := impl.ReadPacket(data)
		if code == impl.OK && (!sameTallies(whole, got) || !bytes.Equal(written, data)) {
			t.Fatalf("%v: %v, but whole %v", data, got, whole)
		}
		if code != impl.OK && bytes.Equal(written, data) {
			t.Fatalf("%v: %v, but whole %d", data, got, code)
		}
	}
}
