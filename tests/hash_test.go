package tests

import (
	"bytes"
	"crypto/sha256"
	"fmt"
	"hash/crc32"
	"math"
	"strings"
	"testing"

	"loop.example/g00356/impl"
)

func TestHashWrittenOut(t *testing.T) {
	if impl.HashSize != 32 {
		t.Errorf("HashSize is %d", impl.HashSize)
	}
	for _, c := range []struct{ text, want string }{
		{"", "e3b0c44298fc1c149afbf4c8996fb92427ae41e4649b934ca495991b7852b855"},
		{"abc", "ba7816bf8f01cfea414140de5dae2223b00361a396177a9cb410ff61f20015ad"},
		{"abcdbcdecdefdefgefghfghighijhijkijkljklmklmnlmnomnopnopq", "248d6a61d20638b8e5c026930c3e6039a33ce45964ff2167f6ecedd419db06c1"},
		{"abcdefghbcdefghicdefghijdefghijkefghijklfghijklmghijklmnhijklmnoijklmnopjklmnopqklmnopqrlmnopqrsmnopqrstnopqrstu",
			"cf5b16a778af8380036ce59e7b0492370b249b11e8f07a51afac45037afee9d1"},
		{strings.Repeat("a", 55), "9f4390f8d30c2dd92ec9f095b65e2b9ae9b0a925a5258e241c9f1e910f734318"},
		{strings.Repeat("a", 56), "b35439a4ac6f0948b6d6f9e3c6af0f5f590ce20f1bde7090ef7970686ec6738a"},
		{strings.Repeat("a", 63), "7d3e74a05d7db15bce4ad9ec0658ea98e3f06eeecf16b4c6fff2da457ddc2f34"},
		{strings.Repeat("a", 64), "ffe054fe7ae0cb6dc65c3af9b61d5209f439851db43d0ba5997337df154668eb"},
		{strings.Repeat("a", 65), "635361c48bb9eab14198e76ea8ab7f1a41685d6ad62aa9146d301d4f17eb0ae0"},
		{strings.Repeat("a", 119), "31eba51c313a5c08226adf18d4a359cfdfd8d2e816b13f4af952f7ea6584dcfb"},
		{strings.Repeat("a", 120), "2f3d335432c70b580af0e8e1b3674a7c020d683aa5f73aaaedfdc55af904c21c"},
		{strings.Repeat("a", 65536), "bf718b6f653bebc184e1479f1935b8da974d701b893afcf49e701f3e2f9f9c5a"},
	} {
		if is := fmt.Sprintf("%x", impl.Hash([]byte(c.text))); is != c.want {
			t.Errorf("Hash of %d bytes %.5q = %s, not %s", len(c.text), c.text, is, c.want)
		}
	}
}

func TestHashBySize(t *testing.T) {
	sizes := []int{511, 512, 513, 4095, 4096, 8191, 8192, 65471, 65472, 65527, 65528, impl.MaxText - 1, impl.MaxText}
	for size := range 330 {
		sizes = append(sizes, size)
	}
	for _, size := range sizes {
		for _, b := range [][]byte{sampleBytes(size, size), make([]byte, size), bytes.Repeat([]byte{0xff}, size), bytes.Repeat([]byte{0x80}, size)} {
			if h := impl.Hash(b); h != hashOf(b) {
				t.Errorf("Hash of %d bytes = %x, not %x", size, h, hashOf(b))
			}
		}
	}
}

func TestHashByEachByte(t *testing.T) {
	for c := range 256 {
		for _, size := range []int{1, 4, 64} {
			b := bytes.Repeat([]byte{byte(c)}, size)
			if h := impl.Hash(b); h != hashOf(b) {
				t.Errorf("Hash of %d bytes %#x = %x", size, c, h)
			}
		}
	}
}

func TestHashByEachBit(t *testing.T) {
	for _, size := range []int{1, 55, 56, 64, 65, 120} {
		b := sampleBytes(size, 9)
		for bit := range 8 * size {
			other := turned(b, bit)
			if h := impl.Hash(other); h != hashOf(other) || h == impl.Hash(b) {
				t.Errorf("with bit %d turned Hash of %d bytes = %x", bit, size, h)
			}
		}
	}
}

// Each is the hash of the one ahead: a wrong answer is seen in all behind it.
func TestHashOfHashes(t *testing.T) {
	h, want := "", ""
	for i := range 300 {
		h, want = impl.Hash([]byte(h)), hashOf([]byte(want))
		if h != want {
			t.Fatalf("hashed %d times it is %x, not %x", i+1, h, want)
		}
	}
}

func TestHashOfLong(t *testing.T) {
	for _, size := range []int{impl.MaxText + 1, impl.MaxText + 64, 2 * impl.MaxText} {
		if h := impl.Hash(make([]byte, size)); h != "" {
			t.Errorf("Hash of %d bytes = %x", size, h)
		}
		if n := impl.Check32(make([]byte, size)); n != 0 {
			t.Errorf("Check32 of %d bytes = %#x", size, n)
		}
	}
}

func TestHashesReadBack(t *testing.T) {
	for _, h := range sampleHashes() {
		want := fmt.Sprintf("%x", h)
		if text, code := impl.HashText(h); text != want || code != impl.OK {
			t.Errorf("HashText(%x) = %q, %d", h, text, code)
		}
		if back, code := impl.ReadHash(want); back != h || code != impl.OK {
			t.Errorf("ReadHash(%q) = %x, %d", want, back, code)
		}
	}
}

func TestHashBits(t *testing.T) {
	for _, h := range sampleHashes() {
		var want strings.Builder
		for i := range len(h) {
			fmt.Fprintf(&want, "%08b", h[i])
		}
		if signs, code := impl.HashBits(h); signs != want.String() || code != impl.OK {
			t.Errorf("HashBits(%x) = %q, %d", h, signs, code)
		}
	}
	for bit := range 256 {
		h := turned(make([]byte, 32), bit)
		// turned counts bits from the lowest of a byte, the signs from the highest.
		want := []byte(strings.Repeat("0", 256))
		want[bit/8*8+7-bit%8] = '1'
		if signs, _ := impl.HashBits(string(h)); signs != string(want) {
			t.Errorf("with bit %d set HashBits = %q", bit, signs)
		}
	}
}

func TestHashesOfWrongSize(t *testing.T) {
	sizes := []int{40, 62, 63, 64, 65, 66, 128, 256, impl.MaxText}
	for size := range 34 {
		sizes = append(sizes, size)
	}
	for _, size := range sizes {
		if size == impl.HashSize {
			continue
		}
		h := strings.Repeat("a", size)
		if text, code := impl.HashText(h); text != "" || code != impl.ErrBad {
			t.Errorf("HashText of %d bytes = %q, %d", size, text, code)
		}
		if signs, code := impl.HashBits(h); signs != "" || code != impl.ErrBad {
			t.Errorf("HashBits of %d bytes = %q, %d", size, signs, code)
		}
		if size == 2*impl.HashSize {
			continue
		}
		if back, code := impl.ReadHash(h); back != "" || code != impl.ErrForm {
			t.Errorf("ReadHash of %d bytes = %x, %d", size, back, code)
		}
	}
	if back, code := impl.ReadHash(strings.Repeat("a", 32)); back != "" || code != impl.ErrForm {
		t.Errorf("ReadHash of 32 bytes = %x, %d", back, code)
	}
}

func TestWrongHashTexts(t *testing.T) {
	right := fmt.Sprintf("%x", sampleBytes(32, 5))
	for at := range len(right) {
		for c := range 256 {
			text := []byte(right)
			text[at] = byte(c)
			back, code := impl.ReadHash(string(text))
			if strings.IndexByte("0123456789abcdef", byte(c)) >= 0 {
				if fmt.Sprintf("%x", back) != string(text) || code != impl.OK {
					t.Errorf("ReadHash(%q) = %x, %d", text, back, code)
				}
			} else if back != "" || code != impl.ErrForm {
				t.Errorf("ReadHash(%q) = %x, %d", text, back, code)
			}
		}
	}
	for _, text := range []string{strings.ToUpper(right), "0x" + right[2:], right + "\n", " " + right, "0x" + right, right + "0", right[1:], right[2:]} {
		if back, code := impl.ReadHash(text); back != "" || code != impl.ErrForm {
			t.Errorf("ReadHash(%q) = %x, %d", text, back, code)
		}
	}
}

func TestLongHashes(t *testing.T) {
	for _, size := range []int{impl.MaxText + 1, 2 * impl.MaxText} {
		long := strings.Repeat("a", size)
		if text, code := impl.HashText(long); text != "" || code != impl.ErrLong {
			t.Errorf("HashText of %d bytes = %q, %d", size, text, code)
		}
		if back, code := impl.ReadHash(long); back != "" || code != impl.ErrLong {
			t.Errorf("ReadHash of %d bytes = %q, %d", size, back, code)
		}
		if signs, code := impl.HashBits(long); signs != "" || code != impl.ErrLong {
			t.Errorf("HashBits of %d bytes = %q, %d", size, signs, code)
		}
	}
}

func TestZipSumWrittenOut(t *testing.T) {
	for _, c := range []struct {
		text string
		want int
	}{
		{"", 0}, {"123456789", 0xcbf43926}, {"\x00", 0xd202ef8d}, {"\xff", 0xff000000}, {"a", 0xe8b7be43}, {"abc", 0x352441c2},
		{"\xff\xff\xff\xff", 0xffffffff}, {"\x00\x00\x00\x00", 0x2144df1c}, {strings.Repeat("a", 65536), 0xc32091ff},
	} {
		if n := impl.Check32([]byte(c.text)); n != c.want {
			t.Errorf("Check32 of %d bytes %.9q = %#x, not %#x", len(c.text), c.text, n, c.want)
		}
	}
}

func TestZipSumByLibrary(t *testing.T) {
	for c := range 256 {
		holdZipSum(t, []byte{byte(c)})
		holdZipSum(t, []byte{byte(c), 1})
		holdZipSum(t, []byte{1, byte(c), 0, 0})
	}
	for size := range 200 {
		holdZipSum(t, sampleBytes(size, size+1))
	}
	for _, size := range []int{4096, impl.MaxText - 1, impl.MaxText} {
		holdZipSum(t, sampleBytes(size, 3))
		holdZipSum(t, make([]byte, size))
	}
}

func TestPassHashWrittenOut(t *testing.T) {
	for _, c := range []struct {
		salt, word string
		rounds     int
		want       string
	}{
		{"salt", "word", 0, "86e2fd98ed5640baeb997917f5cee3cbd9e42796c9b25c776b765220b15657ee"},
		{"salt", "word", 1, "99b5bc15c49774f712fb0e331b9ea4440844af713040d2c822782026e40ef617"},
		{"salt ann", "apple", 3, "c35d99b98ab8aca5ce5f973c1cee5868680a0ba3d90cd0079d213d8cf80f0bde"},
		{"", "", 0, "6e340b9cffb37a989ca544e6bb780a2c78901d3fb33738768511a30617afa01d"},
		{"", "", 20, "b0e9680abde051a26424c95fa2f3cc935bb0917e084de96faece42c07075234b"},
		{strings.Repeat("s", 40), strings.Repeat("w", 40), 20, "97c830240916a0de22bce4dafc032dc5cc3ec91a2201f52531aeac123a7200c0"},
	} {
		h, code := impl.PassHash(c.salt, c.word, c.rounds)
		if is := fmt.Sprintf("%x", h); is != c.want || code != impl.OK {
			t.Errorf("PassHash(%q, %q, %d) = %s, %d", c.salt, c.word, c.rounds, is, code)
		}
	}
}

func TestPassHashesGoOn(t *testing.T) {
	texts := []string{"", "\x00", "a", "salt ann", "\xff\x00\xff", strings.Repeat("p", 39), strings.Repeat("q", 40), string(sampleBytes(40, 6))}
	for _, salt := range texts {
		for _, word := range texts {
			ahead := hashOf([]byte(salt + "\x00" + word))
			for rounds := 0; rounds <= 20; rounds++ {
				if rounds > 0 {
					ahead = hashOf([]byte(salt + ahead))
				}
				if h, code := impl.PassHash(salt, word, rounds); h != ahead || code != impl.OK {
					t.Errorf("PassHash(%q, %q, %d) = %x, %d", salt, word, rounds, h, code)
				}
			}
		}
	}
}

func TestPassHashesTellApart(t *testing.T) {
	seen := map[string]string{}
	for _, c := range [][2]string{{"", ""}, {"ab", "c"}, {"a", "bc"}, {"abc", ""}, {"", "abc"}, {"c", "ab"}, {"ab", "C"}, {"Ab", "c"}} {
		for _, rounds := range []int{0, 1, 3, 20} {
			h, _ := impl.PassHash(c[0], c[1], rounds)
			name := fmt.Sprintf("%q, %d rounds", c, rounds)
			if other, ok := seen[h]; ok {
				t.Errorf("%s and %s have one hash", name, other)
			}
			seen[h] = name
		}
	}
}

func TestWrongPassHashes(t *testing.T) {
	wide, long := strings.Repeat("w", 41), strings.Repeat("l", impl.MaxText+1)
	for _, c := range []struct {
		salt, word string
		rounds     int
		want       int
	}{
		{wide, "", 0, impl.ErrRange}, {"", wide, 0, impl.ErrRange}, {wide, wide, 20, impl.ErrRange},
		{long[:impl.MaxText], "", 0, impl.ErrRange}, {"", long[:impl.MaxText], 0, impl.ErrRange},
		{"", "", -1, impl.ErrRange}, {"", "", 21, impl.ErrRange}, {"s", "w", 22, impl.ErrRange}, {"s", "w", 1 << 32, impl.ErrRange},
		{"s", "w", math.MinInt, impl.ErrRange}, {"s", "w", math.MaxInt, impl.ErrRange}, {wide, wide, -1, impl.ErrRange},
		{long, "", 0, impl.ErrLong}, {"", long, 0, impl.ErrLong}, {long, long, 0, impl.ErrLong},
		{long, wide, 0, impl.ErrLong}, {wide, long, 0, impl.ErrLong}, {long, "", -1, impl.ErrLong}, {"", long, 21, impl.ErrLong},
	} {
		if h, code := impl.PassHash(c.salt, c.word, c.rounds); h != "" || code != c.want {
			t.Errorf("PassHash of %d and %d bytes, %d rounds = %x, %d", len(c.salt), len(c.word), c.rounds, h, code)
		}
	}
}

func TestSameHashes(t *testing.T) {
	for _, h := range sampleHashes() {
		if !impl.SameHash(h, strings.Clone(h)) {
			t.Errorf("SameHash(%x, %x) is false", h, h)
		}
		for bit := range 256 {
			if other := string(turned([]byte(h), bit)); impl.SameHash(h, other) || impl.SameHash(other, h) {
				t.Errorf("SameHash(%x, %x) is true", h, other)
			}
		}
		for _, other := range []string{"", h[:31], h[1:], h + "\x00", h + h, fmt.Sprintf("%x", h)} {
			if impl.SameHash(h, other) || impl.SameHash(other, h) {
				t.Errorf("SameHash(%x, %x) is true", h, other)
			}
		}
	}
}

func TestNoSameHashes(t *testing.T) {
	for _, size := range []int{0, 1, 31, 33, 63, 64, 65, 256, impl.MaxText, impl.MaxText + 1} {
		if text := strings.Repeat("h", size); impl.SameHash(text, text) {
			t.Errorf("SameHash of alike texts of %d bytes is true", size)
		}
	}
}

func hashOf(b []byte) string {
	h := sha256.Sum256(b)
	return string(h[:])
}

func holdZipSum(t *testing.T, b []byte) {
	t.Helper()
	if n, want := impl.Check32(b), int(crc32.ChecksumIEEE(b)); n != want {
		t.Errorf("Check32 of %d bytes %.9q = %#x, not %#x", len(b), b, n, want)
	}
}

// sampleHashes has each byte at some place.
func sampleHashes() []string {
	list := []string{strings.Repeat("\x00", 32), strings.Repeat("\xff", 32), "\x80\x01" + strings.Repeat("\x00", 30), strings.Repeat("a", 32)}
	for first := 0; first < 256; first += 32 {
		var h []byte
		for i := range 32 {
			h = append(h, byte(first+i))
		}
		list = append(list, string(h))
	}
	return append(list, string(sampleBytes(32, 1)), string(sampleBytes(32, 2)))
}
