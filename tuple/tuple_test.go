package tuple_test

import (
	"fmt"
	"math"
	"math/rand"
	"slices"
	"strings"
	"testing"

	"almonry/api"
	"almonry/tuple"
)

// longest is the version that takes the most bytes.
var longest = api.Tuple{Xmin: 1024, Xmax: 1024, Frozen: true, Key: strings.Repeat("k", 24), Value: strings.Repeat("v", 64)}

// versions are ones at the edges of every part, in every mix.
func versions() []api.Tuple {
	var all []api.Tuple
	for _, xmin := range []int{1, 2, 255, 256, 257, 1023, 1024} {
		for _, xmax := range []int{0, 1, 255, 256, 1024} {
			for _, key := range texts(1, 2, 4, 23, 24) {
				for _, value := range texts(0, 1, 24, 25, 63, 64) {
					all = append(all, api.Tuple{Xmin: xmin, Xmax: xmax, Key: key, Value: value})
					all = append(all, api.Tuple{Xmin: xmin, Xmax: xmax, Frozen: true, Key: key, Value: value})
				}
			}
		}
	}
	return all
}

// texts has, of each length, one of a letter and one that goes through bytes of all sorts.
func texts(lengths ...int) []string {
	var all []string
	for _, n := range lengths {
		mixed := make([]byte, n)
		for i := range mixed {
			mixed[i] = byte(i * 85)
		}
		all = append(all, strings.Repeat("k", n), string(mixed))
	}
	return all
}

// notVersions are versions but for one part.
func notVersions() []api.Tuple {
	var all []api.Tuple
	for _, frozen := range []bool{false, true} {
		good := api.Tuple{Xmin: 3, Xmax: 4, Frozen: frozen, Key: "k", Value: "vv"}
		for _, x := range []int{math.MinInt, -65535, -1, 0, 1025, 1026, 65536, 65539, math.MaxInt} {
			bad := good
			bad.Xmin = x
			all = append(all, bad)
			if x != 0 {
				bad = good
				bad.Xmax = x
				all = append(all, bad)
			}
		}
		for _, n := range []int{0, 25, 26, 64, 127, 128, 152, 1000} {
			bad := good
			bad.Key = strings.Repeat("k", n)
			all = append(all, bad)
		}
		for _, n := range []int{65, 66, 127, 128, 192, 1000} {
			bad := good
			bad.Value = strings.Repeat("v", n)
			all = append(all, bad)
		}
	}
	return append(all, api.Tuple{})
}

// wrongKeys are keys of no version.
func wrongKeys() []string {
	var all []string
	for _, n := range []int{0, 25, 26, 64, 127, 128, 129, 152, 1000} {
		all = append(all, strings.Repeat("k", n))
	}
	return all
}

// bytesOf lays a version as the chapter's words say, whether it is one or not.
func bytesOf(t api.Tuple) string {
	first := byte(1)
	if t.Frozen {
		first = 3
	}
	head := []byte{first, byte(t.Xmin >> 8), byte(t.Xmin), byte(t.Xmax >> 8), byte(t.Xmax)}
	return string(head) + textOf(t.Key) + textOf(t.Value)
}

// textOf is a text behind its length in sevens.
func textOf(s string) string {
	var laid []byte
	n := len(s)
	for n >= 128 {
		laid = append(laid, byte(n%128+128))
		n /= 128
	}
	return string(append(laid, byte(n))) + s
}

func encodes(t *testing.T, v api.Tuple, want string) {
	t.Helper()
	if got, err := tuple.Encode(v); got != want || err != api.OK {
		t.Errorf("Encode(%+v): % X %v, want % X", v, got, err, want)
	}
}

func decodes(t *testing.T, item string, want api.Tuple) {
	t.Helper()
	if got, err := tuple.Decode(item); got != want || err != api.OK {
		t.Errorf("Decode(% X): %+v %v, want %+v", item, got, err, want)
	}
}

func undecodable(t *testing.T, item string) {
	t.Helper()
	if got, err := tuple.Decode(item); got != (api.Tuple{}) || err != api.ErrTuple {
		t.Errorf("Decode(% X): %+v %v, want ErrTuple", item, got, err)
	}
}

func stateIs(t *testing.T, item string, want api.State) {
	t.Helper()
	if got := tuple.State(item); got != want {
		t.Errorf("State(% X): %d, want %d", item, got, want)
	}
}

func keyIs(t *testing.T, item, want string) {
	t.Helper()
	if got, ok := tuple.Key(item); got != want || !ok {
		t.Errorf("Key(% X): %q %v, want %q", item, got, ok, want)
	}
}

func noKey(t *testing.T, item string) {
	t.Helper()
	if got, ok := tuple.Key(item); got != "" || ok {
		t.Errorf("Key(% X): %q %v, want none", item, got, ok)
	}
}

// broken asks that bytes be nothing that a slot holds.
func broken(t *testing.T, item string) {
	t.Helper()
	undecodable(t, item)
	stateIs(t, item, api.Broken)
	noKey(t, item)
}

func live(t *testing.T, item string, want api.Tuple) {
	t.Helper()
	decodes(t, item, want)
	stateIs(t, item, api.Live)
	keyIs(t, item, want.Key)
}

func dead(t *testing.T, item, key string) {
	t.Helper()
	undecodable(t, item)
	stateIs(t, item, api.Dead)
	keyIs(t, item, key)
}

func slotIs(t *testing.T, want int, items ...string) {
	t.Helper()
	if got := tuple.Slot(api.Page{Kind: api.HeapPage, Items: items}); got != want {
		t.Errorf("Slot(%q): %d, want %d", items, got, want)
	}
}

func TestExamples(t *testing.T) {
	encodes(t, api.Tuple{Xmin: 3, Key: "k", Value: "vv"}, "\x01\x00\x03\x00\x00\x01\x6B\x02\x76\x76")
	encodes(t, api.Tuple{Xmin: 3, Xmax: 300, Frozen: true, Key: "k", Value: "vv"}, "\x03\x00\x03\x01\x2C\x01\x6B\x02\x76\x76")
	if got, err := tuple.Dead("k"); got != "\x04\x01\x6B" || err != api.OK {
		t.Errorf("Dead(k): % X %v", got, err)
	}
	stateIs(t, "\x04\x01\x6B", api.Dead)
	stateIs(t, "\x05", api.Broken)
	stateIs(t, "", api.Free)
	slotIs(t, 1, "\x04\x01\x6B", "", "")
	slotIs(t, 0)
}

// P11.1

func TestEncodeLaysTheParts(t *testing.T) {
	for _, v := range versions() {
		encodes(t, v, bytesOf(v))
	}
}

func TestEncodeOfNoVersion(t *testing.T) {
	for _, v := range notVersions() {
		if got, err := tuple.Encode(v); got != "" || err != api.ErrTuple {
			t.Errorf("Encode(%+v): % X %v, want ErrTuple", v, got, err)
		}
	}
}

func TestDecodeTakesTheParts(t *testing.T) {
	for _, v := range versions() {
		decodes(t, bytesOf(v), v)
	}
}

func TestDecodeOfNoVersion(t *testing.T) {
	for _, v := range notVersions() {
		item := bytesOf(v)
		// Two bytes hold only what an id is modulo 65536, which may be an id.
		if v.Xmin>>16 == 0 && v.Xmax>>16 == 0 {
			undecodable(t, item)
		}
	}
}

// Every id that two bytes hold, in both places.
func TestIDs(t *testing.T) {
	for x := range 65536 {
		v := api.Tuple{Xmin: x, Xmax: 5, Key: "k"}
		w := api.Tuple{Xmin: 5, Xmax: x, Key: "k"}
		if x >= 1 && x <= 1024 {
			encodes(t, v, bytesOf(v))
			live(t, bytesOf(v), v)
		} else {
			broken(t, bytesOf(v))
		}
		if x <= 1024 {
			encodes(t, w, bytesOf(w))
			live(t, bytesOf(w), w)
		} else {
			broken(t, bytesOf(w))
		}
	}
}

func TestFirstByte(t *testing.T) {
	v := api.Tuple{Xmin: 3, Xmax: 4, Key: "k", Value: "vv"}
	for first := range 256 {
		item := string([]byte{byte(first)}) + bytesOf(v)[1:]
		switch first {
		case 1:
			live(t, item, v)
		case 3:
			w := v
			w.Frozen = true
			live(t, item, w)
		default:
			broken(t, item)
		}
	}
}

func TestLengths(t *testing.T) {
	for n := range 300 {
		v := api.Tuple{Xmin: 3, Key: strings.Repeat("k", n), Value: "vv"}
		w := api.Tuple{Xmin: 3, Key: "k", Value: strings.Repeat("v", n)}
		if n >= 1 && n <= 24 {
			live(t, bytesOf(v), v)
		} else {
			broken(t, bytesOf(v))
		}
		if n <= 64 {
			live(t, bytesOf(w), w)
		} else {
			broken(t, bytesOf(w))
		}
	}
}

func TestBytesTooFewOrTooMany(t *testing.T) {
	for _, v := range []api.Tuple{{Xmin: 3, Key: "k", Value: "vv"}, {Xmin: 1, Xmax: 2, Frozen: true, Key: "key"}, longest} {
		item := bytesOf(v)
		for n := 1; n < len(item); n++ {
			broken(t, item[:n])
		}
		undecodable(t, "")
		for next := range 256 {
			broken(t, item+string([]byte{byte(next)}))
		}
		broken(t, item+item)
		broken(t, item[1:])
	}
}

// A length in more sevens than it takes is not what bits.Text lays.
func TestLengthsInTooManySevens(t *testing.T) {
	head := "\x01\x00\x03\x00\x00"
	live(t, head+"\x01k\x02vv", api.Tuple{Xmin: 3, Key: "k", Value: "vv"})
	broken(t, head+"\x81\x00k\x02vv")
	broken(t, head+"\x01k\x82\x00vv")
	broken(t, head+"\x01k\x80\x00")
	broken(t, head+"\xFF\xFF\xFF\xFF\xFF\xFF\xFF\xFF\x7Fk\x02vv")
	broken(t, head+"\xFF\xFF\xFF\xFF\xFF\xFF\xFF\xFF\xFF\xFFk")
	broken(t, "\x04\x81\x00k")
	broken(t, "\x04\x80\x00")
	broken(t, "\x04\xFF\xFF\xFF\xFF\xFF\xFF\xFF\xFF\x7Fk")
}

// P11.2

func TestFree(t *testing.T) {
	if got := tuple.Free(); got != "" {
		t.Errorf("Free: % X", got)
	}
	stateIs(t, tuple.Free(), api.Free)
	noKey(t, tuple.Free())
	undecodable(t, tuple.Free())
}

func TestDead(t *testing.T) {
	for n := 1; n <= 24; n++ {
		for _, key := range texts(n) {
			want := "\x04" + textOf(key)
			if got, err := tuple.Dead(key); got != want || err != api.OK {
				t.Errorf("Dead(%q): % X %v, want % X", key, got, err, want)
			}
			dead(t, want, key)
		}
	}
}

func TestDeadOfNoKey(t *testing.T) {
	for _, key := range wrongKeys() {
		if got, err := tuple.Dead(key); got != "" || err != api.ErrTuple {
			t.Errorf("Dead(%q): % X %v, want ErrTuple", key, got, err)
		}
		broken(t, "\x04"+textOf(key))
	}
}

func TestKey(t *testing.T) {
	for _, v := range versions() {
		keyIs(t, bytesOf(v), v.Key)
		keyIs(t, "\x04"+textOf(v.Key), v.Key)
	}
	noKey(t, "")
	for _, item := range []string{"\x01", "\x03", "\x04", "\x05", "k", "\x01k", "\x04\x02k", "\x05\x01k"} {
		noKey(t, item)
	}
}

// P11.3

func TestState(t *testing.T) {
	for _, v := range versions() {
		stateIs(t, bytesOf(v), api.Live)
		stateIs(t, "\x04"+textOf(v.Key), api.Dead)
		// What stands behind a dead slot's key is too much, and so is a version behind the mark.
		stateIs(t, "\x04"+textOf(v.Key)+textOf(v.Value), api.Broken)
		stateIs(t, "\x04"+bytesOf(v)[1:], api.Broken)
	}
	stateIs(t, "", api.Free)
	for first := range 256 {
		broken(t, string([]byte{byte(first)}))
		for second := range 256 {
			broken(t, string([]byte{byte(first), byte(second)}))
		}
	}
}

func TestStateOfLongItems(t *testing.T) {
	for _, first := range []string{"", "\x00", "\x01", "\x02", "\x03", "\x04", "\x05", "\x01\x00\x03\x00\x00", "\x04\x18"} {
		for _, fill := range []string{"\x00", "\x01", "\x04", "k", "\xFF"} {
			broken(t, first+strings.Repeat(fill, 1000))
		}
	}
}

func TestDeadBytesTooFewOrTooMany(t *testing.T) {
	for n := 1; n <= 24; n++ {
		item := "\x04" + textOf(strings.Repeat("k", n))
		for m := 1; m < len(item); m++ {
			broken(t, item[:m])
		}
		for next := range 256 {
			broken(t, item+string([]byte{byte(next)}))
		}
	}
}

func TestSlot(t *testing.T) {
	whole := bytesOf(longest)
	slotIs(t, 0, "")
	slotIs(t, 0, "", whole, "")
	slotIs(t, 1, whole)
	slotIs(t, 1, whole, "")
	slotIs(t, 2, whole, "\x04\x01k")
	slotIs(t, 2, whole, "\x04\x01k", "", whole, "")
	slotIs(t, 3, "\x05", "x", "\x00")
	slotIs(t, 2, "\x00", " ", "")
	if got := tuple.Slot(api.Page{}); got != 0 {
		t.Errorf("Slot of no page: %d", got)
	}
}

func TestSlotLooksAtItemsAlone(t *testing.T) {
	for _, kind := range []int{math.MinInt, -1, 0, api.ClogPage, api.HeapPage, api.NodePage, 4, math.MaxInt} {
		p := api.Page{LSN: -1, Kind: kind, Level: 7, Right: 9, High: "h", Items: []string{"x", "y", "", "z", ""}}
		if got := tuple.Slot(p); got != 2 {
			t.Errorf("Slot of kind %d: %d", kind, got)
		}
	}
}

// The first free place, wherever it is, of as many items as a page has and of more.
func TestSlotAnywhere(t *testing.T) {
	for _, n := range []int{1, 2, 5, 255, 256, 1000} {
		for at := range n {
			items := slices.Repeat([]string{"\x04\x01k"}, n)
			slotIs(t, n, items...)
			items[at] = ""
			slotIs(t, at, items...)
			items[n-1] = ""
			slotIs(t, at, items...)
		}
	}
}

// P11.4

func TestDecodeOfEncode(t *testing.T) {
	random := rand.New(rand.NewSource(11))
	for range 20000 {
		v := api.Tuple{
			Xmin:   1 + random.Intn(1024),
			Xmax:   random.Intn(1025),
			Frozen: random.Intn(2) == 1,
			Key:    randomText(random, 1+random.Intn(24)),
			Value:  randomText(random, random.Intn(65)),
		}
		item, err := tuple.Encode(v)
		if err != api.OK {
			t.Fatalf("Encode(%+v): %v", v, err)
		}
		live(t, item, v)
	}
}

func randomText(random *rand.Rand, n int) string {
	laid := make([]byte, n)
	random.Read(laid)
	return string(laid)
}

// Bytes with faults, most of them near a version's or a dead slot's.
func TestEncodeOfDecode(t *testing.T) {
	random := rand.New(rand.NewSource(4))
	counts := map[api.State]int{}
	for range 200000 {
		item := nearly(random)
		state := tuple.State(item)
		counts[state]++
		again, key := "", ""
		switch state {
		case api.Live:
			v, err := tuple.Decode(item)
			if err != api.OK {
				t.Fatalf("State(% X) is Live, Decode: %v", item, err)
			}
			again, _ = tuple.Encode(v)
			key = v.Key
		case api.Dead:
			undecodable(t, item)
			key, _ = tuple.Key(item)
			again, _ = tuple.Dead(key)
		default:
			undecodable(t, item)
			noKey(t, item)
			continue
		}
		if again != item {
			t.Fatalf("% X, laid again: % X", item, again)
		}
		keyIs(t, item, key)
	}
	for _, state := range []api.State{api.Broken, api.Free, api.Dead, api.Live} {
		if counts[state] < 500 {
			t.Errorf("only %d items of state %d were tried", counts[state], state)
		}
	}
}

// nearly is what a slot holds, or that with some bytes changed, taken out, or put in.
func nearly(random *rand.Rand) string {
	item := []byte("\x04" + textOf(randomText(random, random.Intn(27))))
	if random.Intn(2) == 0 {
		v := api.Tuple{Xmin: random.Intn(1030), Xmax: random.Intn(1030), Frozen: random.Intn(2) == 0}
		v.Key = randomText(random, random.Intn(27))
		v.Value = randomText(random, random.Intn(68))
		item = []byte(bytesOf(v))
	}
	for range random.Intn(3) {
		at := random.Intn(len(item) + 1)
		switch {
		case random.Intn(3) == 0:
			item = slices.Insert(item, at, byte(random.Intn(6)))
		case random.Intn(20) == 0:
			item = item[:0]
		case at < len(item) && random.Intn(2) == 0:
			item = slices.Delete(item, at, at+1)
		case at < len(item):
			item[at] = byte(random.Intn(256))
		}
	}
	return string(item)
}

// No bytes are of two states, and the calls agree about each: all items of few bytes, alone and behind a version's head.
func TestStatesOfShortItems(t *testing.T) {
	letters := []byte{0, 1, 2, 3, 4, 5, 'k', 128}
	heads := []string{"", "\x01\x00\x03\x00\x00", "\x03\x04\x00\x00\x01", "\x01\x00\x00\x00\x00", "\x02\x00\x03\x00\x00"}
	for _, tail := range upTo(4, letters) {
		for _, head := range heads {
			agrees(t, head+tail)
		}
	}
}

// upTo is all texts of at most so many of the letters.
func upTo(most int, letters []byte) []string {
	all := []string{""}
	last := all
	for range most {
		var longer []string
		for _, text := range last {
			for _, c := range letters {
				longer = append(longer, text+string([]byte{c}))
			}
		}
		all = append(all, longer...)
		last = longer
	}
	return all
}

// agrees holds the calls against each other and against the chapter's words.
func agrees(t *testing.T, item string) {
	t.Helper()
	state, key := said(item)
	stateIs(t, item, state)
	if state != api.Live {
		undecodable(t, item)
	} else if _, err := tuple.Decode(item); err != api.OK {
		t.Errorf("Decode(% X): %v", item, err)
	}
	if state == api.Live || state == api.Dead {
		keyIs(t, item, key)
	} else {
		noKey(t, item)
	}
}

// said is the state of short items by a look at the bytes: lengths below 128 are one byte each.
func said(item string) (api.State, string) {
	if item == "" {
		return api.Free, ""
	}
	if item[0] == 4 && len(item) > 2 && len(item) == 2+int(item[1]) {
		return api.Dead, item[2:]
	}
	if item[0] != 1 && item[0] != 3 || len(item) < 8 {
		return api.Broken, ""
	}
	xmin, xmax := int(item[1])<<8|int(item[2]), int(item[3])<<8|int(item[4])
	behind := 6 + int(item[5])
	if xmin < 1 || xmin > 1024 || xmax > 1024 || item[5] == 0 || behind >= len(item) {
		return api.Broken, ""
	}
	if len(item) != behind+1+int(item[behind]) {
		return api.Broken, ""
	}
	return api.Live, item[6:behind]
}

func TestSizes(t *testing.T) {
	item, _ := tuple.Encode(longest)
	if len(item) != 95 {
		t.Errorf("the longest version has %d bytes", len(item))
	}
	for _, v := range versions() {
		item, _ := tuple.Encode(v)
		if want := 7 + len(v.Key) + len(v.Value); len(item) != want || want > 95 {
			t.Errorf("Encode(%+v): %d bytes, want %d", v, len(item), want)
		}
	}
}

// R2

func TestSlotWritesNothing(t *testing.T) {
	items := []string{"x", "", "y", "behind"}
	before := slices.Clone(items)
	slotIs(t, 1, items[:3]...)
	slotIs(t, 1, items[:1]...)
	if !slices.Equal(items, before) {
		t.Errorf("items are %q, were %q", items, before)
	}
}

// R3

func TestAnswersDoNotHangOnEarlierCalls(t *testing.T) {
	ask := func() string {
		item, _ := tuple.Encode(longest)
		v, err := tuple.Decode(item)
		gone, _ := tuple.Dead("k")
		key, ok := tuple.Key(item)
		return fmt.Sprint(item, v, err, gone, key, ok, tuple.State(item), tuple.State(gone), tuple.Free())
	}
	first := ask()
	for _, v := range notVersions() {
		tuple.Encode(v)
		tuple.Decode(bytesOf(v))
		tuple.Dead(v.Key)
	}
	if again := ask(); again != first {
		t.Errorf("%q, then %q", first, again)
	}
}
