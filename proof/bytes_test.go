package proof_test

import (
	"bytes"
	"math/rand/v2"
	"slices"
	"testing"

	"garderobe/api"
	"garderobe/geom"
	"garderobe/proof"
)

// some is a proof of any bytes and sums, which may be.
func some(g api.Geo, seed uint64, k int) proof.Proof {
	r, p := rand.New(rand.NewPCG(seed, 2)), proof.Proof{K: k}
	for _, x := range parts(&p) {
		x.Data = text(r.Uint64(), 256)
		for range deep(g) {
			x.Path = append(x.Path, api.Digest(text(r.Uint64(), 32)))
		}
	}
	return p
}

// long is how many bytes a proof has, by the words.
func long(g api.Geo) int { return 2 + 2*(256+32*deep(g)) }

// spells fails if a proof isn't those bytes, or those bytes aren't that proof.
func spells(t *testing.T, what string, g api.Geo, p proof.Proof, want []byte) {
	t.Helper()
	if b, e := proof.Bytes(g, p); e != api.OK || !bytes.Equal(b, want) {
		t.Errorf("%s: Bytes: error %d, % x", what, e, b)
	}
	if q, e := proof.Parse(g, want); e != api.OK || !alike(p, q) {
		t.Errorf("%s: Parse: error %d, %v", what, e, q)
	}
}

// P33.3: by the words, of what Make tells and of any bytes; there and back.
func TestBytes(t *testing.T) {
	for _, g := range plans() {
		b, _ := made(t, g)
		for k := range sealed(g) {
			p := proves(t, b, k)
			spells(t, "made", g, p, spelt(p))
			p = some(g, uint64(k), k)
			spells(t, "of any bytes", g, p, spelt(p))
		}
		if n := len(spelt(proves(t, b, 0))); n != long(g) {
			t.Error(n)
		}
	}
}

// P33.3: in all geometries that may be, with the bytes spelt for one of them.
func TestBytesGeometries(t *testing.T) {
	for pages := 1; pages <= api.MaxPages; pages++ {
		for _, tx := range []int{4, 5, 24} {
			g := api.Geo{Pages: pages, Tx: tx}
			for _, k := range []int{0, sealed(g) - 1} {
				p := some(g, uint64(pages), k)
				spells(t, "a geometry", g, p, spelt(p))
			}
		}
	}
	p, want := proof.Proof{K: 2}, make([]byte, 2+256+3*32+256+3*32)
	for i, x := range parts(&p) {
		x.Data, x.Path = make([]byte, 256), make([]api.Digest, 3)
		x.Data[0], x.Data[255] = byte(10*i+1), byte(10*i+2)
		x.Path[0][0], x.Path[0][31], x.Path[2][31] = byte(10*i+3), byte(10*i+4), byte(10*i+5)
	}
	want[0], want[2], want[257], want[258], want[289], want[353] = 2, 1, 2, 3, 4, 5
	want[354], want[609], want[610], want[641], want[705] = 11, 12, 13, 14, 15
	spells(t, "with its bytes spelt", small(), p, want)
}

// P33.3: of proofs that may not be, and of geometries that may not be.
func TestBytesRefused(t *testing.T) {
	for _, g := range plans() {
		p := some(g, 1, 2)
		for what, x := range strange(g, p) {
			if b, e := proof.Bytes(g, x); e != api.ErrArg || len(b) != 0 {
				t.Errorf("%s: error %d, %d bytes", what, e, len(b))
			}
		}
		for _, other := range geos() {
			for _, x := range []proof.Proof{p, {}, {K: -1}} {
				if b, e := proof.Bytes(other, x); e != api.ErrArg || len(b) != 0 {
					t.Errorf("%v: error %d, %d bytes", other, e, len(b))
				}
			}
		}
	}
}

// P33.3: of a geometry of other depth a proof may not be; of one that has the block, and is as deep, it may.
func TestBytesOtherGeometry(t *testing.T) {
	for _, g := range plans() {
		p := some(g, 1, 2)
		for pages := 1; pages <= api.MaxPages; pages++ {
			other := api.Geo{Pages: pages, Tx: 7}
			if deep(other) == deep(g) {
				spells(t, "as deep", other, p, spelt(p))
				continue
			}
			if b, e := proof.Bytes(other, p); e != api.ErrArg || len(b) != 0 {
				t.Errorf("%v: error %d", other, e)
			}
			parses(t, "of another depth", other, spelt(p), api.ErrForm)
		}
	}
}

// parses fails if Parse doesn't answer e, with nothing, if that is an error.
func parses(t *testing.T, what string, g api.Geo, b []byte, e api.Errno) proof.Proof {
	t.Helper()
	p, got := proof.Parse(g, b)
	if got != e || e != api.OK && !none(p) {
		t.Errorf("%s: Parse of %d bytes: error %d, not %d", what, len(b), got, e)
	}
	return p
}

// P33.3: of a geometry that may not be, whatever the bytes; of no bytes, of too few and too many, of a number that is
// none.
func TestParseRefused(t *testing.T) {
	for _, g := range plans() {
		b := spelt(some(g, 1, 2))
		for _, other := range geos() {
			for _, x := range [][]byte{b, nil, {}, b[:1], make([]byte, 514), make([]byte, 514+64*64)} {
				parses(t, "a geometry that may not be", other, x, api.ErrArg)
			}
		}
		for n := range b {
			parses(t, "too few", g, b[:n], api.ErrForm)
		}
		parses(t, "nil", g, nil, api.ErrForm)
		for _, more := range []int{1, 2, 31, 32, 64, 256, len(b), 1 << 16} {
			parses(t, "too many", g, append(bytes.Clone(b), make([]byte, more)...), api.ErrForm)
		}
		for k := range 1 << 16 {
			b[0], b[1] = byte(k), byte(k>>8)
			if k < sealed(g) {
				if p := parses(t, "a number", g, b, api.OK); p.K != k {
					t.Error(p.K, k)
				}
			} else if k < sealed(g)+300 || k%997 == 0 || k > 65500 {
				parses(t, "a number that is none", g, b, api.ErrForm)
			}
		}
	}
}

// P33.3: of any bytes: what is parsed is the proof whose bytes these are.
func TestParseAny(t *testing.T) {
	r, fine := rand.New(rand.NewPCG(1, 2)), 0
	for seed := range uint64(3000) {
		g := plans()[r.IntN(len(plans()))]
		n := long(g) + r.IntN(5)/4 - r.IntN(5)/4
		if r.IntN(10) == 0 {
			n = r.IntN(1500)
		}
		b := text(seed, n)
		if n > 1 && r.IntN(4) > 0 {
			b[0], b[1] = byte(r.IntN(sealed(g)+2)), 0
		}
		was := bytes.Clone(b)
		p, e := proof.Parse(g, b)
		may := n == long(g) && int(b[0])+int(b[1])<<8 < sealed(g)
		if may != (e == api.OK) || !may && (e != api.ErrForm || !none(p)) {
			t.Errorf("Parse of %d bytes, number %x: error %d", n, b[:2], e)
		}
		if may {
			fine++
			spells(t, "of any bytes", g, p, was)
		}
		if !bytes.Equal(b, was) {
			t.Error("changed")
		}
	}
	if fine < 500 {
		t.Error("too few", fine)
	}
}

// P33.3: Same of proofs that differ in each thing alone.
func TestSame(t *testing.T) {
	for _, g := range plans() {
		p := some(g, 5, 2)
		if !proof.Same(p, twin(p)) || !proof.Same(p, p) {
			t.Error("the same")
		}
		for what, x := range strange(g, p) {
			if proof.Same(p, x) || proof.Same(x, p) {
				t.Error(what)
			}
			if !proof.Same(x, twin(x)) {
				t.Error(what, "with itself")
			}
		}
		x := twin(p)
		x.K = 1
		unlike(t, "the number", p, x)
		for which := range 2 {
			for k := range 256 {
				x := twin(p)
				parts(&x)[which].Data[k] ^= 0x80
				unlike(t, "a byte", p, x)
			}
			for k := range deep(g) {
				for i := range 32 {
					x := twin(p)
					parts(&x)[which].Path[k][i] ^= 1
					unlike(t, "a byte of a sum", p, x)
				}
			}
			x := twin(p)
			slices.Reverse(parts(&x)[which].Path)
			unlike(t, "the order of the sums", p, x)
		}
		unlike(t, "the parts changed about", p, proof.Proof{K: p.K, Block: p.Epochs, Epochs: p.Block})
	}
	empty := proof.Proof{Block: proof.Part{Data: []byte{}, Path: []api.Digest{}}, Epochs: proof.Part{Data: []byte{}, Path: []api.Digest{}}}
	if !proof.Same(empty, proof.Proof{}) || !proof.Same(proof.Proof{}, empty) {
		t.Error("empty lists")
	}
}

// unlike fails if two proofs are the same.
func unlike(t *testing.T, what string, a, b proof.Proof) {
	t.Helper()
	if proof.Same(a, b) || proof.Same(b, a) {
		t.Error("the same, but for", what)
	}
}

// Rules 4 and 5: what is handed in is neither changed nor kept; what is answered shares memory with nothing.
func TestBytesOwn(t *testing.T) {
	g := plans()[1]
	p := some(g, 3, 7)
	was, want := twin(p), spelt(p)
	b, _ := proof.Bytes(g, p)
	for k := range b {
		b[k]++
	}
	_ = append(b, 1, 2, 3)
	if again, _ := proof.Bytes(g, p); !bytes.Equal(again, want) || !alike(p, was) {
		t.Error("Bytes")
	}
	for _, x := range parts(&p) { // room behind a proof's lists is not written into
		x.Data, x.Path = append(x.Data, text(1, 300)...)[:256], append(x.Path, make([]api.Digest, 9)...)[:deep(g)]
	}
	proof.Bytes(g, p)
	if !bytes.Equal(p.Block.Data[:556][256:], text(1, 300)) {
		t.Error("written behind a block")
	}
	room := append(bytes.Clone(want), text(2, 300)...)
	q, _ := proof.Parse(g, room[:len(want)])
	r, _ := proof.Parse(g, room[:len(want)])
	for i, x := range parts(&q) {
		spoil(x)
		_ = append(x.Data, 1, 2, 3)
		_ = append(x.Path, api.Digest{1})
		if i == 0 && (!bytes.Equal(q.Epochs.Data, was.Epochs.Data) || !slices.Equal(q.Epochs.Path, was.Epochs.Path)) {
			t.Error("the parts share memory")
		}
	}
	if !alike(r, was) || !bytes.Equal(room, append(bytes.Clone(want), text(2, 300)...)) {
		t.Error("Parse shares memory")
	}
	clear(room)
	if !alike(r, was) {
		t.Error("Parse keeps the bytes")
	}
}

// P33.3 and P33.2: what is parsed is OK just if what was made was.
func TestBytesCheck(t *testing.T) {
	for _, g := range plans() {
		b, x := made(t, g)
		root := b.T.Read().Root
		for k := range sealed(g) {
			s, _ := proof.Bytes(g, proves(t, b, k))
			checks(t, "parsed", g, root, parses(t, "made", g, s, api.OK), x.Epoch(k), api.OK)
		}
		s, _ := proof.Bytes(g, proves(t, b, 2))
		for at := 0; at < len(s); at += 3 {
			s[at] ^= 0x10
			if at >= 2 {
				checks(t, "a byte was turned", g, root, parses(t, "turned", g, s, api.OK), 0, api.ErrTampered)
			} else if p, e := proof.Parse(g, s); e == api.OK {
				checks(t, "the number was turned", g, root, p, 0, api.ErrTampered)
			}
			s[at] ^= 0x10
		}
		if geom.Leaves(g) != leaves(g) || geom.Sealed(g) != sealed(g) || geom.EpochAt(g, 0) != 1 || geom.SealedAt(g, 0) != 1+epochs(g) {
			t.Error("places")
		}
	}
}
