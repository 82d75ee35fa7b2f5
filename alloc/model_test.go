package alloc_test

import (
	"bytes"
	"encoding/binary"
	"fmt"
	"slices"

	"garderobe/alloc"
	"garderobe/api"
	"garderobe/handle"
)

const (
	maxSerial = 281474976710655 // 2^48 - 1
	wide      = 256             // bytes of a page
)

// Kinds of pages, by their numbers.
const (
	free  = 0
	slots = 1
	head  = 2
	tail  = 3
)

// sizes are the classes', by the words.
var sizes = []int{8, 16, 24, 32, 48, 64, 96, 120}

// classOf is the class of n bytes; -1: they are great.
func classOf(n int) int { return slices.IndexFunc(sizes, func(most int) bool { return n <= most }) }

// runOf is how many pages n bytes take.
func runOf(n int) int { return (n + wide - 1) / wide }

// object is one, or none.
type object struct {
	serial uint64
	data   []byte
}

// page is one of the model: of slots, or the first one of a great object, or another one.
type page struct {
	kind, class int
	slots       []object
	great       object
}

// event is a block that is got, or put.
type event struct {
	k     int
	put   bool
	slots bool // it is got as a page of slots
}

// model is the objects by the words, and the blocks as they are to be.
type model struct {
	next   uint64
	roots  [16]handle.Handle
	pages  []page
	blocks [][]byte
	events []event // of the call under way
}

// blank is a heap of n pages, as behind a Format.
func blank(n int) *model {
	m := &model{next: 1, pages: make([]page, n)}
	for range m.pageAt(n) {
		m.blocks = append(m.blocks, make([]byte, wide))
	}
	return m
}

// maps is how many blocks tell what pages are.
func (m *model) maps() int { return (len(m.pages) + 15) / 16 }

// pageAt is the sealed block of a page.
func (m *model) pageAt(p int) int { return 1 + m.maps() + p }

// copy is a model that stands alike, without events.
func (m *model) copy() *model {
	o := &model{next: m.next, roots: m.roots, pages: slices.Clone(m.pages), blocks: slices.Clone(m.blocks)}
	for k := range o.pages {
		o.pages[k].slots = slices.Clone(o.pages[k].slots)
	}
	return o
}

// get notes that a block is got.
func (m *model) get(k int) { m.events = append(m.events, event{k: k}) }

// slotsAt notes that a page is got, as one of slots.
func (m *model) slotsAt(p int) { m.events = append(m.events, event{k: m.pageAt(p), slots: true}) }

// put notes that a block is put.
func (m *model) put(k int, data []byte) {
	m.events = append(m.events, event{k: k, put: true})
	m.blocks[k] = data
}

// name is the number of a handle.
func name(p, s int, serial uint64) handle.Handle {
	return handle.Handle(uint64(p)<<56 | uint64(s)<<48 | serial)
}

// shown is a page of slots, or a block of a great object, as bytes.
func (m *model) shown(p, k int) []byte {
	var b []byte
	switch x := m.pages[p]; x.kind {
	case slots:
		for _, o := range x.slots {
			b = binary.LittleEndian.AppendUint64(b, uint64(len(o.data))|o.serial<<16)
			b = append(append(b, o.data...), make([]byte, sizes[x.class]-len(o.data))...)
		}
	case head:
		b = x.great.data[wide*k : min(wide*(k+1), len(x.great.data))]
	}
	return append(bytes.Clone(b), make([]byte, wide-len(b))...)
}

// headBlock is the block of the next serial and the roots.
func (m *model) headBlock() []byte {
	b := binary.LittleEndian.AppendUint64(nil, m.next)
	for _, h := range m.roots {
		b = binary.LittleEndian.AppendUint64(b, uint64(h))
	}
	return append(b, make([]byte, wide-len(b))...)
}

// mapBlock is the block of sixteen pages.
func (m *model) mapBlock(k int) []byte {
	b := make([]byte, wide)
	for i := range min(16, len(m.pages)-16*k) {
		x, at := m.pages[16*k+i], b[16*i:]
		at[0] = byte(x.kind)
		switch x.kind {
		case slots:
			at[1] = byte(x.class)
		case head:
			binary.LittleEndian.PutUint16(at[2:], uint16(runOf(len(x.great.data))))
			binary.LittleEndian.PutUint32(at[4:], uint32(len(x.great.data)))
			binary.LittleEndian.PutUint64(at[8:], x.great.serial)
		}
	}
	return b
}

// save is what Save of layer 22 gets and puts.
func (m *model) save() {
	l := [][]byte{m.headBlock()}
	for k := range m.maps() {
		l = append(l, m.mapBlock(k))
	}
	for k, data := range l {
		m.get(k)
		if !bytes.Equal(m.blocks[k], data) {
			m.put(k, data)
		}
	}
}

// find is where a handle's object is; nil: it is nobody's.
func (m *model) find(h handle.Handle) (p, s int, o *object) {
	p, s = int(h>>56), int(h>>48&255)
	serial := uint64(h & maxSerial)
	if serial == 0 || p > 63 || s > 15 || p >= len(m.pages) {
		return 0, 0, nil
	}
	switch x := &m.pages[p]; x.kind {
	case slots:
		m.slotsAt(p)
		if s < len(x.slots) && x.slots[s].data != nil && x.slots[s].serial == serial {
			return p, s, &x.slots[s]
		}
	case head:
		if s == 0 && x.great.serial == serial {
			return p, 0, &x.great
		}
	}
	return 0, 0, nil
}

// making makes an object of n bytes, which begins with from.
func (m *model) making(n int, from []byte) (handle.Handle, api.Errno) {
	if m.next > maxSerial {
		return 0, api.ErrExhausted
	}
	o := object{m.next, append(bytes.Clone(from), make([]byte, n-len(from))...)}
	m.next++
	if c := classOf(n); c >= 0 {
		return m.makingSmall(c, o)
	}
	for p := 0; p+runOf(n) <= len(m.pages); p++ {
		if slices.ContainsFunc(m.pages[p:p+runOf(n)], func(x page) bool { return x.kind != free }) {
			continue
		}
		m.pages[p] = page{kind: head, great: o}
		for k := 1; k < runOf(n); k++ {
			m.pages[p+k] = page{kind: tail}
		}
		for k := range runOf(len(from)) {
			m.get(m.pageAt(p + k))
			m.put(m.pageAt(p+k), m.shown(p, k))
		}
		return name(p, 0, o.serial), api.OK
	}
	return 0, api.ErrNoSpace
}

// makingSmall puts an object into the first slot that is free.
func (m *model) makingSmall(c int, o object) (handle.Handle, api.Errno) {
	for p, x := range m.pages {
		if x.kind != slots || x.class != c {
			continue
		}
		m.slotsAt(p)
		for s := range x.slots {
			if x.slots[s].data == nil {
				x.slots[s] = o
				m.put(m.pageAt(p), m.shown(p, 0))
				return name(p, s, o.serial), api.OK
			}
		}
	}
	for p, x := range m.pages {
		if x.kind == free {
			m.slotsAt(p)
			m.pages[p] = page{kind: slots, class: c, slots: make([]object, wide/(sizes[c]+8))}
			m.pages[p].slots[0] = o
			m.put(m.pageAt(p), m.shown(p, 0))
			return name(p, 0, o.serial), api.OK
		}
	}
	return 0, api.ErrNoSpace
}

// freeing takes an object away; roots that were it are to.
func (m *model) freeing(h, to handle.Handle) api.Errno {
	p, s, o := m.find(h)
	if o == nil {
		return api.ErrHandle
	}
	for k := range m.roots {
		if m.roots[k] == h {
			m.roots[k] = to
		}
	}
	if m.pages[p].kind == slots {
		m.pages[p].slots[s] = object{}
		if !slices.ContainsFunc(m.pages[p].slots, func(o object) bool { return o.data != nil }) {
			m.pages[p] = page{}
		}
		m.put(m.pageAt(p), m.shown(p, 0))
		return api.OK
	}
	for k := range runOf(len(o.data)) {
		m.put(m.pageAt(p+k), make([]byte, wide))
		m.pages[p+k] = page{}
	}
	return api.OK
}

// realloc makes an object longer, or shorter.
func (m *model) realloc(h handle.Handle, n int) (handle.Handle, api.Errno) {
	p, _, o := m.find(h)
	if o == nil {
		return 0, api.ErrHandle
	}
	if n < 1 || n > 4096 {
		return 0, api.ErrSize
	}
	was := bytes.Clone(o.data)
	first := was[:min(n, len(was))]
	small := m.pages[p].kind == slots
	if small && classOf(n) == m.pages[p].class || !small && classOf(n) < 0 && runOf(n) == runOf(len(was)) {
		o.data = append(bytes.Clone(first), make([]byte, n-len(first))...)
		if last := runOf(n) - 1; small || n < len(was) {
			if !small {
				m.get(m.pageAt(p + last))
			}
			m.put(m.pageAt(p+last), m.shown(p, last))
		}
		return h, api.OK
	}
	for k := range runOf(len(was)) {
		if !small {
			m.get(m.pageAt(p + k))
		}
	}
	to, e := m.making(n, first)
	if e != api.OK {
		return 0, e
	}
	return to, m.freeing(h, to)
}

// bounds fails if n bytes from at on are not all an object's.
func bounds(o *object, at, n int) api.Errno {
	switch {
	case o == nil:
		return api.ErrHandle
	case at < 0 || n < 0 || at > len(o.data) || n > len(o.data)-at:
		return api.ErrRange
	}
	return api.OK
}

// read is bytes of an object.
func (m *model) read(h handle.Handle, at, n int) (string, api.Errno) {
	p, _, o := m.find(h)
	if e := bounds(o, at, n); e != api.OK {
		return "", e
	}
	for k := range runOf(len(o.data)) {
		if m.pages[p].kind == head {
			m.get(m.pageAt(p + k))
		}
	}
	return string(o.data[at : at+n]), api.OK
}

// write puts bytes into an object.
func (m *model) write(h handle.Handle, at int, b []byte) api.Errno {
	p, _, o := m.find(h)
	if e := bounds(o, at, len(b)); e != api.OK || len(b) == 0 {
		return e
	}
	o.data = bytes.Clone(o.data)
	copy(o.data[at:], b)
	if m.pages[p].kind == slots {
		m.put(m.pageAt(p), m.shown(p, 0))
		return api.OK
	}
	for k := at / wide; k <= (at+len(b)-1)/wide; k++ {
		m.get(m.pageAt(p + k))
		m.put(m.pageAt(p+k), m.shown(p, k))
	}
	return api.OK
}

// set makes an object a root.
func (m *model) set(k int, h handle.Handle) api.Errno {
	if k < 0 || k > 15 {
		return api.ErrArg
	}
	if h != 0 {
		if _, _, o := m.find(h); o == nil {
			return api.ErrHandle
		}
	}
	m.roots[k] = h
	return api.OK
}

// walk is all objects, and how things stand.
func (m *model) walk() (l []alloc.Item, st alloc.Stat) {
	add := func(p, s int, o object) {
		l = append(l, alloc.Item{H: name(p, s, o.serial), N: len(o.data)})
		st.Objects++
		st.Bytes += len(o.data)
	}
	for p, x := range m.pages {
		switch x.kind {
		case free:
			st.Free++
		case slots:
			st.Slots++
			m.slotsAt(p)
			for s, o := range x.slots {
				if o.data != nil {
					add(p, s, o)
				}
			}
		case head:
			add(p, 0, x.great)
			st.Great += runOf(len(x.great.data))
		}
	}
	return l, st
}

// call is one of an Alloc, or of a model.
type call struct {
	kind string
	h    handle.Handle
	k    int
	n    int
	at   int
	b    []byte
}

func (c call) String() string {
	return fmt.Sprintf("%s(%016x, k %d, n %d, at %d, %d bytes)", c.kind, uint64(c.h), c.k, c.n, c.at, len(c.b))
}

// answer is all that a call answers.
type answer struct {
	h     handle.Handle
	n     int
	b     string
	items string
	stat  alloc.Stat
	e     api.Errno
}

// changes tells whether a call is one that changes something.
func (c call) changes() bool {
	return slices.Contains([]string{"Alloc", "Free", "Realloc", "Write", "Set"}, c.kind)
}

// on does the call.
func (c call) on(a *alloc.Alloc) (out answer) {
	switch c.kind {
	case "Alloc":
		out.h, out.e = a.Alloc(c.n)
	case "Free":
		out.e = a.Free(c.h)
	case "Realloc":
		out.h, out.e = a.Realloc(c.h, c.n)
	case "Write":
		out.e = a.Write(c.h, c.at, c.b)
	case "Set":
		out.e = a.Set(c.k, c.h)
	case "Read":
		var b []byte
		b, out.e = a.Read(c.h, c.at, c.n)
		out.b = string(b)
	case "Size":
		out.n, out.e = a.Size(c.h)
	case "Root":
		out.h, out.e = a.Root(c.k)
	case "Walk":
		var l []alloc.Item
		l, out.e = a.Walk()
		out.items = fmt.Sprint(l)
	case "Stat":
		out.stat, out.e = a.Stat()
	}
	return out
}

// by is what the call answers by the words, how all stands then, and what is got and put.
func (c call) by(was *model) (answer, *model, []event) {
	m, out := was.copy(), answer{}
	switch c.kind {
	case "Alloc":
		if out.e = api.ErrSize; c.n >= 1 && c.n <= 4096 {
			out.h, out.e = m.making(c.n, nil)
		}
	case "Free":
		out.e = m.freeing(c.h, 0)
	case "Realloc":
		out.h, out.e = m.realloc(c.h, c.n)
	case "Write":
		out.e = m.write(c.h, c.at, c.b)
	case "Set":
		out.e = m.set(c.k, c.h)
	case "Read":
		out.b, out.e = m.read(c.h, c.at, c.n)
	case "Size":
		if _, _, o := m.find(c.h); o != nil {
			out.n = len(o.data)
		} else {
			out.e = api.ErrHandle
		}
	case "Root":
		if out.e = api.ErrArg; c.k >= 0 && c.k <= 15 {
			out.h, out.e = m.roots[c.k], api.OK
		}
	case "Walk":
		l, _ := m.walk()
		out.items = fmt.Sprint(l)
	case "Stat":
		_, out.stat = m.walk()
	}
	if out.e != api.OK {
		return answer{e: out.e, items: none(c)}, was, m.events
	}
	if c.changes() {
		m.save()
	}
	return out, m, m.events
}

// none is how no objects are told.
func none(c call) string {
	if c.kind == "Walk" {
		return fmt.Sprint([]alloc.Item(nil))
	}
	return ""
}

// objects are the handles of all objects of a model.
func (m *model) objects() []handle.Handle {
	l, _ := m.copy().walk()
	var out []handle.Handle
	for _, x := range l {
		out = append(out, x.H)
	}
	return out
}

// settle makes the blocks those of how all stands.
func (m *model) settle() *model {
	m.blocks = [][]byte{m.headBlock()}
	for k := range m.maps() {
		m.blocks = append(m.blocks, m.mapBlock(k))
	}
	for range m.pages {
		m.blocks = append(m.blocks, make([]byte, wide))
	}
	for p, x := range m.pages {
		switch x.kind {
		case slots:
			m.blocks[m.pageAt(p)] = m.shown(p, 0)
		case head:
			for k := range runOf(len(x.great.data)) {
				m.blocks[m.pageAt(p+k)] = m.shown(p, k)
			}
		}
	}
	return m
}

// with is a model of n pages behind calls that are OK.
func with(n int, calls ...call) *model {
	m := blank(n)
	for _, c := range calls {
		var out answer
		if out, m, _ = c.by(m); out.e != api.OK {
			panic(c.String())
		}
	}
	return m
}
