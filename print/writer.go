package print

import "strings"

// A writer is the text so far. What it writes may be: it is asked ahead of all.
type writer struct {
	strings.Builder
	signs  signs
	blocks int // that the next line is in
}

func newWriter() *writer { return &writer{signs: allSigns()} }

func (w *writer) put(parts ...string) {
	for _, s := range parts {
		w.WriteString(s)
	}
}

func (w *writer) begin(parts ...string) {
	for range w.blocks {
		w.WriteString("  ")
	}
	w.put(parts...)
}

func (w *writer) line(parts ...string) {
	w.begin(parts...)
	w.put("\n")
}

func (w *writer) open() {
	w.put(" {\n")
	w.blocks++
}

// shut ends a block; what is behind its } goes on in that line, or ends it.
func (w *writer) shut(behind string) {
	w.blocks--
	w.begin("}", behind)
}

func each[T any](l []T, write func(T)) {
	for _, x := range l {
		write(x)
	}
}

// row writes a list within a line.
func row[T any](w *writer, l []T, write func(T)) {
	for i, x := range l {
		if i > 0 {
			w.put(", ")
		}
		write(x)
	}
}

// block writes a list's lines as the block of what a line has begun with.
func block[T any](w *writer, l []T, write func(T)) {
	w.open()
	each(l, write)
	w.shut("\n")
}
