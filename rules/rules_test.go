// Package rules holds the program's text to what the document and its language ask of every layer.
package rules

import (
	"bytes"
	"go/ast"
	"go/format"
	"go/parser"
	"go/token"
	"os"
	"path/filepath"
	"slices"
	"strconv"
	"strings"
	"testing"
)

const (
	module    = "ingot"
	mostLines = 60 // of a function
)

// library lists the library's packages that the program may import.
var library = strings.Fields("bytes cmp container/heap errors iter maps math math/bits slices sort strconv strings sync sync/atomic unicode unicode/utf8")

// calls says which layers each layer may call, beside api.
var calls = map[string]string{
	"api":     "",
	"octet":   "",
	"hash":    "",
	"mac":     "hash",
	"frame":   "",
	"disk":    "",
	"wal":     "octet frame disk",
	"tree":    "",
	"store":   "octet disk wal tree",
	"names":   "",
	"patch":   "octet hash names",
	"lines":   "",
	"deps":    "",
	"channel": "hash patch lines",
	"pool":    "hash names patch deps channel",
	"people":  "names",
	"token":   "hash mac",
	"acl":     "names",
	"quota":   "",
	"audit":   "octet hash",
	"review":  "",
	"queue":   "",
	"fields":  "",
	"request": "",
	"reply":   "",
	"route":   "names fields request",
	"forge":   "hash names patch lines deps channel pool people token acl quota audit review queue fields",
	"server":  "octet disk store request reply route forge",
	"script":  "octet hash disk server",
}

// source is a file of the program, no test.
type source struct {
	path  string
	layer string
	text  []byte
	set   *token.FileSet
	file  *ast.File
}

// sources reads all files of the program; those of sharedtests are laid beside it only while it is tested.
func sources(t *testing.T) []source {
	t.Helper()
	paths, err := filepath.Glob("../*/*.go")
	if err != nil {
		t.Fatal(err)
	}
	var out []source
	for _, path := range paths {
		layer := filepath.Base(filepath.Dir(path))
		if strings.HasSuffix(path, "_test.go") || layer == "sharedtests" {
			continue
		}
		text, err := os.ReadFile(path)
		if err != nil {
			t.Fatal(err)
		}
		set := token.NewFileSet()
		file, err := parser.ParseFile(set, path, text, parser.ParseComments)
		if err != nil {
			t.Fatal(err)
		}
		out = append(out, source{path, layer, text, set, file})
	}
	return out
}

func TestAllLayersAreThere(t *testing.T) {
	there := map[string]bool{}
	for _, s := range sources(t) {
		there[s.layer] = true
	}
	for layer := range calls {
		if !there[layer] {
			t.Error("no package", layer)
		}
	}
}

func mayImport(layer, path string) bool {
	below, ours := strings.CutPrefix(path, module+"/")
	if !ours {
		return slices.Contains(library, path)
	}
	allowed, given := calls[layer]
	_, isLayer := calls[below]
	return !given || !isLayer || below == "api" || slices.Contains(strings.Fields(allowed), below)
}

func TestImports(t *testing.T) {
	for _, s := range sources(t) {
		for _, i := range s.file.Imports {
			path, err := strconv.Unquote(i.Path.Value)
			if err != nil || !mayImport(s.layer, path) {
				t.Error(s.path, "imports", i.Path.Value)
			}
		}
	}
}

func TestLayout(t *testing.T) {
	for _, s := range sources(t) {
		if laid, err := format.Source(s.text); err != nil || !bytes.Equal(laid, s.text) {
			t.Error(s.path, "is not laid out as gofmt does it", err)
		}
		for _, group := range s.file.Comments {
			for _, c := range group.List {
				if strings.HasPrefix(c.Text, "//go:") || strings.HasPrefix(c.Text, "// +build") {
					t.Error(s.path, "has the line", c.Text)
				}
			}
		}
	}
}

func TestFunctionsAreShort(t *testing.T) {
	for _, s := range sources(t) {
		for _, d := range s.file.Decls {
			f, ok := d.(*ast.FuncDecl)
			if !ok {
				continue
			}
			n := s.set.Position(f.End()).Line - s.set.Position(f.Pos()).Line + 1
			if n > mostLines {
				t.Error(s.path, f.Name.Name, "has", n, "lines")
			}
		}
	}
}
