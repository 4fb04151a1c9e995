package path_test

import (
	"strings"
	"testing"

	"apostille/path"
)

// P21.1
func TestIs(t *testing.T) {
	for _, s := range []string{
		"a", "z", "0", "9", "-", "_", "a/b", "a/b/c", ".a", "a.", "...", "..a", "a/...", "-/_", "0.9-x_y",
		strings.Repeat("a", 20), strings.Repeat("a", 20) + "/" + strings.Repeat("b", 11),
		strings.Repeat("a/", 15) + "bb",
	} {
		if !path.Is(s) || !path.All(s) {
			t.Errorf("%q", s)
		}
	}
	for _, s := range []string{
		"", "/", "a/", "/a", "a//b", ".", "..", "./a", "a/.", "a/../b", "../a", "a/..", "A", "aB", "a b", "a\\b", "a:b", "é", "a\x00", "`", "{", "\xff", "a,b", "a+b",
		strings.Repeat("a", 21), "a/" + strings.Repeat("b", 21), strings.Repeat("a", 20) + "/" + strings.Repeat("b", 12),
		strings.Repeat("a/", 16) + "b", strings.Repeat("a", 1000000),
	} {
		if path.Is(s) || path.All(s) || path.All("x", s) {
			t.Errorf("%.40q", s)
		}
	}
}

// P21.1
func TestAll(t *testing.T) {
	for i, c := range []struct {
		l    []string
		want bool
	}{
		{nil, true},
		{[]string{"a", "b"}, true},
		{[]string{"a", "a"}, false},
		{[]string{"a", "b", "c", "a"}, false},
		{[]string{"a", "a/b"}, false},
		{[]string{"a/b", "a"}, false},
		{[]string{"a/b", "a/b/c/d"}, false},
		{[]string{"a", "a-b", "a.b", "a/b"}, false},
		{[]string{"a-b", "a/b", "ab", "a.b"}, true},
		{[]string{"a/b", "a/c", "b/a"}, true},
		{[]string{"a/b", "b"}, true},
		{[]string{"a", ""}, false},
		{[]string{"a", "b/.."}, false},
	} {
		if path.All(c.l...) != c.want {
			t.Error(i, c.l)
		}
	}
}

// P21.2: walked part by part, no path leaves where it is, and none goes through another one's file.
func TestNoWayOut(t *testing.T) {
	parts := []string{"a", "b", ".", "..", "", "..."}
	var paths []string
	for _, x := range parts {
		paths = append(paths, x)
		for _, y := range parts {
			paths = append(paths, x+"/"+y)
			for _, z := range parts {
				paths = append(paths, x+"/"+y+"/"+z)
			}
		}
	}
	for _, p := range paths {
		if !path.Is(p) {
			continue
		}
		for _, part := range strings.Split(p, "/") {
			if part == "" || part == "." || part == ".." {
				t.Errorf("%q", p)
			}
		}
		for _, q := range paths {
			through := p == q || strings.HasPrefix(q, p+"/") || strings.HasPrefix(p, q+"/")
			if path.Is(q) && path.All(p, q) == through {
				t.Errorf("%q %q", p, q)
			}
		}
	}
}
