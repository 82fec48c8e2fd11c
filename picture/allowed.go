package picture

import (
	"strings"

	"ironbark/api"
)

// Letters of symbols that the rules name together.
const (
	signs        = "S+-"
	drifting     = signs + "$" // where they occur twice and more
	suppressings = "Z*"
	insertions   = ".,/B"
	characters   = "AX"
)

// demandAllowed refuses symbols that the rules do not allow together. No single one of them is wrong, so the place is the beginning.
func demandAllowed(r row) {
	if len(r) > maxSymbols || !r.isOfCharacters() && !shapeOf(r).isAllowed() {
		refuseAt(0)
	}
}

// isAllowed reports whether the rules of numeric pictures are kept.
func (s shape) isAllowed() bool {
	return s.areCountsRight() && s.isRunRight() && s.areStaticsRight() && s.isSuppressingRight()
}

// areCountsRight asks how many symbols there are, and which ones beside each other.
func (s shape) areCountsRight() bool {
	digits := s.digitsFrom(0)
	few := s.counts[point] <= 1 && s.counts[credit] <= 1 && s.counts[character] == 0
	alike := s.different(signs) <= 1 && s.different(suppressings) <= 1
	return digits >= 1 && digits <= api.MaxDec && few && alike && (s.counts[credit] == 0 || s.counts[sign] == 0)
}

// isRunRight asks what stands beside the drifting run, within it and ahead of it.
func (s shape) isRunRight() bool {
	runs := s.runs()
	if len(runs) == 0 {
		return true
	}
	within, ahead := string(s.row[s.run.first:s.run.last+1]), string(s.row[:s.run.first])
	alone := len(runs) == 1 && s.counts[suppressing] == 0
	return alone && strings.Trim(within, within[:1]+insertions) == "" && !strings.ContainsAny(ahead, "9V")
}

// areStaticsRight asks whether what does not drift stands on the right side of the digits.
func (s shape) areStaticsRight() bool {
	all := s.digitsFrom(0)
	for at := range len(s.row) {
		later := s.digitsFrom(at)
		switch s.symbol(at).kind {
		case sign, currency:
			if !s.run.has(at) && later != 0 && later != all {
				return false
			}
		case credit:
			if later != 0 {
				return false
			}
		}
	}
	return true
}

// isSuppressingRight asks where Z and * stand. Behind V they go with no other digit symbol; of each other and of a run that was asked already.
func (s shape) isSuppressingRight() bool {
	ahead, behind := string(s.row[:s.point]), string(s.row[s.point:])
	_, late, _ := strings.Cut(ahead, "9")
	return !strings.ContainsAny(late, suppressings) && (!strings.ContainsAny(behind, suppressings) || s.counts[nine] == 0)
}

// different is how many of some letters there are.
func (r row) different(some string) int {
	n := 0
	for _, letter := range []byte(some) {
		if strings.IndexByte(string(r), letter) >= 0 {
			n++
		}
	}
	return n
}
