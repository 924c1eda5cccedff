package witness

import (
	"slices"

	"lithophane/api"
	"lithophane/exact"
	"lithophane/mesh"
	"lithophane/wide"
)

// simplification is what is to be checked: that moves make coarse of fine.
type simplification struct {
	fine, coarse surface
	moves        []api.Move
	images       map[api.Point]api.Point // where the moves lead
	bound        int                     // is known behind the last step
}

func newSimplification(fine, coarse []api.Tri, moves []api.Move) *simplification {
	s := &simplification{fine: newSurface(fine), coarse: newSurface(coarse), moves: moves, images: map[api.Point]api.Point{}}
	for _, m := range moves {
		s.images[m.From] = m.To
	}
	return s
}

// steps returns the steps of the check. Each may rely on what those before it have
// found to be right.
func (s *simplification) steps() []func() api.Errno {
	return []func() api.Errno{s.checkSurfaces, s.checkBorder, s.checkMoves, s.checkCover, s.checkBound}
}

func (s *simplification) checkSurfaces() api.Errno {
	if err := mesh.CheckOpen(s.fine.triangles); err != api.OK {
		return err
	}
	return mesh.CheckOpen(s.coarse.triangles)
}

// checkBorder finds whether coarse can take the place of fine within a surface.
func (s *simplification) checkBorder() api.Errno {
	if !slices.Equal(s.fine.border, s.coarse.border) || s.joinsBorderAnew() || s.leadsFansElsewhere() {
		return api.ErrBorder
	}
	return api.OK
}

// joinsBorderAnew reports whether coarse joins two border corners that fine does not.
func (s *simplification) joinsBorderAnew() bool {
	for e := range s.coarse.third {
		if s.coarse.isBorder[e.from] && s.coarse.isBorder[e.to] && !s.fine.joins(e) {
			return true
		}
	}
	return false
}

// leadsFansElsewhere reports whether two fans with the same beginning end differently.
func (s *simplification) leadsFansElsewhere() bool {
	return slices.ContainsFunc(s.fine.border, func(ends [2]api.Point) bool {
		start := edge{ends[0], ends[1]}
		return s.fine.endOfFan(start) != s.coarse.endOfFan(start)
	})
}

func (s *simplification) checkMoves() api.Errno {
	for i, m := range s.moves {
		isInOrder := i == 0 || exact.Less(s.moves[i-1].From, m.From)
		if !isInOrder || !s.mayLeave(m.From) || !s.mayReach(m.To) {
			return api.ErrMove
		}
	}
	return api.OK
}

// mayLeave reports whether a move may begin at p.
func (s *simplification) mayLeave(p api.Point) bool {
	return s.fine.hasCorner(p) && !s.fine.isBorder[p]
}

// mayReach reports whether a move may end at p.
func (s *simplification) mayReach(p api.Point) bool {
	_, isMoved := s.images[p]
	return !isMoved && s.fine.hasCorner(p) && s.coarse.hasCorner(p)
}

// checkCover takes the images of triangles away from those of coarse, of which each
// is found once, and the last one too.
func (s *simplification) checkCover() api.Errno {
	uncovered := make(map[api.Tri]bool, len(s.coarse.triangles))
	for _, t := range s.coarse.triangles {
		uncovered[mesh.Rotate(t)] = true
	}
	for _, t := range s.fine.triangles {
		image := mesh.Rotate(s.imageOfTriangle(t))
		switch {
		case hasEqualCorners(image):
			if !s.isInTriangle(image) {
				return api.ErrCover
			}
		case !uncovered[image]:
			return api.ErrCover
		default:
			delete(uncovered, image)
		}
	}
	if len(uncovered) > 0 {
		return api.ErrCover
	}
	return api.OK
}

func (s *simplification) imageOf(p api.Point) api.Point {
	if to, isMoved := s.images[p]; isMoved {
		return to
	}
	return p
}

func (s *simplification) imageOfTriangle(t api.Tri) api.Tri {
	return api.Tri{s.imageOf(t[0]), s.imageOf(t[1]), s.imageOf(t[2])}
}

// isInTriangle reports whether the corners of an image, of which two are equal, are
// corners of one triangle of coarse.
func (s *simplification) isInTriangle(image api.Tri) bool {
	for _, e := range edgesOf(image) {
		if e.from != e.to && !s.coarse.joins(e) {
			return false
		}
	}
	return s.coarse.hasCorner(image[0])
}

// checkBound finds the bound: the greatest distance of a move, rounded up.
func (s *simplification) checkBound() api.Errno {
	farthest := wide.From(0)
	for _, m := range s.moves {
		if square := exact.Dist2(m.From, m.To); wide.Cmp(square, farthest) > 0 {
			farthest = square
		}
	}
	bound, fits := wide.Int(rootRoundedUp(farthest))
	if !fits {
		return api.ErrRange
	}
	s.bound = bound
	return api.OK
}

// rootRoundedUp returns the least integer whose square is not less than a.
func rootRoundedUp(a api.Wide) api.Wide {
	root, _ := wide.Root(a)
	if wide.Cmp(wide.Mul(root, root), a) < 0 {
		return wide.Add(root, wide.From(1))
	}
	return root
}
