package image

import (
	"slices"

	"venturi/api"
)

// Differ returns 1 for the pixels that count and differ by at least so much in two images, 0 for the others; ErrImage, ErrSize, ErrRange unless least is from 1 to MaxBright.
func Differ(a, b, mask api.Image, least int) (api.Image, api.Errno) {
	if e := alike(a, b, mask); e != api.OK {
		return api.Image{}, e
	}
	if least < 1 || least > api.MaxBright {
		return api.Image{}, api.ErrRange
	}
	differ := dark(a.Width, a.Height)
	for i, p := range a.Pixels {
		q := b.Pixels[i]
		if mask.Pixels[i] != 0 && max(p-q, q-p) >= least {
			differ.Pixels[i] = 1
		}
	}
	return differ, api.OK
}

// Regions returns the regions of an image in the order of their first pixels; ErrImage.
func Regions(im api.Image) ([]api.Region, api.Errno) {
	if e := Check(im); e != api.OK {
		return nil, e
	}
	left := api.Image{Width: im.Width, Height: im.Height, Pixels: slices.Clone(im.Pixels)}
	var regions []api.Region
	for y := range left.Height {
		for x := range left.Width {
			p := place{x, y}
			if takePixel(left, p) {
				regions = append(regions, takeRegion(left, p))
			}
		}
	}
	return regions, api.OK
}

// takePixel sets a pixel to 0 if it is in the image, and reports whether it was another number.
func takePixel(im api.Image, p place) bool {
	i, in := p.in(im.Width, im.Height)
	if !in || im.Pixels[i] == 0 {
		return false
	}
	im.Pixels[i] = 0
	return true
}

// takeRegion takes all pixels to which one can go from one that was taken, and returns the region of all of them.
func takeRegion(im api.Image, first place) api.Region {
	region := api.Region{Left: first.x, Top: first.y, Right: first.x, Bottom: first.y}
	taken := []place{first}
	for region.Size < len(taken) {
		p := taken[region.Size]
		region.Size++
		region.Left, region.Right = min(region.Left, p.x), max(region.Right, p.x)
		region.Top, region.Bottom = min(region.Top, p.y), max(region.Bottom, p.y)
		for _, step := range [4]place{{-1, 0}, {1, 0}, {0, -1}, {0, 1}} {
			if next := p.plus(step); takePixel(im, next) {
				taken = append(taken, next)
			}
		}
	}
	return region
}
