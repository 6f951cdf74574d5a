package negot

import (
	"halyard/api"
	"halyard/ipcppol"
	"halyard/lcppol"
)

// policy is what a side does with its policy, of whichever kind that is.
type policy interface {
	Request() []api.Opt
	Judge(l ...api.Opt) (code uint8, answer []api.Opt)
	Acked(l ...api.Opt) bool
	Rejected(l ...api.Opt) bool
	// naked reports whether this is a Nak, and goes by it; the draw is a magic
	// number if one is wanted, and so it is for renew.
	naked(draw uint32, l ...api.Opt) bool
	// renew makes the policy one that has negotiated nothing.
	renew(draw uint32)
	// magic returns the own magic number, 0 if there is none.
	magic() uint32
	// twin returns an equal policy that goes on alone.
	twin() policy
}

// lcpPolicy is a policy of LCP.
type lcpPolicy struct{ *lcppol.Policy }

func (p lcpPolicy) naked(draw uint32, l ...api.Opt) bool { return p.Naked(draw, l...) }
func (p lcpPolicy) renew(draw uint32)                    { p.Reset(draw) }
func (p lcpPolicy) magic() uint32                        { return p.Mine().Magic }
func (p lcpPolicy) twin() policy                         { return lcpPolicy{p.Copy()} }

// ipcpPolicy is a policy of IPCP, which has no magic numbers.
type ipcpPolicy struct{ *ipcppol.Policy }

func (p ipcpPolicy) naked(_ uint32, l ...api.Opt) bool { return p.Naked(l...) }
func (p ipcpPolicy) renew(uint32)                      { p.Reset() }
func (p ipcpPolicy) magic() uint32                     { return 0 }
func (p ipcpPolicy) twin() policy                      { return ipcpPolicy{p.Copy()} }
