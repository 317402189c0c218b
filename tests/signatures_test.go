package tests

import (
	"testing"

	"loop.example/g00196/impl"
)

// TestSignatures holds, by being built, that the functions of chapters 4 to 15 keep their signatures.
func TestSignatures(t *testing.T) {
	type (
		sys  = impl.Sys
		live = impl.Live
	)
	// Chapter 4.
	var _ func(sys) bool = impl.SysOk
	var _ func([][]impl.Ins) (sys, bool) = impl.SysNew
	var _ func(sys, int, int) []impl.Item = impl.WayOf
	var _ func([]impl.Item) []int = impl.Numbers
	// Chapter 5.
	var _ func(sys, int, int) (sys, int) = impl.Step
	var _ func(sys, int) []int = impl.Ready
	var _ func(sys) bool = impl.Halted
	// Chapter 6.
	var _ func(sys, []impl.Pick) (sys, []int) = impl.Run
	var _ func(sys, int) (sys, int) = impl.Fair
	var _ func(sys, int) []int = impl.Printed
	// Chapter 7.
	var _ func(sys, int, int) int = impl.Sender
	var _ func(sys, int, int) []int = impl.Clock
	var _, _ func(sys, int, int, int, int) bool = impl.Hangs, impl.Side
	// Chapter 8.
	var _, _ func(sys, []int) bool = impl.CutOk, impl.Whole
	var _ func(sys, []int) []int = impl.Close
	var _ func(sys) []int = impl.Full
	var _ func(sys, []int) (sys, bool) = impl.At
	// Chapter 9.
	var _ func(sys, int, int) (sys, int) = impl.Back
	var _ func(sys, int, int) []int = impl.Undone
	var _ func(sys, int) (sys, int) = impl.BackOne
	var _ func(sys, sys) bool = impl.Forth
	// Chapter 10.
	var _ func([]impl.Ins, []impl.Event) []impl.Kept = impl.KeepAll
	var _ func([]impl.Ins, []impl.Event, []impl.Kept) bool = impl.KeptOk
	var _ func([]impl.Ins, []impl.Event, []impl.Kept, int) (impl.State, int) = impl.Restore
	var _ func([]impl.Ins, []impl.Event, []impl.Kept, int) int = impl.Again
	// Chapter 11.
	var _ func(sys) live = impl.ShotNew
	var _, _ func(live) bool = impl.LiveOk, impl.ShotDone
	var _ func(live, int) (live, int) = impl.Begin
	var _, _ func(live, int, int) (live, int) = impl.Mark, impl.LiveStep
	var _ func(live) (sys, bool) = impl.Picture
	// Chapter 12.
	var _, _ func(sys, impl.Stop) bool = impl.StopOk, impl.Holds
	var _ func(sys, []impl.Pick, impl.Stop) (sys, int) = impl.Until
	var _ func(sys, impl.Stop) int = impl.Last
	// Chapter 13.
	var _ func(sys) []impl.Who = impl.Row
	var _ func(sys, []impl.Who) bool = impl.RowOk
	var _ func(sys, []impl.Who) (sys, bool) = impl.Redo
	var _ func(sys, []impl.Who, int) ([]impl.Who, bool) = impl.Swap
	// Chapter 14.
	var _ func(int) []byte = impl.PutNum
	var _ func([]byte, int) (int, int, bool) = impl.GetNum
	var _ func(sys) ([]byte, bool) = impl.Pack
	var _ func([]byte) (sys, bool) = impl.Unpack
	// Chapter 15.
	var _ func(string) (sys, int) = impl.Load
	var _ func(live, string) (live, string) = impl.Line
	var _ func(string, string) (string, int) = impl.Session
}
