/- Objects that come often. -/
import Derived.Test.YtfdanemmefckpaaGreatDoorRows
namespace Go.Proofs.YtfdanemmefckpaaGreatDoor
abbrev oQ0 (x0 : Int) (x1 : Int) (x2 : Int) : Obj := .cells #[.int .i64 x0, .int .i64 x1, .int .i64 x2] 106
abbrev oQ1 (x0 : Int) (x1 : Option Addr) (x2 : Nat) (x3 : Nat) (x4 : Option Addr) (x5 : Nat) (x6 : Nat) (x7 : Int) : Obj := .cells #[.int .i64 x0, .slice x1 x2 x3, .slice x4 x5 x6, .int .i64 x7] 123
abbrev oQ2 (x0 : Int) (x1 : Int) (x2 : Int) (x3 : Int) (x4 : Int) : Obj := .cells #[.int .i64 x0, .int .i64 x1, .int .i64 x2, .int .i64 x3, .int .i64 x4] 149
abbrev oQ3 (x0 : Int) (x1 : Int) (x2 : Int) (x3 : Int) (x4 : Int) (x5 : Option Addr) (x6 : Nat) (x7 : Nat) (x8 : Int) : Obj := .cells #[.int .i64 x0, .int .i64 x1, .int .i64 x2, .int .i64 x3, .int .i64 x4, .slice x5 x6 x7, .int .i64 x8] 241
abbrev oQ4 (x0 : Option Addr) (x1 : Nat) (x2 : Nat) (x3 : Option Addr) (x4 : Nat) (x5 : Nat) (x6 : Option Addr) (x7 : Nat) (x8 : Nat) (x9 : Option Addr) (x10 : Nat) (x11 : Nat) : Obj := .cells #[.slice x0 x1 x2, .slice x3 x4 x5, .slice x6 x7 x8, .slice x9 x10 x11] 34
abbrev oQ5 (x0 : Option Addr) (x1 : Nat) (x2 : Nat) (x3 : Option Addr) (x4 : Nat) (x5 : Nat) (x6 : Option Addr) (x7 : Nat) (x8 : Nat) (x9 : Option Addr) (x10 : Nat) (x11 : Nat) (x12 : Bool) (x13 : Option Addr) (x14 : Nat) (x15 : Nat) (x16 : Option Addr) (x17 : Nat) (x18 : Nat) (x19 : Option Addr) (x20 : Nat) (x21 : Nat) : Obj := .cells #[.slice x0 x1 x2, .slice x3 x4 x5, .slice x6 x7 x8, .slice x9 x10 x11, .bool x12, .slice x13 x14 x15, .slice x16 x17 x18, .slice x19 x20 x21] 41
abbrev zQ0 : Obj := .cells #[.int .i64 0, .slice none 0 0, .slice none 0 0, .int .i64 0] 123
abbrev zQ1 : Obj := .cells #[.int .i64 0, .int .i64 0, .int .i64 0, .int .i64 0, .int .i64 0, .slice none 0 0, .int .i64 0] 241
abbrev zQ2 : Obj := .cells #[.slice none 0 0, .slice none 0 0, .slice none 0 0, .slice none 0 0] 34
abbrev zQ3 : Obj := .cells #[.slice none 0 0, .int .i64 0, .int .i64 0, .int .i64 0, .int .i64 0, .int .i64 0, .int .i64 0, .int .i64 0, .int .i64 0, .int .i64 0, .int .i64 0, .int .i64 0, .int .i64 0, .int .i64 0, .int .i64 0, .int .i64 0, .int .i64 0, .int .i64 0, .int .i64 0, .int .i64 0, .int .i64 0] 139
abbrev zQ4 : Obj := .cells #[.slice none 0 0, .slice none 0 0, .slice none 0 0, .slice none 0 0, .slice none 0 0, .int .i64 0, .int .i64 0, .int .i64 0, .int .i64 0, .int .i64 0, .int .i64 0, .int .i64 0, .int .i64 0, .int .i64 0, .int .i64 0, .int .i64 0, .int .i64 0, .int .i64 0, .int .i64 0, .int .i64 0, .int .i64 0, .int .i64 0, .int .i64 0, .int .i64 0, .int .i64 0] 141
abbrev zQ5 : Obj := .cells #[.slice none 0 0, .slice none 0 0, .slice none 0 0, .slice none 0 0, .bool false, .slice none 0 0, .slice none 0 0, .slice none 0 0] 41
end Go.Proofs.YtfdanemmefckpaaGreatDoor
