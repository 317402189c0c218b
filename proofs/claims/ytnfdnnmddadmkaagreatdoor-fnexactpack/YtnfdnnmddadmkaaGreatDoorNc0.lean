/- Objects that come often. -/
import Derived.Test.YtnfdnnmddadmkaaGreatDoorRows
namespace Go.Proofs.YtnfdnnmddadmkaaGreatDoor
abbrev oQ0 (x0 : Int) (x1 : Int) (x2 : Int) : Obj := .cells #[.int .i64 x0, .int .i64 x1, .int .i64 x2] 83
abbrev oQ1 (x0 : Int) (x1 : Option Addr) (x2 : Nat) (x3 : Nat) (x4 : Option Addr) (x5 : Nat) (x6 : Nat) (x7 : Int) : Obj := .cells #[.int .i64 x0, .slice x1 x2 x3, .slice x4 x5 x6, .int .i64 x7] 93
abbrev oQ2 (x0 : Int) (x1 : Int) (x2 : Int) (x3 : Int) (x4 : Int) : Obj := .cells #[.int .i64 x0, .int .i64 x1, .int .i64 x2, .int .i64 x3, .int .i64 x4] 123
abbrev oQ3 (x0 : Int) (x1 : Int) (x2 : Int) (x3 : Int) (x4 : Int) (x5 : Option Addr) (x6 : Nat) (x7 : Nat) (x8 : Int) : Obj := .cells #[.int .i64 x0, .int .i64 x1, .int .i64 x2, .int .i64 x3, .int .i64 x4, .slice x5 x6 x7, .int .i64 x8] 257
abbrev oQ4 (x0 : Option Addr) (x1 : Nat) (x2 : Nat) (x3 : Option Addr) (x4 : Nat) (x5 : Nat) (x6 : Option Addr) (x7 : Nat) (x8 : Nat) (x9 : Option Addr) (x10 : Nat) (x11 : Nat) : Obj := .cells #[.slice x0 x1 x2, .slice x3 x4 x5, .slice x6 x7 x8, .slice x9 x10 x11] 29
abbrev zQ0 : Obj := .cells #[.int .i64 0, .slice none 0 0, .slice none 0 0, .int .i64 0] 93
abbrev zQ1 : Obj := .cells #[.slice none 0 0, .int .i64 0, .int .i64 0, .int .i64 0, .int .i64 0, .int .i64 0, .int .i64 0, .int .i64 0, .int .i64 0, .int .i64 0, .int .i64 0, .int .i64 0, .int .i64 0, .int .i64 0, .int .i64 0, .int .i64 0, .int .i64 0, .int .i64 0, .int .i64 0, .int .i64 0, .int .i64 0] 78
abbrev zQ2 : Obj := .cells #[.int .i64 0, .int .i64 0, .int .i64 0, .int .i64 0, .int .i64 0, .slice none 0 0, .int .i64 0] 257
abbrev zQ3 : Obj := .cells #[.slice none 0 0, .slice none 0 0, .slice none 0 0, .slice none 0 0, .slice none 0 0, .int .i64 0, .int .i64 0, .int .i64 0, .int .i64 0, .int .i64 0, .int .i64 0, .int .i64 0, .int .i64 0, .int .i64 0, .int .i64 0, .int .i64 0, .int .i64 0, .int .i64 0, .int .i64 0, .int .i64 0, .int .i64 0, .int .i64 0, .int .i64 0, .int .i64 0, .int .i64 0] 97
end Go.Proofs.YtnfdnnmddadmkaaGreatDoor
