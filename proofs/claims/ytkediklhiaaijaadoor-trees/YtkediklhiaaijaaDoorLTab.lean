/-
  The program's types as tables that reduce: what is under a type, its cells, its bytes, its zero.
-/
import Derived.Test.YtkediklhiaaijaaDoorProg
import Derived.Test.YtkediklhiaaijaaDoorLOp
namespace Go.Proofs.YtkediklhiaaijaaDoor
open Go
def zU : Nat → Option TypeDesc
  | 2 => some (.int .i64)
  | 3 => some (.int .i64)
  | 4 => some (.bool)
  | 5 => some (.int .u8)
  | 12 => some (.int .u64)
  | 20 => some (.interface #[])
  | 21 => some (.int .i32)
  | 22 => some (.slice 25)
  | 24 => some (.interface #[("Error", 135)])
  | 25 => some (.interface #[("Error", 135)])
  | 27 => some (.slice 45)
  | 29 => some (.slice 3)
  | 32 => some (.pointer 41)
  | 33 => some (.slice 55)
  | 34 => some (.slice 63)
  | 35 => some (.slice 66)
  | 36 => some (.slice 69)
  | 37 => some (.slice 72)
  | 38 => some (.struct #[⟨"edits", 35, 0, false, "", "orchard/orchardlaw", 0⟩, ⟨"answers", 36, 1, false, "", "orchard/orchardlaw", 24⟩, ⟨"entries", 37, 2, false, "", "orchard/orchardlaw", 48⟩])
  | 39 => some (.struct #[⟨"edits", 35, 0, false, "", "orchard/orchardlaw", 0⟩, ⟨"answers", 36, 1, false, "", "orchard/orchardlaw", 24⟩, ⟨"entries", 37, 2, false, "", "orchard/orchardlaw", 48⟩])
  | 40 => some (.struct #[⟨"ts", 33, 0, false, "", "orchard/orchardlaw", 0⟩, ⟨"ps", 34, 1, false, "", "orchard/orchardlaw", 24⟩, ⟨"book", 39, 2, false, "", "orchard/orchardlaw", 48⟩])
  | 41 => some (.struct #[⟨"ts", 33, 0, false, "", "orchard/orchardlaw", 0⟩, ⟨"ps", 34, 1, false, "", "orchard/orchardlaw", 24⟩, ⟨"book", 39, 2, false, "", "orchard/orchardlaw", 48⟩])
  | 42 => some (.struct #[⟨"Kind", 3, 0, false, "", "", 0⟩, ⟨"Node", 3, 1, false, "", "", 8⟩, ⟨"Parent", 3, 2, false, "", "", 16⟩, ⟨"Key", 3, 3, false, "", "", 24⟩, ⟨"Prop", 3, 4, false, "", "", 32⟩, ⟨"Value", 3, 5, false, "", "", 40⟩])
  | 43 => some (.struct #[⟨"Kind", 3, 0, false, "", "", 0⟩, ⟨"Node", 3, 1, false, "", "", 8⟩, ⟨"Parent", 3, 2, false, "", "", 16⟩, ⟨"Key", 3, 3, false, "", "", 24⟩, ⟨"Prop", 3, 4, false, "", "", 32⟩, ⟨"Value", 3, 5, false, "", "", 40⟩])
  | 44 => some (.struct #[⟨"Kind", 3, 0, false, "", "", 0⟩, ⟨"A", 3, 1, false, "", "", 8⟩, ⟨"B", 3, 2, false, "", "", 16⟩, ⟨"C", 3, 3, false, "", "", 24⟩, ⟨"E", 43, 4, false, "", "", 32⟩])
  | 45 => some (.struct #[⟨"Kind", 3, 0, false, "", "", 0⟩, ⟨"A", 3, 1, false, "", "", 8⟩, ⟨"B", 3, 2, false, "", "", 16⟩, ⟨"C", 3, 3, false, "", "", 24⟩, ⟨"E", 43, 4, false, "", "", 32⟩])
  | 48 => some (.pointer 78)
  | 51 => some (.pointer 83)
  | 54 => some (.struct #[⟨"t", 48, 0, false, "", "orchard/orchardlaw", 0⟩, ⟨"r", 51, 1, false, "", "orchard/orchardlaw", 8⟩])
  | 55 => some (.struct #[⟨"t", 48, 0, false, "", "orchard/orchardlaw", 0⟩, ⟨"r", 51, 1, false, "", "orchard/orchardlaw", 8⟩])
  | 58 => some (.struct #[⟨"Clients", 3, 0, false, "", "", 0⟩, ⟨"Log", 3, 1, false, "", "", 8⟩])
  | 59 => some (.struct #[⟨"Clients", 3, 0, false, "", "", 0⟩, ⟨"Log", 3, 1, false, "", "", 8⟩])
  | 60 => some (.pointer 151)
  | 61 => some (.pointer 99)
  | 62 => some (.struct #[⟨"p", 60, 0, false, "", "orchard/orchardlaw", 0⟩, ⟨"r", 61, 1, false, "", "orchard/orchardlaw", 8⟩])
  | 63 => some (.struct #[⟨"p", 60, 0, false, "", "orchard/orchardlaw", 0⟩, ⟨"r", 61, 1, false, "", "orchard/orchardlaw", 8⟩])
  | 65 => some (.pointer 39)
  | 66 => some (.slice 43)
  | 67 => some (.struct #[⟨"Seq", 3, 0, false, "", "", 0⟩, ⟨"Done", 4, 1, false, "", "", 8⟩])
  | 68 => some (.struct #[⟨"Seq", 3, 0, false, "", "", 0⟩, ⟨"Done", 4, 1, false, "", "", 8⟩])
  | 69 => some (.slice 68)
  | 70 => some (.struct #[⟨"Client", 3, 0, false, "", "", 0⟩, ⟨"Seq", 3, 1, false, "", "", 8⟩, ⟨"Edit", 43, 2, false, "", "", 16⟩, ⟨"Done", 4, 8, false, "", "", 64⟩])
  | 71 => some (.struct #[⟨"Client", 3, 0, false, "", "", 0⟩, ⟨"Seq", 3, 1, false, "", "", 8⟩, ⟨"Edit", 43, 2, false, "", "", 16⟩, ⟨"Done", 4, 8, false, "", "", 64⟩])
  | 72 => some (.slice 71)
  | 73 => some (.array 4 3)
  | 74 => some (.struct #[⟨"ID", 3, 0, false, "", "", 0⟩, ⟨"Parent", 3, 1, false, "", "", 8⟩, ⟨"Key", 3, 2, false, "", "", 16⟩, ⟨"Props", 73, 3, false, "", "", 24⟩])
  | 75 => some (.struct #[⟨"ID", 3, 0, false, "", "", 0⟩, ⟨"Parent", 3, 1, false, "", "", 8⟩, ⟨"Key", 3, 2, false, "", "", 16⟩, ⟨"Props", 73, 3, false, "", "", 24⟩])
  | 76 => some (.map 3 75)
  | 77 => some (.struct #[⟨"nodes", 76, 0, false, "", "orchard/tree", 0⟩])
  | 78 => some (.struct #[⟨"nodes", 76, 0, false, "", "orchard/tree", 0⟩])
  | 81 => some (.slice 75)
  | 82 => some (.struct #[⟨"L", 81, 0, false, "", "", 0⟩])
  | 83 => some (.struct #[⟨"L", 81, 0, false, "", "", 0⟩])
  | 97 => some (.slice 102)
  | 98 => some (.struct #[⟨"C", 59, 0, false, "", "", 0⟩, ⟨"T", 51, 2, false, "", "", 16⟩, ⟨"Entries", 72, 3, false, "", "", 24⟩, ⟨"L", 97, 4, false, "", "", 48⟩])
  | 99 => some (.struct #[⟨"C", 59, 0, false, "", "", 0⟩, ⟨"T", 51, 2, false, "", "", 16⟩, ⟨"Entries", 72, 3, false, "", "", 24⟩, ⟨"L", 97, 4, false, "", "", 48⟩])
  | 102 => some (.pointer 112)
  | 105 => some (.pointer 107)
  | 106 => some (.struct #[⟨"Edit", 43, 0, false, "", "", 0⟩, ⟨"Err", 25, 6, false, "", "", 48⟩])
  | 107 => some (.struct #[⟨"Edit", 43, 0, false, "", "", 0⟩, ⟨"Err", 25, 6, false, "", "", 48⟩])
  | 109 => some (.slice 115)
  | 110 => some (.slice 117)
  | 111 => some (.struct #[⟨"Base", 51, 0, false, "", "", 0⟩, ⟨"N", 3, 1, false, "", "", 8⟩, ⟨"L", 109, 2, false, "", "", 16⟩, ⟨"Seq", 3, 3, false, "", "", 40⟩, ⟨"Answers", 69, 4, false, "", "", 48⟩, ⟨"Joined", 4, 5, false, "", "", 72⟩, ⟨"Told", 4, 6, false, "", "", 73⟩, ⟨"Up", 110, 7, false, "", "", 80⟩, ⟨"Down", 110, 8, false, "", "", 104⟩])
  | 112 => some (.struct #[⟨"Base", 51, 0, false, "", "", 0⟩, ⟨"N", 3, 1, false, "", "", 8⟩, ⟨"L", 109, 2, false, "", "", 16⟩, ⟨"Seq", 3, 3, false, "", "", 40⟩, ⟨"Answers", 69, 4, false, "", "", 48⟩, ⟨"Joined", 4, 5, false, "", "", 72⟩, ⟨"Told", 4, 6, false, "", "", 73⟩, ⟨"Up", 110, 7, false, "", "", 80⟩, ⟨"Down", 110, 8, false, "", "", 104⟩])
  | 114 => some (.struct #[⟨"Seq", 3, 0, false, "", "", 0⟩, ⟨"Edit", 43, 1, false, "", "", 8⟩])
  | 115 => some (.struct #[⟨"Seq", 3, 0, false, "", "", 0⟩, ⟨"Edit", 43, 1, false, "", "", 8⟩])
  | 116 => some (.struct #[⟨"Hello", 4, 0, false, "", "", 0⟩, ⟨"Seq", 3, 1, false, "", "", 8⟩, ⟨"Edit", 43, 2, false, "", "", 16⟩, ⟨"Entry", 71, 8, false, "", "", 64⟩, ⟨"Tree", 51, 17, false, "", "", 136⟩, ⟨"N", 3, 18, false, "", "", 144⟩, ⟨"Answers", 69, 19, false, "", "", 152⟩])
  | 117 => some (.struct #[⟨"Hello", 4, 0, false, "", "", 0⟩, ⟨"Seq", 3, 1, false, "", "", 8⟩, ⟨"Edit", 43, 2, false, "", "", 16⟩, ⟨"Entry", 71, 8, false, "", "", 64⟩, ⟨"Tree", 51, 17, false, "", "", 136⟩, ⟨"N", 3, 18, false, "", "", 144⟩, ⟨"Answers", 69, 19, false, "", "", 152⟩])
  | 130 => some (.func #[48, 43] #[25] false)
  | 131 => some (.array 5 130)
  | 134 => some (.pointer 153)
  | 141 => some (.int .u32)
  | 145 => some (.pointer 5)
  | 150 => some (.struct #[])
  | 151 => some (.struct #[])
  | _ => none
def zS : Nat → Option Nat
  | 2 => some 1
  | 3 => some 1
  | 4 => some 1
  | 5 => some 1
  | 12 => some 1
  | 20 => some 1
  | 21 => some 1
  | 22 => some 1
  | 24 => some 1
  | 25 => some 1
  | 27 => some 1
  | 29 => some 1
  | 32 => some 1
  | 33 => some 1
  | 34 => some 1
  | 35 => some 1
  | 36 => some 1
  | 37 => some 1
  | 38 => some 3
  | 39 => some 3
  | 40 => some 5
  | 41 => some 5
  | 42 => some 6
  | 43 => some 6
  | 44 => some 10
  | 45 => some 10
  | 48 => some 1
  | 51 => some 1
  | 54 => some 2
  | 55 => some 2
  | 58 => some 2
  | 59 => some 2
  | 60 => some 1
  | 61 => some 1
  | 62 => some 2
  | 63 => some 2
  | 65 => some 1
  | 66 => some 1
  | 67 => some 2
  | 68 => some 2
  | 69 => some 1
  | 70 => some 9
  | 71 => some 9
  | 72 => some 1
  | 73 => some 4
  | 74 => some 7
  | 75 => some 7
  | 76 => some 1
  | 77 => some 1
  | 78 => some 1
  | 81 => some 1
  | 82 => some 1
  | 83 => some 1
  | 97 => some 1
  | 98 => some 5
  | 99 => some 5
  | 102 => some 1
  | 105 => some 1
  | 106 => some 7
  | 107 => some 7
  | 109 => some 1
  | 110 => some 1
  | 111 => some 9
  | 112 => some 9
  | 114 => some 7
  | 115 => some 7
  | 116 => some 20
  | 117 => some 20
  | 130 => some 1
  | 131 => some 5
  | 134 => some 1
  | 141 => some 1
  | 145 => some 1
  | 150 => some 0
  | 151 => some 0
  | _ => none
def zB : Nat → Option Nat
  | 2 => some 8
  | 3 => some 8
  | 4 => some 1
  | 5 => some 1
  | 12 => some 8
  | 20 => some 16
  | 21 => some 4
  | 22 => some 24
  | 24 => some 16
  | 25 => some 16
  | 27 => some 24
  | 29 => some 24
  | 32 => some 8
  | 33 => some 24
  | 34 => some 24
  | 35 => some 24
  | 36 => some 24
  | 37 => some 24
  | 38 => some 72
  | 39 => some 72
  | 40 => some 120
  | 41 => some 120
  | 42 => some 48
  | 43 => some 48
  | 44 => some 80
  | 45 => some 80
  | 48 => some 8
  | 51 => some 8
  | 54 => some 16
  | 55 => some 16
  | 58 => some 16
  | 59 => some 16
  | 60 => some 8
  | 61 => some 8
  | 62 => some 16
  | 63 => some 16
  | 65 => some 8
  | 66 => some 24
  | 67 => some 16
  | 68 => some 16
  | 69 => some 24
  | 70 => some 72
  | 71 => some 72
  | 72 => some 24
  | 73 => some 32
  | 74 => some 56
  | 75 => some 56
  | 76 => some 8
  | 77 => some 8
  | 78 => some 8
  | 81 => some 24
  | 82 => some 24
  | 83 => some 24
  | 97 => some 24
  | 98 => some 72
  | 99 => some 72
  | 102 => some 8
  | 105 => some 8
  | 106 => some 64
  | 107 => some 64
  | 109 => some 24
  | 110 => some 24
  | 111 => some 128
  | 112 => some 128
  | 114 => some 56
  | 115 => some 56
  | 116 => some 176
  | 117 => some 176
  | 130 => some 8
  | 131 => some 40
  | 134 => some 8
  | 141 => some 4
  | 145 => some 8
  | 150 => some 0
  | 151 => some 0
  | _ => none
def zZ : Nat → Option Value
  | 2 => some (.int .i64 0)
  | 3 => some (.int .i64 0)
  | 4 => some (.bool false)
  | 5 => some (.int .u8 0)
  | 12 => some (.int .u64 0)
  | 20 => some .nilIface
  | 21 => some (.int .i32 0)
  | 22 => some (.slice none 0 0)
  | 24 => some .nilIface
  | 25 => some .nilIface
  | 27 => some (.slice none 0 0)
  | 29 => some (.slice none 0 0)
  | 32 => some (.pointer none)
  | 33 => some (.slice none 0 0)
  | 34 => some (.slice none 0 0)
  | 35 => some (.slice none 0 0)
  | 36 => some (.slice none 0 0)
  | 37 => some (.slice none 0 0)
  | 38 => some (.agg [(.slice none 0 0), (.slice none 0 0), (.slice none 0 0)].toArray)
  | 39 => some (.agg [(.slice none 0 0), (.slice none 0 0), (.slice none 0 0)].toArray)
  | 40 => some (.agg [(.slice none 0 0), (.slice none 0 0), (.slice none 0 0), (.slice none 0 0), (.slice none 0 0)].toArray)
  | 41 => some (.agg [(.slice none 0 0), (.slice none 0 0), (.slice none 0 0), (.slice none 0 0), (.slice none 0 0)].toArray)
  | 42 => some (.agg [(.int .i64 0), (.int .i64 0), (.int .i64 0), (.int .i64 0), (.int .i64 0), (.int .i64 0)].toArray)
  | 43 => some (.agg [(.int .i64 0), (.int .i64 0), (.int .i64 0), (.int .i64 0), (.int .i64 0), (.int .i64 0)].toArray)
  | 44 => some (.agg [(.int .i64 0), (.int .i64 0), (.int .i64 0), (.int .i64 0), (.int .i64 0), (.int .i64 0), (.int .i64 0), (.int .i64 0), (.int .i64 0), (.int .i64 0)].toArray)
  | 45 => some (.agg [(.int .i64 0), (.int .i64 0), (.int .i64 0), (.int .i64 0), (.int .i64 0), (.int .i64 0), (.int .i64 0), (.int .i64 0), (.int .i64 0), (.int .i64 0)].toArray)
  | 48 => some (.pointer none)
  | 51 => some (.pointer none)
  | 54 => some (.agg [(.pointer none), (.pointer none)].toArray)
  | 55 => some (.agg [(.pointer none), (.pointer none)].toArray)
  | 58 => some (.agg [(.int .i64 0), (.int .i64 0)].toArray)
  | 59 => some (.agg [(.int .i64 0), (.int .i64 0)].toArray)
  | 60 => some (.pointer none)
  | 61 => some (.pointer none)
  | 62 => some (.agg [(.pointer none), (.pointer none)].toArray)
  | 63 => some (.agg [(.pointer none), (.pointer none)].toArray)
  | 65 => some (.pointer none)
  | 66 => some (.slice none 0 0)
  | 67 => some (.agg [(.int .i64 0), (.bool false)].toArray)
  | 68 => some (.agg [(.int .i64 0), (.bool false)].toArray)
  | 69 => some (.slice none 0 0)
  | 70 => some (.agg [(.int .i64 0), (.int .i64 0), (.int .i64 0), (.int .i64 0), (.int .i64 0), (.int .i64 0), (.int .i64 0), (.int .i64 0), (.bool false)].toArray)
  | 71 => some (.agg [(.int .i64 0), (.int .i64 0), (.int .i64 0), (.int .i64 0), (.int .i64 0), (.int .i64 0), (.int .i64 0), (.int .i64 0), (.bool false)].toArray)
  | 72 => some (.slice none 0 0)
  | 73 => some (.agg [(.int .i64 0), (.int .i64 0), (.int .i64 0), (.int .i64 0)].toArray)
  | 74 => some (.agg [(.int .i64 0), (.int .i64 0), (.int .i64 0), (.int .i64 0), (.int .i64 0), (.int .i64 0), (.int .i64 0)].toArray)
  | 75 => some (.agg [(.int .i64 0), (.int .i64 0), (.int .i64 0), (.int .i64 0), (.int .i64 0), (.int .i64 0), (.int .i64 0)].toArray)
  | 76 => some (.map none)
  | 77 => some (.agg [(.map none)].toArray)
  | 78 => some (.agg [(.map none)].toArray)
  | 81 => some (.slice none 0 0)
  | 82 => some (.agg [(.slice none 0 0)].toArray)
  | 83 => some (.agg [(.slice none 0 0)].toArray)
  | 97 => some (.slice none 0 0)
  | 98 => some (.agg [(.int .i64 0), (.int .i64 0), (.pointer none), (.slice none 0 0), (.slice none 0 0)].toArray)
  | 99 => some (.agg [(.int .i64 0), (.int .i64 0), (.pointer none), (.slice none 0 0), (.slice none 0 0)].toArray)
  | 102 => some (.pointer none)
  | 105 => some (.pointer none)
  | 106 => some (.agg [(.int .i64 0), (.int .i64 0), (.int .i64 0), (.int .i64 0), (.int .i64 0), (.int .i64 0), .nilIface].toArray)
  | 107 => some (.agg [(.int .i64 0), (.int .i64 0), (.int .i64 0), (.int .i64 0), (.int .i64 0), (.int .i64 0), .nilIface].toArray)
  | 109 => some (.slice none 0 0)
  | 110 => some (.slice none 0 0)
  | 111 => some (.agg [(.pointer none), (.int .i64 0), (.slice none 0 0), (.int .i64 0), (.slice none 0 0), (.bool false), (.bool false), (.slice none 0 0), (.slice none 0 0)].toArray)
  | 112 => some (.agg [(.pointer none), (.int .i64 0), (.slice none 0 0), (.int .i64 0), (.slice none 0 0), (.bool false), (.bool false), (.slice none 0 0), (.slice none 0 0)].toArray)
  | 114 => some (.agg [(.int .i64 0), (.int .i64 0), (.int .i64 0), (.int .i64 0), (.int .i64 0), (.int .i64 0), (.int .i64 0)].toArray)
  | 115 => some (.agg [(.int .i64 0), (.int .i64 0), (.int .i64 0), (.int .i64 0), (.int .i64 0), (.int .i64 0), (.int .i64 0)].toArray)
  | 116 => some (.agg [(.bool false), (.int .i64 0), (.int .i64 0), (.int .i64 0), (.int .i64 0), (.int .i64 0), (.int .i64 0), (.int .i64 0), (.int .i64 0), (.int .i64 0), (.int .i64 0), (.int .i64 0), (.int .i64 0), (.int .i64 0), (.int .i64 0), (.int .i64 0), (.bool false), (.pointer none), (.int .i64 0), (.slice none 0 0)].toArray)
  | 117 => some (.agg [(.bool false), (.int .i64 0), (.int .i64 0), (.int .i64 0), (.int .i64 0), (.int .i64 0), (.int .i64 0), (.int .i64 0), (.int .i64 0), (.int .i64 0), (.int .i64 0), (.int .i64 0), (.int .i64 0), (.int .i64 0), (.int .i64 0), (.int .i64 0), (.bool false), (.pointer none), (.int .i64 0), (.slice none 0 0)].toArray)
  | 130 => some .nilFunc
  | 131 => some (.agg [.nilFunc, .nilFunc, .nilFunc, .nilFunc, .nilFunc].toArray)
  | 134 => some (.pointer none)
  | 141 => some (.int .u32 0)
  | 145 => some (.pointer none)
  | 150 => some (.agg [].toArray)
  | 151 => some (.agg [].toArray)
  | _ => none
def zFL : List (Nat × Nat × Nat) := [(38, 0, 0), (38, 1, 1), (38, 2, 2), (39, 0, 0), (39, 1, 1), (39, 2, 2), (40, 0, 0), (40, 1, 1), (40, 2, 2), (41, 0, 0), (41, 1, 1), (41, 2, 2), (42, 0, 0), (42, 1, 1), (42, 2, 2), (42, 3, 3), (42, 4, 4), (42, 5, 5), (43, 0, 0), (43, 1, 1), (43, 2, 2), (43, 3, 3), (43, 4, 4), (43, 5, 5), (44, 0, 0), (44, 1, 1), (44, 2, 2), (44, 3, 3), (44, 4, 4), (45, 0, 0), (45, 1, 1), (45, 2, 2), (45, 3, 3), (45, 4, 4), (54, 0, 0), (54, 1, 1), (55, 0, 0), (55, 1, 1), (58, 0, 0), (58, 1, 1), (59, 0, 0), (59, 1, 1), (62, 0, 0), (62, 1, 1), (63, 0, 0), (63, 1, 1), (67, 0, 0), (67, 1, 1), (68, 0, 0), (68, 1, 1), (70, 0, 0), (70, 1, 1), (70, 2, 2), (70, 3, 8), (71, 0, 0), (71, 1, 1), (71, 2, 2), (71, 3, 8), (74, 0, 0), (74, 1, 1), (74, 2, 2), (74, 3, 3), (75, 0, 0), (75, 1, 1), (75, 2, 2), (75, 3, 3), (77, 0, 0), (78, 0, 0), (82, 0, 0), (83, 0, 0), (98, 0, 0), (98, 1, 2), (98, 2, 3), (98, 3, 4), (99, 0, 0), (99, 1, 2), (99, 2, 3), (99, 3, 4), (106, 0, 0), (106, 1, 6), (107, 0, 0), (107, 1, 6), (111, 0, 0), (111, 1, 1), (111, 2, 2), (111, 3, 3), (111, 4, 4), (111, 5, 5), (111, 6, 6), (111, 7, 7), (111, 8, 8), (112, 0, 0), (112, 1, 1), (112, 2, 2), (112, 3, 3), (112, 4, 4), (112, 5, 5), (112, 6, 6), (112, 7, 7), (112, 8, 8), (114, 0, 0), (114, 1, 1), (115, 0, 0), (115, 1, 1), (116, 0, 0), (116, 1, 1), (116, 2, 2), (116, 3, 8), (116, 4, 17), (116, 5, 18), (116, 6, 19), (117, 0, 0), (117, 1, 1), (117, 2, 2), (117, 3, 8), (117, 4, 17), (117, 5, 18), (117, 6, 19)]
def zF1 : Nat → List (Nat × Nat)
  | 38 => [(0, 0), (1, 1), (2, 2)]
  | 39 => [(0, 0), (1, 1), (2, 2)]
  | 40 => [(0, 0), (1, 1), (2, 2)]
  | 41 => [(0, 0), (1, 1), (2, 2)]
  | 42 => [(0, 0), (1, 1), (2, 2), (3, 3), (4, 4), (5, 5)]
  | 43 => [(0, 0), (1, 1), (2, 2), (3, 3), (4, 4), (5, 5)]
  | 44 => [(0, 0), (1, 1), (2, 2), (3, 3), (4, 4)]
  | 45 => [(0, 0), (1, 1), (2, 2), (3, 3), (4, 4)]
  | 54 => [(0, 0), (1, 1)]
  | 55 => [(0, 0), (1, 1)]
  | 58 => [(0, 0), (1, 1)]
  | 59 => [(0, 0), (1, 1)]
  | 62 => [(0, 0), (1, 1)]
  | 63 => [(0, 0), (1, 1)]
  | 67 => [(0, 0), (1, 1)]
  | 68 => [(0, 0), (1, 1)]
  | 70 => [(0, 0), (1, 1), (2, 2), (3, 8)]
  | 71 => [(0, 0), (1, 1), (2, 2), (3, 8)]
  | 74 => [(0, 0), (1, 1), (2, 2), (3, 3)]
  | 75 => [(0, 0), (1, 1), (2, 2), (3, 3)]
  | 77 => [(0, 0)]
  | 78 => [(0, 0)]
  | 82 => [(0, 0)]
  | 83 => [(0, 0)]
  | 98 => [(0, 0), (1, 2), (2, 3), (3, 4)]
  | 99 => [(0, 0), (1, 2), (2, 3), (3, 4)]
  | 106 => [(0, 0), (1, 6)]
  | 107 => [(0, 0), (1, 6)]
  | 111 => [(0, 0), (1, 1), (2, 2), (3, 3), (4, 4), (5, 5), (6, 6), (7, 7), (8, 8)]
  | 112 => [(0, 0), (1, 1), (2, 2), (3, 3), (4, 4), (5, 5), (6, 6), (7, 7), (8, 8)]
  | 114 => [(0, 0), (1, 1)]
  | 115 => [(0, 0), (1, 1)]
  | 116 => [(0, 0), (1, 1), (2, 2), (3, 8), (4, 17), (5, 18), (6, 19)]
  | 117 => [(0, 0), (1, 1), (2, 2), (3, 8), (4, 17), (5, 18), (6, 19)]
  | _ => []
theorem zU_all : [2, 3, 4, 5, 12, 20, 21, 22, 24, 25, 27, 29, 32, 33, 34, 35, 36, 37, 38, 39, 40, 41, 42, 43, 44, 45, 48, 51, 54, 55, 58, 59, 60, 61, 62, 63, 65, 66, 67, 68, 69, 70, 71, 72, 73, 74, 75, 76, 77, 78, 81, 82, 83, 97, 98, 99, 102, 105, 106, 107, 109, 110, 111, 112, 114, 115, 116, 117, 130, 131, 134, 141, 145, 150, 151].all (fun t => (Tryd.prog.info? t).isSome) = true := by kernel_rfl
theorem u_ok {t : Nat} {D : TypeDesc} (h : zU t = some D) : Tryd.prog.underlying t = some D := by
  unfold zU at h
  split at h <;> first | (cases h; done) | (rw [← h]; kernel_rfl)
theorem s_ok {t m : Nat} (h : zS t = some m) : szOf Tryd.prog t = some m := by
  unfold zS at h
  split at h <;> first | (cases h; done) | (rw [← h]; kernel_rfl)
theorem b_ok {t m : Nat} (h : zB t = some m) : byOf Tryd.prog t = some m := by
  unfold zB at h
  split at h <;> first | (cases h; done) | (rw [← h]; kernel_rfl)
theorem z_ok {t : Nat} {v : Value} (h : zZ t = some v) : zrOf Tryd.prog t = some v := by
  unfold zZ at h
  split at h <;> first | (cases h; done) | (rw [← h]; kernel_rfl)
def look : List (Nat × Nat) → Nat → Option Nat
  | [], _ => none
  | (a, c) :: r, f => bif Nat.beq a f then some c else look r f
def zF (s f : Nat) : Option Nat := look (zF1 s) f
def fieldB (P : Program) (s f k : Nat) : Bool :=
  match P.underlying s with
  | some (.struct fs) => match fs[f]? with
    | some fi => fi.offset == k && (match szOf P fi.type with | some (_ + 1) => true | _ => false)
    | none => false
  | _ => false
theorem field_of {P : Program} {s f k : Nat} (h : fieldB P s f k = true) : FieldAt P s f k := by
  unfold fieldB at h
  split at h
  · rename_i fs hu
    split at h
    · rename_i fi hf
      simp only [Bool.and_eq_true, beq_iff_eq] at h
      obtain ⟨ho, hz⟩ := h
      split at hz
      · rename_i m hm
        exact ⟨fs, fi, m, hu, hf, ho, hm⟩
      · cases hz
    · cases h
  · cases h
theorem look_mem : ∀ {l : List (Nat × Nat)} {f c : Nat}, look l f = some c → (f, c) ∈ l
  | [], _, _, h => by cases h
  | (a, x) :: r, f, c, h => by
    unfold look at h
    cases hb : Nat.beq a f with
    | true =>
      rw [hb] at h
      have := Nat.eq_of_beq_eq_true hb
      cases h
      subst this
      exact List.mem_cons_self
    | false =>
      rw [hb] at h
      exact List.mem_cons_of_mem _ (look_mem h)
def zFok (P : Program) (s : Nat) : Bool := (zF1 s).all fun x => fieldB P s x.1 x.2
theorem zF_all {s : Nat} : zFok Tryd.prog s = true := by
  by_cases h : s < 300
  · have hall : (List.range 300).all (zFok Tryd.prog) = true := by kernel_rfl
    exact List.all_eq_true.1 hall s (List.mem_range.2 h)
  · unfold zFok zF1
    split <;> first | omega | rfl
theorem fa_ok {s f k : Nat} (h : zF s f = some k) : FieldAt Tryd.prog s f k :=
  field_of (List.all_eq_true.1 zF_all (f, k) (look_mem h))
theorem mixed : Tryd.prog.follows .mixedOrders = true := by kernel_rfl
end Go.Proofs.YtkediklhiaaijaaDoor
