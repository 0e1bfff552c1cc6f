/-
  The program's types as tables that reduce: what is under a type, its cells, its bytes, its zero.
-/
import Derived.Test.YtikgdndhgoanhaaDoorProg
import Derived.Test.YtikgdndhgoanhaaDoorLOp
namespace Go.Proofs.YtikgdndhgoanhaaDoor
open Go
def zU : Nat → Option TypeDesc
  | 2 => some (.int .i64)
  | 3 => some (.int .i64)
  | 4 => some (.bool)
  | 5 => some (.int .u8)
  | 12 => some (.int .u64)
  | 20 => some (.interface #[])
  | 21 => some (.int .i32)
  | 22 => some (.slice 25)
  | 24 => some (.interface #[("Error", 177)])
  | 25 => some (.interface #[("Error", 177)])
  | 27 => some (.slice 67)
  | 29 => some (.slice 3)
  | 31 => some (.slice 38)
  | 32 => some (.pointer 72)
  | 34 => some (.pointer 47)
  | 37 => some (.struct #[⟨"Kind", 3, 0, false, "", "", 0⟩, ⟨"Node", 3, 1, false, "", "", 8⟩, ⟨"Parent", 3, 2, false, "", "", 16⟩, ⟨"Key", 3, 3, false, "", "", 24⟩, ⟨"Prop", 3, 4, false, "", "", 32⟩, ⟨"Value", 3, 5, false, "", "", 40⟩])
  | 38 => some (.struct #[⟨"Kind", 3, 0, false, "", "", 0⟩, ⟨"Node", 3, 1, false, "", "", 8⟩, ⟨"Parent", 3, 2, false, "", "", 16⟩, ⟨"Key", 3, 3, false, "", "", 24⟩, ⟨"Prop", 3, 4, false, "", "", 32⟩, ⟨"Value", 3, 5, false, "", "", 40⟩])
  | 40 => some (.slice 52)
  | 42 => some (.array 4 3)
  | 43 => some (.struct #[⟨"ID", 3, 0, false, "", "", 0⟩, ⟨"Parent", 3, 1, false, "", "", 8⟩, ⟨"Key", 3, 2, false, "", "", 16⟩, ⟨"Props", 42, 3, false, "", "", 24⟩])
  | 44 => some (.struct #[⟨"ID", 3, 0, false, "", "", 0⟩, ⟨"Parent", 3, 1, false, "", "", 8⟩, ⟨"Key", 3, 2, false, "", "", 16⟩, ⟨"Props", 42, 3, false, "", "", 24⟩])
  | 45 => some (.slice 44)
  | 46 => some (.struct #[⟨"L", 45, 0, false, "", "", 0⟩])
  | 47 => some (.struct #[⟨"L", 45, 0, false, "", "", 0⟩])
  | 51 => some (.struct #[⟨"Node", 44, 0, false, "", "", 0⟩, ⟨"Deep", 3, 7, false, "", "", 56⟩])
  | 52 => some (.struct #[⟨"Node", 44, 0, false, "", "", 0⟩, ⟨"Deep", 3, 7, false, "", "", 56⟩])
  | 56 => some (.pointer 65)
  | 57 => some (.slice 85)
  | 58 => some (.slice 92)
  | 59 => some (.slice 31)
  | 60 => some (.slice 97)
  | 61 => some (.slice 100)
  | 62 => some (.struct #[⟨"edits", 59, 0, false, "", "orchard/orchardlaw", 0⟩, ⟨"answers", 60, 1, false, "", "orchard/orchardlaw", 24⟩, ⟨"entries", 61, 2, false, "", "orchard/orchardlaw", 48⟩])
  | 63 => some (.struct #[⟨"edits", 59, 0, false, "", "orchard/orchardlaw", 0⟩, ⟨"answers", 60, 1, false, "", "orchard/orchardlaw", 24⟩, ⟨"entries", 61, 2, false, "", "orchard/orchardlaw", 48⟩])
  | 64 => some (.struct #[⟨"ts", 57, 0, false, "", "orchard/orchardlaw", 0⟩, ⟨"ps", 58, 1, false, "", "orchard/orchardlaw", 24⟩, ⟨"book", 63, 2, false, "", "orchard/orchardlaw", 48⟩])
  | 65 => some (.struct #[⟨"ts", 57, 0, false, "", "orchard/orchardlaw", 0⟩, ⟨"ps", 58, 1, false, "", "orchard/orchardlaw", 24⟩, ⟨"book", 63, 2, false, "", "orchard/orchardlaw", 48⟩])
  | 66 => some (.struct #[⟨"Kind", 3, 0, false, "", "", 0⟩, ⟨"A", 3, 1, false, "", "", 8⟩, ⟨"B", 3, 2, false, "", "", 16⟩, ⟨"C", 3, 3, false, "", "", 24⟩, ⟨"E", 38, 4, false, "", "", 32⟩])
  | 67 => some (.struct #[⟨"Kind", 3, 0, false, "", "", 0⟩, ⟨"A", 3, 1, false, "", "", 8⟩, ⟨"B", 3, 2, false, "", "", 16⟩, ⟨"C", 3, 3, false, "", "", 24⟩, ⟨"E", 38, 4, false, "", "", 32⟩])
  | 70 => some (.map 3 44)
  | 71 => some (.struct #[⟨"nodes", 70, 0, false, "", "orchard/tree", 0⟩])
  | 72 => some (.struct #[⟨"nodes", 70, 0, false, "", "orchard/tree", 0⟩])
  | 73 => some (.pointer 75)
  | 74 => some (.struct #[⟨"Edit", 38, 0, false, "", "", 0⟩, ⟨"Err", 25, 6, false, "", "", 48⟩])
  | 75 => some (.struct #[⟨"Edit", 38, 0, false, "", "", 0⟩, ⟨"Err", 25, 6, false, "", "", 48⟩])
  | 84 => some (.struct #[⟨"t", 32, 0, false, "", "orchard/orchardlaw", 0⟩, ⟨"r", 34, 1, false, "", "orchard/orchardlaw", 8⟩])
  | 85 => some (.struct #[⟨"t", 32, 0, false, "", "orchard/orchardlaw", 0⟩, ⟨"r", 34, 1, false, "", "orchard/orchardlaw", 8⟩])
  | 87 => some (.struct #[⟨"Clients", 3, 0, false, "", "", 0⟩, ⟨"Log", 3, 1, false, "", "", 8⟩])
  | 88 => some (.struct #[⟨"Clients", 3, 0, false, "", "", 0⟩, ⟨"Log", 3, 1, false, "", "", 8⟩])
  | 89 => some (.pointer 192)
  | 90 => some (.pointer 120)
  | 91 => some (.struct #[⟨"p", 89, 0, false, "", "orchard/orchardlaw", 0⟩, ⟨"r", 90, 1, false, "", "orchard/orchardlaw", 8⟩])
  | 92 => some (.struct #[⟨"p", 89, 0, false, "", "orchard/orchardlaw", 0⟩, ⟨"r", 90, 1, false, "", "orchard/orchardlaw", 8⟩])
  | 94 => some (.pointer 63)
  | 95 => some (.struct #[⟨"Seq", 3, 0, false, "", "", 0⟩, ⟨"Done", 4, 1, false, "", "", 8⟩])
  | 96 => some (.struct #[⟨"Seq", 3, 0, false, "", "", 0⟩, ⟨"Done", 4, 1, false, "", "", 8⟩])
  | 97 => some (.slice 96)
  | 98 => some (.struct #[⟨"Client", 3, 0, false, "", "", 0⟩, ⟨"Seq", 3, 1, false, "", "", 8⟩, ⟨"Edit", 38, 2, false, "", "", 16⟩, ⟨"Done", 4, 8, false, "", "", 64⟩])
  | 99 => some (.struct #[⟨"Client", 3, 0, false, "", "", 0⟩, ⟨"Seq", 3, 1, false, "", "", 8⟩, ⟨"Edit", 38, 2, false, "", "", 16⟩, ⟨"Done", 4, 8, false, "", "", 64⟩])
  | 100 => some (.slice 99)
  | 102 => some (.func #[32, 38] #[25] false)
  | 103 => some (.array 5 102)
  | 105 => some (.map 3 45)
  | 106 => some (.map 3 45)
  | 118 => some (.slice 123)
  | 119 => some (.struct #[⟨"C", 88, 0, false, "", "", 0⟩, ⟨"T", 34, 2, false, "", "", 16⟩, ⟨"Entries", 100, 3, false, "", "", 24⟩, ⟨"L", 118, 4, false, "", "", 48⟩])
  | 120 => some (.struct #[⟨"C", 88, 0, false, "", "", 0⟩, ⟨"T", 34, 2, false, "", "", 16⟩, ⟨"Entries", 100, 3, false, "", "", 24⟩, ⟨"L", 118, 4, false, "", "", 48⟩])
  | 123 => some (.pointer 133)
  | 130 => some (.slice 135)
  | 131 => some (.slice 137)
  | 132 => some (.struct #[⟨"Base", 34, 0, false, "", "", 0⟩, ⟨"N", 3, 1, false, "", "", 8⟩, ⟨"L", 130, 2, false, "", "", 16⟩, ⟨"Seq", 3, 3, false, "", "", 40⟩, ⟨"Answers", 97, 4, false, "", "", 48⟩, ⟨"Joined", 4, 5, false, "", "", 72⟩, ⟨"Told", 4, 6, false, "", "", 73⟩, ⟨"Up", 131, 7, false, "", "", 80⟩, ⟨"Down", 131, 8, false, "", "", 104⟩])
  | 133 => some (.struct #[⟨"Base", 34, 0, false, "", "", 0⟩, ⟨"N", 3, 1, false, "", "", 8⟩, ⟨"L", 130, 2, false, "", "", 16⟩, ⟨"Seq", 3, 3, false, "", "", 40⟩, ⟨"Answers", 97, 4, false, "", "", 48⟩, ⟨"Joined", 4, 5, false, "", "", 72⟩, ⟨"Told", 4, 6, false, "", "", 73⟩, ⟨"Up", 131, 7, false, "", "", 80⟩, ⟨"Down", 131, 8, false, "", "", 104⟩])
  | 134 => some (.struct #[⟨"Seq", 3, 0, false, "", "", 0⟩, ⟨"Edit", 38, 1, false, "", "", 8⟩])
  | 135 => some (.struct #[⟨"Seq", 3, 0, false, "", "", 0⟩, ⟨"Edit", 38, 1, false, "", "", 8⟩])
  | 136 => some (.struct #[⟨"Hello", 4, 0, false, "", "", 0⟩, ⟨"Seq", 3, 1, false, "", "", 8⟩, ⟨"Edit", 38, 2, false, "", "", 16⟩, ⟨"Entry", 99, 8, false, "", "", 64⟩, ⟨"Tree", 34, 17, false, "", "", 136⟩, ⟨"N", 3, 18, false, "", "", 144⟩, ⟨"Answers", 97, 19, false, "", "", 152⟩])
  | 137 => some (.struct #[⟨"Hello", 4, 0, false, "", "", 0⟩, ⟨"Seq", 3, 1, false, "", "", 8⟩, ⟨"Edit", 38, 2, false, "", "", 16⟩, ⟨"Entry", 99, 8, false, "", "", 64⟩, ⟨"Tree", 34, 17, false, "", "", 136⟩, ⟨"N", 3, 18, false, "", "", 144⟩, ⟨"Answers", 97, 19, false, "", "", 152⟩])
  | 152 => some (.int .u64)
  | 156 => some (.int .i64)
  | 164 => some (.int .u32)
  | 166 => some (.int .u64)
  | 167 => some (.int .u64)
  | 171 => some (.pointer 3)
  | 173 => some (.pointer 167)
  | 176 => some (.pointer 194)
  | 186 => some (.pointer 5)
  | 191 => some (.struct #[])
  | 192 => some (.struct #[])
  | _ => none
def zS : Nat → Option Nat
  | 2 => some 1
  | 3 => some 1
  | 4 => some 1
  | 5 => some 1
  | 12 => some 1
  | 20 => some 1
  | 21 => some 1
  | 22 => some 1
  | 24 => some 1
  | 25 => some 1
  | 27 => some 1
  | 29 => some 1
  | 31 => some 1
  | 32 => some 1
  | 34 => some 1
  | 37 => some 6
  | 38 => some 6
  | 40 => some 1
  | 42 => some 4
  | 43 => some 7
  | 44 => some 7
  | 45 => some 1
  | 46 => some 1
  | 47 => some 1
  | 51 => some 8
  | 52 => some 8
  | 56 => some 1
  | 57 => some 1
  | 58 => some 1
  | 59 => some 1
  | 60 => some 1
  | 61 => some 1
  | 62 => some 3
  | 63 => some 3
  | 64 => some 5
  | 65 => some 5
  | 66 => some 10
  | 67 => some 10
  | 70 => some 1
  | 71 => some 1
  | 72 => some 1
  | 73 => some 1
  | 74 => some 7
  | 75 => some 7
  | 84 => some 2
  | 85 => some 2
  | 87 => some 2
  | 88 => some 2
  | 89 => some 1
  | 90 => some 1
  | 91 => some 2
  | 92 => some 2
  | 94 => some 1
  | 95 => some 2
  | 96 => some 2
  | 97 => some 1
  | 98 => some 9
  | 99 => some 9
  | 100 => some 1
  | 102 => some 1
  | 103 => some 5
  | 105 => some 1
  | 106 => some 1
  | 118 => some 1
  | 119 => some 5
  | 120 => some 5
  | 123 => some 1
  | 130 => some 1
  | 131 => some 1
  | 132 => some 9
  | 133 => some 9
  | 134 => some 7
  | 135 => some 7
  | 136 => some 20
  | 137 => some 20
  | 152 => some 1
  | 156 => some 1
  | 164 => some 1
  | 166 => some 1
  | 167 => some 1
  | 171 => some 1
  | 173 => some 1
  | 176 => some 1
  | 186 => some 1
  | 191 => some 0
  | 192 => some 0
  | _ => none
def zB : Nat → Option Nat
  | 2 => some 8
  | 3 => some 8
  | 4 => some 1
  | 5 => some 1
  | 12 => some 8
  | 20 => some 16
  | 21 => some 4
  | 22 => some 24
  | 24 => some 16
  | 25 => some 16
  | 27 => some 24
  | 29 => some 24
  | 31 => some 24
  | 32 => some 8
  | 34 => some 8
  | 37 => some 48
  | 38 => some 48
  | 40 => some 24
  | 42 => some 32
  | 43 => some 56
  | 44 => some 56
  | 45 => some 24
  | 46 => some 24
  | 47 => some 24
  | 51 => some 64
  | 52 => some 64
  | 56 => some 8
  | 57 => some 24
  | 58 => some 24
  | 59 => some 24
  | 60 => some 24
  | 61 => some 24
  | 62 => some 72
  | 63 => some 72
  | 64 => some 120
  | 65 => some 120
  | 66 => some 80
  | 67 => some 80
  | 70 => some 8
  | 71 => some 8
  | 72 => some 8
  | 73 => some 8
  | 74 => some 64
  | 75 => some 64
  | 84 => some 16
  | 85 => some 16
  | 87 => some 16
  | 88 => some 16
  | 89 => some 8
  | 90 => some 8
  | 91 => some 16
  | 92 => some 16
  | 94 => some 8
  | 95 => some 16
  | 96 => some 16
  | 97 => some 24
  | 98 => some 72
  | 99 => some 72
  | 100 => some 24
  | 102 => some 8
  | 103 => some 40
  | 105 => some 8
  | 106 => some 8
  | 118 => some 24
  | 119 => some 72
  | 120 => some 72
  | 123 => some 8
  | 130 => some 24
  | 131 => some 24
  | 132 => some 128
  | 133 => some 128
  | 134 => some 56
  | 135 => some 56
  | 136 => some 176
  | 137 => some 176
  | 152 => some 8
  | 156 => some 8
  | 164 => some 4
  | 166 => some 8
  | 167 => some 8
  | 171 => some 8
  | 173 => some 8
  | 176 => some 8
  | 186 => some 8
  | 191 => some 0
  | 192 => some 0
  | _ => none
def zZ : Nat → Option Value
  | 2 => some (.int .i64 0)
  | 3 => some (.int .i64 0)
  | 4 => some (.bool false)
  | 5 => some (.int .u8 0)
  | 12 => some (.int .u64 0)
  | 20 => some .nilIface
  | 21 => some (.int .i32 0)
  | 22 => some (.slice none 0 0)
  | 24 => some .nilIface
  | 25 => some .nilIface
  | 27 => some (.slice none 0 0)
  | 29 => some (.slice none 0 0)
  | 31 => some (.slice none 0 0)
  | 32 => some (.pointer none)
  | 34 => some (.pointer none)
  | 37 => some (.agg [(.int .i64 0), (.int .i64 0), (.int .i64 0), (.int .i64 0), (.int .i64 0), (.int .i64 0)].toArray)
  | 38 => some (.agg [(.int .i64 0), (.int .i64 0), (.int .i64 0), (.int .i64 0), (.int .i64 0), (.int .i64 0)].toArray)
  | 40 => some (.slice none 0 0)
  | 42 => some (.agg [(.int .i64 0), (.int .i64 0), (.int .i64 0), (.int .i64 0)].toArray)
  | 43 => some (.agg [(.int .i64 0), (.int .i64 0), (.int .i64 0), (.int .i64 0), (.int .i64 0), (.int .i64 0), (.int .i64 0)].toArray)
  | 44 => some (.agg [(.int .i64 0), (.int .i64 0), (.int .i64 0), (.int .i64 0), (.int .i64 0), (.int .i64 0), (.int .i64 0)].toArray)
  | 45 => some (.slice none 0 0)
  | 46 => some (.agg [(.slice none 0 0)].toArray)
  | 47 => some (.agg [(.slice none 0 0)].toArray)
  | 51 => some (.agg [(.int .i64 0), (.int .i64 0), (.int .i64 0), (.int .i64 0), (.int .i64 0), (.int .i64 0), (.int .i64 0), (.int .i64 0)].toArray)
  | 52 => some (.agg [(.int .i64 0), (.int .i64 0), (.int .i64 0), (.int .i64 0), (.int .i64 0), (.int .i64 0), (.int .i64 0), (.int .i64 0)].toArray)
  | 56 => some (.pointer none)
  | 57 => some (.slice none 0 0)
  | 58 => some (.slice none 0 0)
  | 59 => some (.slice none 0 0)
  | 60 => some (.slice none 0 0)
  | 61 => some (.slice none 0 0)
  | 62 => some (.agg [(.slice none 0 0), (.slice none 0 0), (.slice none 0 0)].toArray)
  | 63 => some (.agg [(.slice none 0 0), (.slice none 0 0), (.slice none 0 0)].toArray)
  | 64 => some (.agg [(.slice none 0 0), (.slice none 0 0), (.slice none 0 0), (.slice none 0 0), (.slice none 0 0)].toArray)
  | 65 => some (.agg [(.slice none 0 0), (.slice none 0 0), (.slice none 0 0), (.slice none 0 0), (.slice none 0 0)].toArray)
  | 66 => some (.agg [(.int .i64 0), (.int .i64 0), (.int .i64 0), (.int .i64 0), (.int .i64 0), (.int .i64 0), (.int .i64 0), (.int .i64 0), (.int .i64 0), (.int .i64 0)].toArray)
  | 67 => some (.agg [(.int .i64 0), (.int .i64 0), (.int .i64 0), (.int .i64 0), (.int .i64 0), (.int .i64 0), (.int .i64 0), (.int .i64 0), (.int .i64 0), (.int .i64 0)].toArray)
  | 70 => some (.map none)
  | 71 => some (.agg [(.map none)].toArray)
  | 72 => some (.agg [(.map none)].toArray)
  | 73 => some (.pointer none)
  | 74 => some (.agg [(.int .i64 0), (.int .i64 0), (.int .i64 0), (.int .i64 0), (.int .i64 0), (.int .i64 0), .nilIface].toArray)
  | 75 => some (.agg [(.int .i64 0), (.int .i64 0), (.int .i64 0), (.int .i64 0), (.int .i64 0), (.int .i64 0), .nilIface].toArray)
  | 84 => some (.agg [(.pointer none), (.pointer none)].toArray)
  | 85 => some (.agg [(.pointer none), (.pointer none)].toArray)
  | 87 => some (.agg [(.int .i64 0), (.int .i64 0)].toArray)
  | 88 => some (.agg [(.int .i64 0), (.int .i64 0)].toArray)
  | 89 => some (.pointer none)
  | 90 => some (.pointer none)
  | 91 => some (.agg [(.pointer none), (.pointer none)].toArray)
  | 92 => some (.agg [(.pointer none), (.pointer none)].toArray)
  | 94 => some (.pointer none)
  | 95 => some (.agg [(.int .i64 0), (.bool false)].toArray)
  | 96 => some (.agg [(.int .i64 0), (.bool false)].toArray)
  | 97 => some (.slice none 0 0)
  | 98 => some (.agg [(.int .i64 0), (.int .i64 0), (.int .i64 0), (.int .i64 0), (.int .i64 0), (.int .i64 0), (.int .i64 0), (.int .i64 0), (.bool false)].toArray)
  | 99 => some (.agg [(.int .i64 0), (.int .i64 0), (.int .i64 0), (.int .i64 0), (.int .i64 0), (.int .i64 0), (.int .i64 0), (.int .i64 0), (.bool false)].toArray)
  | 100 => some (.slice none 0 0)
  | 102 => some .nilFunc
  | 103 => some (.agg [.nilFunc, .nilFunc, .nilFunc, .nilFunc, .nilFunc].toArray)
  | 105 => some (.map none)
  | 106 => some (.map none)
  | 118 => some (.slice none 0 0)
  | 119 => some (.agg [(.int .i64 0), (.int .i64 0), (.pointer none), (.slice none 0 0), (.slice none 0 0)].toArray)
  | 120 => some (.agg [(.int .i64 0), (.int .i64 0), (.pointer none), (.slice none 0 0), (.slice none 0 0)].toArray)
  | 123 => some (.pointer none)
  | 130 => some (.slice none 0 0)
  | 131 => some (.slice none 0 0)
  | 132 => some (.agg [(.pointer none), (.int .i64 0), (.slice none 0 0), (.int .i64 0), (.slice none 0 0), (.bool false), (.bool false), (.slice none 0 0), (.slice none 0 0)].toArray)
  | 133 => some (.agg [(.pointer none), (.int .i64 0), (.slice none 0 0), (.int .i64 0), (.slice none 0 0), (.bool false), (.bool false), (.slice none 0 0), (.slice none 0 0)].toArray)
  | 134 => some (.agg [(.int .i64 0), (.int .i64 0), (.int .i64 0), (.int .i64 0), (.int .i64 0), (.int .i64 0), (.int .i64 0)].toArray)
  | 135 => some (.agg [(.int .i64 0), (.int .i64 0), (.int .i64 0), (.int .i64 0), (.int .i64 0), (.int .i64 0), (.int .i64 0)].toArray)
  | 136 => some (.agg [(.bool false), (.int .i64 0), (.int .i64 0), (.int .i64 0), (.int .i64 0), (.int .i64 0), (.int .i64 0), (.int .i64 0), (.int .i64 0), (.int .i64 0), (.int .i64 0), (.int .i64 0), (.int .i64 0), (.int .i64 0), (.int .i64 0), (.int .i64 0), (.bool false), (.pointer none), (.int .i64 0), (.slice none 0 0)].toArray)
  | 137 => some (.agg [(.bool false), (.int .i64 0), (.int .i64 0), (.int .i64 0), (.int .i64 0), (.int .i64 0), (.int .i64 0), (.int .i64 0), (.int .i64 0), (.int .i64 0), (.int .i64 0), (.int .i64 0), (.int .i64 0), (.int .i64 0), (.int .i64 0), (.int .i64 0), (.bool false), (.pointer none), (.int .i64 0), (.slice none 0 0)].toArray)
  | 152 => some (.int .u64 0)
  | 156 => some (.int .i64 0)
  | 164 => some (.int .u32 0)
  | 166 => some (.int .u64 0)
  | 167 => some (.int .u64 0)
  | 171 => some (.pointer none)
  | 173 => some (.pointer none)
  | 176 => some (.pointer none)
  | 186 => some (.pointer none)
  | 191 => some (.agg [].toArray)
  | 192 => some (.agg [].toArray)
  | _ => none
def zFL : List (Nat × Nat × Nat) := [(37, 0, 0), (37, 1, 1), (37, 2, 2), (37, 3, 3), (37, 4, 4), (37, 5, 5), (38, 0, 0), (38, 1, 1), (38, 2, 2), (38, 3, 3), (38, 4, 4), (38, 5, 5), (43, 0, 0), (43, 1, 1), (43, 2, 2), (43, 3, 3), (44, 0, 0), (44, 1, 1), (44, 2, 2), (44, 3, 3), (46, 0, 0), (47, 0, 0), (51, 0, 0), (51, 1, 7), (52, 0, 0), (52, 1, 7), (62, 0, 0), (62, 1, 1), (62, 2, 2), (63, 0, 0), (63, 1, 1), (63, 2, 2), (64, 0, 0), (64, 1, 1), (64, 2, 2), (65, 0, 0), (65, 1, 1), (65, 2, 2), (66, 0, 0), (66, 1, 1), (66, 2, 2), (66, 3, 3), (66, 4, 4), (67, 0, 0), (67, 1, 1), (67, 2, 2), (67, 3, 3), (67, 4, 4), (71, 0, 0), (72, 0, 0), (74, 0, 0), (74, 1, 6), (75, 0, 0), (75, 1, 6), (84, 0, 0), (84, 1, 1), (85, 0, 0), (85, 1, 1), (87, 0, 0), (87, 1, 1), (88, 0, 0), (88, 1, 1), (91, 0, 0), (91, 1, 1), (92, 0, 0), (92, 1, 1), (95, 0, 0), (95, 1, 1), (96, 0, 0), (96, 1, 1), (98, 0, 0), (98, 1, 1), (98, 2, 2), (98, 3, 8), (99, 0, 0), (99, 1, 1), (99, 2, 2), (99, 3, 8), (119, 0, 0), (119, 1, 2), (119, 2, 3), (119, 3, 4), (120, 0, 0), (120, 1, 2), (120, 2, 3), (120, 3, 4), (132, 0, 0), (132, 1, 1), (132, 2, 2), (132, 3, 3), (132, 4, 4), (132, 5, 5), (132, 6, 6), (132, 7, 7), (132, 8, 8), (133, 0, 0), (133, 1, 1), (133, 2, 2), (133, 3, 3), (133, 4, 4), (133, 5, 5), (133, 6, 6), (133, 7, 7), (133, 8, 8), (134, 0, 0), (134, 1, 1), (135, 0, 0), (135, 1, 1), (136, 0, 0), (136, 1, 1), (136, 2, 2), (136, 3, 8), (136, 4, 17), (136, 5, 18), (136, 6, 19), (137, 0, 0), (137, 1, 1), (137, 2, 2), (137, 3, 8), (137, 4, 17), (137, 5, 18), (137, 6, 19)]
def zF1 : Nat → List (Nat × Nat)
  | 37 => [(0, 0), (1, 1), (2, 2), (3, 3), (4, 4), (5, 5)]
  | 38 => [(0, 0), (1, 1), (2, 2), (3, 3), (4, 4), (5, 5)]
  | 43 => [(0, 0), (1, 1), (2, 2), (3, 3)]
  | 44 => [(0, 0), (1, 1), (2, 2), (3, 3)]
  | 46 => [(0, 0)]
  | 47 => [(0, 0)]
  | 51 => [(0, 0), (1, 7)]
  | 52 => [(0, 0), (1, 7)]
  | 62 => [(0, 0), (1, 1), (2, 2)]
  | 63 => [(0, 0), (1, 1), (2, 2)]
  | 64 => [(0, 0), (1, 1), (2, 2)]
  | 65 => [(0, 0), (1, 1), (2, 2)]
  | 66 => [(0, 0), (1, 1), (2, 2), (3, 3), (4, 4)]
  | 67 => [(0, 0), (1, 1), (2, 2), (3, 3), (4, 4)]
  | 71 => [(0, 0)]
  | 72 => [(0, 0)]
  | 74 => [(0, 0), (1, 6)]
  | 75 => [(0, 0), (1, 6)]
  | 84 => [(0, 0), (1, 1)]
  | 85 => [(0, 0), (1, 1)]
  | 87 => [(0, 0), (1, 1)]
  | 88 => [(0, 0), (1, 1)]
  | 91 => [(0, 0), (1, 1)]
  | 92 => [(0, 0), (1, 1)]
  | 95 => [(0, 0), (1, 1)]
  | 96 => [(0, 0), (1, 1)]
  | 98 => [(0, 0), (1, 1), (2, 2), (3, 8)]
  | 99 => [(0, 0), (1, 1), (2, 2), (3, 8)]
  | 119 => [(0, 0), (1, 2), (2, 3), (3, 4)]
  | 120 => [(0, 0), (1, 2), (2, 3), (3, 4)]
  | 132 => [(0, 0), (1, 1), (2, 2), (3, 3), (4, 4), (5, 5), (6, 6), (7, 7), (8, 8)]
  | 133 => [(0, 0), (1, 1), (2, 2), (3, 3), (4, 4), (5, 5), (6, 6), (7, 7), (8, 8)]
  | 134 => [(0, 0), (1, 1)]
  | 135 => [(0, 0), (1, 1)]
  | 136 => [(0, 0), (1, 1), (2, 2), (3, 8), (4, 17), (5, 18), (6, 19)]
  | 137 => [(0, 0), (1, 1), (2, 2), (3, 8), (4, 17), (5, 18), (6, 19)]
  | _ => []
theorem zU_all : [2, 3, 4, 5, 12, 20, 21, 22, 24, 25, 27, 29, 31, 32, 34, 37, 38, 40, 42, 43, 44, 45, 46, 47, 51, 52, 56, 57, 58, 59, 60, 61, 62, 63, 64, 65, 66, 67, 70, 71, 72, 73, 74, 75, 84, 85, 87, 88, 89, 90, 91, 92, 94, 95, 96, 97, 98, 99, 100, 102, 103, 105, 106, 118, 119, 120, 123, 130, 131, 132, 133, 134, 135, 136, 137, 152, 156, 164, 166, 167, 171, 173, 176, 186, 191, 192].all (fun t => (Tryd.prog.info? t).isSome) = true := by kernel_rfl
theorem u_ok {t : Nat} {D : TypeDesc} (h : zU t = some D) : Tryd.prog.underlying t = some D := by
  unfold zU at h
  split at h <;> first | (cases h; done) | (rw [← h]; kernel_rfl)
theorem s_ok {t m : Nat} (h : zS t = some m) : szOf Tryd.prog t = some m := by
  unfold zS at h
  split at h <;> first | (cases h; done) | (rw [← h]; kernel_rfl)
theorem b_ok {t m : Nat} (h : zB t = some m) : byOf Tryd.prog t = some m := by
  unfold zB at h
  split at h <;> first | (cases h; done) | (rw [← h]; kernel_rfl)
theorem z_ok {t : Nat} {v : Value} (h : zZ t = some v) : zrOf Tryd.prog t = some v := by
  unfold zZ at h
  split at h <;> first | (cases h; done) | (rw [← h]; kernel_rfl)
def look : List (Nat × Nat) → Nat → Option Nat
  | [], _ => none
  | (a, c) :: r, f => bif Nat.beq a f then some c else look r f
def zF (s f : Nat) : Option Nat := look (zF1 s) f
def fieldB (P : Program) (s f k : Nat) : Bool :=
  match P.underlying s with
  | some (.struct fs) => match fs[f]? with
    | some fi => fi.offset == k && (match szOf P fi.type with | some (_ + 1) => true | _ => false)
    | none => false
  | _ => false
theorem field_of {P : Program} {s f k : Nat} (h : fieldB P s f k = true) : FieldAt P s f k := by
  unfold fieldB at h
  split at h
  · rename_i fs hu
    split at h
    · rename_i fi hf
      simp only [Bool.and_eq_true, beq_iff_eq] at h
      obtain ⟨ho, hz⟩ := h
      split at hz
      · rename_i m hm
        exact ⟨fs, fi, m, hu, hf, ho, hm⟩
      · cases hz
    · cases h
  · cases h
theorem look_mem : ∀ {l : List (Nat × Nat)} {f c : Nat}, look l f = some c → (f, c) ∈ l
  | [], _, _, h => by cases h
  | (a, x) :: r, f, c, h => by
    unfold look at h
    cases hb : Nat.beq a f with
    | true =>
      rw [hb] at h
      have := Nat.eq_of_beq_eq_true hb
      cases h
      subst this
      exact List.mem_cons_self
    | false =>
      rw [hb] at h
      exact List.mem_cons_of_mem _ (look_mem h)
def zFok (P : Program) (s : Nat) : Bool := (zF1 s).all fun x => fieldB P s x.1 x.2
theorem zF_all {s : Nat} : zFok Tryd.prog s = true := by
  by_cases h : s < 300
  · have hall : (List.range 300).all (zFok Tryd.prog) = true := by kernel_rfl
    exact List.all_eq_true.1 hall s (List.mem_range.2 h)
  · unfold zFok zF1
    split <;> first | omega | rfl
theorem fa_ok {s f k : Nat} (h : zF s f = some k) : FieldAt Tryd.prog s f k :=
  field_of (List.all_eq_true.1 zF_all (f, k) (look_mem h))
theorem mixed : Tryd.prog.follows .mixedOrders = true := by kernel_rfl
end Go.Proofs.YtikgdndhgoanhaaDoor
