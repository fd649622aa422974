/-
  OWN WORDS: short names.
-/
import Derived.Test.YtmkpekmhhbcifaaGreatDoorProg
namespace Go.Proofs.YtmkpekmhhbcifaaGreatDoor
open Go
abbrev U3 := @Tryz.underlying3
abbrev U4 := @Tryz.underlying4
abbrev U5 := @Tryz.underlying5
abbrev U9 := @Tryz.underlying9
abbrev U23 := @Tryz.underlying23
abbrev U26 := @Tryz.underlying26
abbrev U27 := @Tryz.underlying27
abbrev U30 := @Tryz.underlying30
abbrev U32 := @Tryz.underlying32
abbrev U40 := @Tryz.underlying40
abbrev U46 := @Tryz.underlying46
abbrev U47 := @Tryz.underlying47
abbrev U49 := @Tryz.underlying49
abbrev U51 := @Tryz.underlying51
abbrev U52 := @Tryz.underlying52
abbrev U54 := @Tryz.underlying54
abbrev U55 := @Tryz.underlying55
abbrev U57 := @Tryz.underlying57
abbrev U67 := @Tryz.underlying67
abbrev U69 := @Tryz.underlying69
abbrev U84 := @Tryz.underlying84
abbrev U104 := @Tryz.underlying104
abbrev U112 := @Tryz.underlying112
abbrev U115 := @Tryz.underlying115
abbrev U134 := @Tryz.underlying134
abbrev U140 := @Tryz.underlying140
abbrev U142 := @Tryz.underlying142
abbrev U149 := @Tryz.underlying149
abbrev U155 := @Tryz.underlying155
abbrev U156 := @Tryz.underlying156
abbrev U161 := @Tryz.underlying161
abbrev U200 := @Tryz.underlying200
abbrev U207 := @Tryz.underlying207
abbrev U210 := @Tryz.underlying210
abbrev U216 := @Tryz.underlying216
abbrev U222 := @Tryz.underlying222
abbrev U223 := @Tryz.underlying223
abbrev U225 := @Tryz.underlying225
end Go.Proofs.YtmkpekmhhbcifaaGreatDoor
