/- strings.SplitN at a separator of one byte, strings.Clone: the library's contracts. -/
import Derived.Test.YtolcnbiaiolcoaaDoorBase
import Derived.Test.YtolcnbiaiolcoaaDoorNmM
import Derived.Shelf.Strings.Split
import Derived.Shelf.Strconv.Clone
namespace Go.Proofs.YtolcnbiaiolcoaaDoor
open Go.RowKit Go.Shelf

def splitA_ren : Go.Shelf.Ren := ⟨fun | 147 => 17 | 221 => 21 | 268 => 23 | 138 => 24 | 143 => 25 | 195 => 26 | 197 => 27 | 218 => 28 | 219 => 29 | 260 => 30 | 217 => 31 | 225 => 32 | 224 => 33 | 267 => 34 | 266 => 35 | 314 => 36 | n => n, fun | 9 => 9 | 3 => 3 | 31 => 23 | 4 => 4 | 0 => 0 | 105 => 47 | 21 => 21 | 5 => 5 | 46 => 51 | 119 => 52 | 139 => 55 | 138 => 54 | 146 => 57 | 51 => 56 | n => n, fun | 1 => 0 | 3 => 1 | 4 => 2 | n => n⟩
theorem splitA : Lays.n147 Tryd.prog splitA_ren := {
  mixed := by kernel_rfl,
  f138 := Tryd.func24.trans (congrArg some (by kernel_rfl)),
  f143 := Tryd.func25.trans (congrArg some (by kernel_rfl)),
  f147 := Tryd.func17.trans (congrArg some (by kernel_rfl)),
  f195 := Tryd.func26.trans (congrArg some (by kernel_rfl)),
  f197 := Tryd.func27.trans (congrArg some (by kernel_rfl)),
  f217 := Tryd.func31.trans (congrArg some (by kernel_rfl)),
  f218 := Tryd.func28.trans (congrArg some (by kernel_rfl)),
  f219 := Tryd.func29.trans (congrArg some (by kernel_rfl)),
  f221 := Tryd.func21.trans (congrArg some (by kernel_rfl)),
  f224 := Tryd.func33.trans (congrArg some (by kernel_rfl)),
  f225 := Tryd.func32.trans (congrArg some (by kernel_rfl)),
  f260 := Tryd.func30.trans (congrArg some (by kernel_rfl)),
  f266 := Tryd.func35.trans (congrArg some (by kernel_rfl)),
  f267 := Tryd.func34.trans (congrArg some (by kernel_rfl)),
  f268 := Tryd.func23.trans (congrArg some (by kernel_rfl)),
  f314 := Tryd.func36.trans (congrArg some (by kernel_rfl)),
  t0 := Tryd.underlying0,
  a0 := Tryd.isAgg0,
  z0 := Tryd.sizeOf0,
  v0 := Tryd.zeroValue0,
  t3 := Tryd.underlying3,
  a3 := Tryd.isAgg3,
  z3 := Tryd.sizeOf3,
  v3 := Tryd.zeroValue3,
  t4 := Tryd.underlying4,
  a4 := Tryd.isAgg4,
  z4 := Tryd.sizeOf4,
  v4 := Tryd.zeroValue4,
  t5 := Tryd.underlying5,
  a5 := Tryd.isAgg5,
  z5 := Tryd.sizeOf5,
  v5 := Tryd.zeroValue5,
  t9 := Tryd.underlying9,
  a9 := Tryd.isAgg9,
  z9 := Tryd.sizeOf9,
  v9 := Tryd.zeroValue9,
  t21 := Tryd.underlying21,
  a21 := Tryd.isAgg21,
  z21 := Tryd.sizeOf21,
  v21 := Tryd.zeroValue21,
  t31 := Tryd.underlying23,
  a31 := Tryd.isAgg23,
  z31 := Tryd.sizeOf23,
  v31 := Tryd.zeroValue23,
  t46 := Tryd.underlying51,
  a46 := Tryd.isAgg51,
  z46 := Tryd.sizeOf51,
  v46 := Tryd.zeroValue51,
  t51 := Tryd.underlying56,
  a51 := Tryd.isAgg56,
  z51 := Tryd.sizeOf56,
  v51 := Tryd.zeroValue56,
  t105 := Tryd.underlying47,
  a105 := Tryd.isAgg47,
  z105 := Tryd.sizeOf47,
  v105 := Tryd.zeroValue47,
  t119 := Tryd.underlying52,
  a119 := Tryd.isAgg52,
  z119 := Tryd.sizeOf52,
  t138 := Tryd.underlying54,
  a138 := Tryd.isAgg54,
  z138 := Tryd.sizeOf54,
  v138 := Tryd.zeroValue54,
  t139 := Tryd.underlying55,
  a139 := Tryd.isAgg55,
  z139 := Tryd.sizeOf55,
  v139 := Tryd.zeroValue55,
  t146 := Tryd.underlying57,
  a146 := Tryd.isAgg57,
  z146 := Tryd.sizeOf57,
  v146 := Tryd.zeroValue57,
  g1 := by kernel_rfl,
  g3 := by kernel_rfl,
  g4 := by kernel_rfl }
def cloneA_ren : Go.Shelf.Ren := ⟨fun | 316 => 22 | n => n, fun | 9 => 9 | 3 => 3 | 4 => 4 | 37 => 44 | 0 => 0 | 127 => 45 | 5 => 5 | n => n, fun | n => n⟩
theorem cloneA : LaysM.n316 Tryd.prog cloneA_ren := {
  mixed := by kernel_rfl,
  f316 := Tryd.func22.trans (congrArg some (by kernel_rfl)),
  t0 := Tryd.underlying0,
  a0 := Tryd.isAgg0,
  z0 := Tryd.sizeOf0,
  v0 := Tryd.zeroValue0,
  t3 := Tryd.underlying3,
  a3 := Tryd.isAgg3,
  z3 := Tryd.sizeOf3,
  v3 := Tryd.zeroValue3,
  t4 := Tryd.underlying4,
  a4 := Tryd.isAgg4,
  z4 := Tryd.sizeOf4,
  v4 := Tryd.zeroValue4,
  t9 := Tryd.underlying9,
  a9 := Tryd.isAgg9,
  z9 := Tryd.sizeOf9,
  v9 := Tryd.zeroValue9,
  t37 := Tryd.underlying44,
  a37 := Tryd.isAgg44,
  z37 := Tryd.sizeOf44,
  v37 := Tryd.zeroValue44,
  t127 := Tryd.underlying45,
  a127 := Tryd.isAgg45,
  z127 := Tryd.sizeOf45,
  v127 := Tryd.zeroValue45,
  t5 := Tryd.underlying5,
  a5 := Tryd.isAgg5,
  z5 := Tryd.sizeOf5,
  v5 := Tryd.zeroValue5,
  i0 := by kernel_rfl,
  i3 := by kernel_rfl,
  i4 := by kernel_rfl,
  i5 := by kernel_rfl,
  i9 := by kernel_rfl,
  i37 := by kernel_rfl,
  i127 := by kernel_rfl }
theorem hi9A : (Tryd.prog.info? (splitA_ren.t 9)).map (fun i => (i.zero, i.size, i.bytes)) = some (some (.string ByteArray.empty), 1, 16) := by kernel_rfl

/-- the slash -/
def slash : ByteArray := ⟨#[47]⟩
set_option maxRecDepth 3000 in
set_option maxHeartbeats 1000000 in
/-- strings.SplitN at a slash, at most n pieces. -/
theorem splitN_call (s : ByteArray) (n : Nat) (w : World) (hs : s.size < 4294967281) (hn : 1 ≤ n) (hn63 : n ≤ 1000000) :
    Calls Tryd.prog 17 #[.string s, .string ⟨#[47]⟩, .int .i64 n] w fun e w' =>
      e = .returned (.slice (some ⟨w.heap.size, 0, none⟩) (Lib.splitB slash 0 (min n (s.size + 1) - 1) s).length (min n (s.size + 1))) ∧ w' = w.alloc (.cells (Lib.cellsOf (Lib.splitB slash 0 (min n (s.size + 1) - 1) s) (min n (s.size + 1))) 9) := by
  have L := splitA
  have c := Any.strings_genSplit_core (P := Tryd.prog) (ρ := splitA_ren) { L with } hi9A s slash 0 (n : Int) (min n (s.size + 1)) w hs (by decide) (Nat.zero_le _)
    (fun x c _ => (Any.strings_Index_one { L with } x 47 _).mono fun e w' ⟨he, hw⟩ => ⟨by
      rw [he]
      show _ = Ending.returned (Value.int .i64 (Lib.index x.data.toList [47]))
      rw [Lib.index_one], hw⟩)
    ((Any.strings_Count_one { L with } s 47 w).mono fun e w' ⟨he, hw⟩ => ⟨by
      rw [he]
      show _ = Ending.returned (Value.int .i64 ((Lib.count s.data.toList [47] : Nat) : Int))
      rw [Lib.count_one]
      rfl, hw⟩)
    (by omega) (by omega) (by rw [if_neg (by omega)]; omega)
  have e221 : ∀ args w, (callFunc 21 args).run Tryd.prog w = .ok (.enter 21 args) w := enters_of Tryd.func21 (by kernel_rfl) rfl
  go_enter Tryd.func17, Tryd.ntmps17
  go_wp2_with (go_at_fn 21; refine c.mono ?_; rintro e w' ⟨rfl, hw⟩; rw [hw])
  go_ret
  exact ⟨rfl, rfl⟩

set_option maxRecDepth 3000 in
/-- strings.Clone: the same bytes. -/
theorem clone_call (s : ByteArray) (w : World) (hs : s.size ≤ 281474976710656) :
    Calls Tryd.prog 18 #[.string s] w fun e w' => e = .returned (.string s) ∧ Below w.heap.size w w' := by
  have c := Any.stringslite_Clone cloneA s w hs
  have e22 : ∀ args w, (callFunc 22 args).run Tryd.prog w = .ok (.enter 22 args) w := enters_of Tryd.func22 (by kernel_rfl) rfl
  go_enter Tryd.func18, Tryd.ntmps18
  go_wp2_with (go_at_fn 22; refine c.mono ?_; rintro e w' ⟨rfl, hw⟩)
  go_ret
  exact ⟨rfl, hw⟩
end Go.Proofs.YtolcnbiaiolcoaaDoor
