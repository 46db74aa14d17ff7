/- The library's slices.Sorted over maps.Keys at this program, by the contracts of the shelf: a new slice of the map's keys, sorted. -/
import Derived.Shelf.SlIter.Nil
import Derived.Shelf.SortM.Plain
import Derived.Shelf.SortM.SortNone
import Derived.Ground.GgzProg
import Derived.Ground.SlgmProg
import Derived.Test.YtkkmjffepdejnaaDoorProg
namespace Go.Proofs
open Go.RowKit Go.Maps Go.Sort Go.Shelf

def Tryd.keys149_ren : Go.Shelf.Ren := ⟨fun | 7 => 149 | 10 => 157 | n => n, fun | 23 => 95 | 26 => 9 | 3 => 53 | 28 => 182 | 0 => 0 | 27 => 181 | 33 => 109 | 4 => 4 | n => n, fun | n => n⟩
theorem Tryd.keys149 : Go.Proofs.SlLaysZ.n7 Tryd.prog Tryd.keys149_ren := {
  mixed := by kernel_rfl
  f7 := ⟨Tryd.f149.name, by decide, Tryd.func149.trans (congrArg some (by kernel_rfl))⟩
  f10 := ⟨Tryd.f157.name, by decide, Tryd.func157.trans (congrArg some (by kernel_rfl))⟩
  t0 := Tryd.underlying0
  a0 := Tryd.isAgg0
  z0 := Tryd.sizeOf0
  v0 := Tryd.zeroValue0
  t4 := Tryd.underlying4
  a4 := Tryd.isAgg4
  z4 := Tryd.sizeOf4
  v4 := Tryd.zeroValue4
  t23 := Tryd.underlying95
  a23 := Tryd.isAgg95
  z23 := Tryd.sizeOf95
  v23 := Tryd.zeroValue95
  t26 := Tryd.underlying9
  a26 := Tryd.isAgg9
  z26 := Tryd.sizeOf9
  v26 := Tryd.zeroValue9
  t27 := Tryd.underlying181
  a27 := Tryd.isAgg181
  z27 := Tryd.sizeOf181
  v27 := Tryd.zeroValue181
  t28 := Tryd.underlying182
  a28 := Tryd.isAgg182
  z28 := Tryd.sizeOf182
  v28 := Tryd.zeroValue182
  t33 := Tryd.underlying109
  a33 := Tryd.isAgg109
  z33 := Tryd.sizeOf109
  v33 := Tryd.zeroValue109 }
def Tryd.sorted148_ren : Go.Shelf.Ren := ⟨fun | 6 => 148 | 8 => 155 | 9 => 156 | 11 => 160 | 13 => 162 | 12 => 161 | 23 => 172 | 24 => 173 | 14 => 163 | 15 => 164 | 16 => 165 | 17 => 166 | 18 => 167 | 19 => 168 | 20 => 169 | 21 => 170 | 22 => 171 | 25 => 174 | 26 => 175 | 27 => 176 | 28 => 177 | 29 => 178 | 30 => 179 | 31 => 180 | n => n, fun | 26 => 9 | 28 => 182 | 24 => 50 | 0 => 0 | 3 => 3 | 37 => 155 | 48 => 224 | 50 => 152 | 4 => 4 | 40 => 216 | 39 => 215 | 45 => 221 | 5 => 5 | 9 => 9 | 51 => 226 | 55 => 230 | 57 => 232 | 58 => 233 | 33 => 109 | n => n, fun | n => n⟩
theorem Tryd.sorted148 : Go.Proofs.SlLaysZ.n6 Tryd.prog Tryd.sorted148_ren := {
  mixed := by kernel_rfl
  f6 := ⟨Tryd.f148.name, by decide, Tryd.func148.trans (congrArg some (by kernel_rfl))⟩
  f8 := ⟨Tryd.f155.name, by decide, Tryd.func155.trans (congrArg some (by kernel_rfl))⟩
  f11 := ⟨Tryd.f160.name, by decide, Tryd.func160.trans (congrArg some (by kernel_rfl))⟩
  t0 := Tryd.underlying0
  a0 := Tryd.isAgg0
  z0 := Tryd.sizeOf0
  v0 := Tryd.zeroValue0
  t24 := Tryd.underlying50
  a24 := Tryd.isAgg50
  z24 := Tryd.sizeOf50
  v24 := Tryd.zeroValue50
  t26 := Tryd.underlying9
  a26 := Tryd.isAgg9
  z26 := Tryd.sizeOf9
  v26 := Tryd.zeroValue9
  t28 := Tryd.underlying182
  a28 := Tryd.isAgg182
  z28 := Tryd.sizeOf182
  v28 := Tryd.zeroValue182
  i26 := by kernel_rfl }
def Tryd.sort156_ren : Go.Shelf.Ren := ⟨fun | 6 => 156 | 8 => 162 | 9 => 161 | 19 => 172 | 20 => 173 | 21 => 163 | 22 => 164 | 23 => 165 | 24 => 166 | 25 => 167 | 26 => 168 | 27 => 169 | 28 => 170 | 29 => 171 | 36 => 174 | 31 => 175 | 32 => 176 | 37 => 177 | 38 => 178 | 39 => 179 | 41 => 180 | n => n, fun | 27 => 50 | 29 => 9 | 3 => 3 | 32 => 155 | 26 => 50 | 0 => 0 | 44 => 224 | 46 => 152 | 4 => 4 | 36 => 216 | 35 => 215 | 41 => 221 | 5 => 5 | 9 => 9 | 53 => 226 | 57 => 230 | 63 => 232 | 64 => 233 | n => n, fun | n => n⟩
theorem Tryd.sort156 : Go.Proofs.SlLaysM.n6 Tryd.prog Tryd.sort156_ren := {
  mixed := by kernel_rfl
  f6 := ⟨Tryd.f156.name, by decide, Tryd.func156.trans (congrArg some (by kernel_rfl))⟩
  f8 := Tryd.func162.trans (congrArg some (by kernel_rfl))
  f9 := ⟨Tryd.f161.name, by decide, Tryd.func161.trans (congrArg some (by kernel_rfl))⟩
  f19 := Tryd.func172.trans (congrArg some (by kernel_rfl))
  f20 := Tryd.func173.trans (congrArg some (by kernel_rfl))
  f21 := ⟨Tryd.f163.name, by decide, Tryd.func163.trans (congrArg some (by kernel_rfl))⟩
  f22 := ⟨Tryd.f164.name, by decide, Tryd.func164.trans (congrArg some (by kernel_rfl))⟩
  f23 := ⟨Tryd.f165.name, by decide, Tryd.func165.trans (congrArg some (by kernel_rfl))⟩
  f24 := ⟨Tryd.f166.name, by decide, Tryd.func166.trans (congrArg some (by kernel_rfl))⟩
  f25 := ⟨Tryd.f167.name, by decide, Tryd.func167.trans (congrArg some (by kernel_rfl))⟩
  f26 := ⟨Tryd.f168.name, by decide, Tryd.func168.trans (congrArg some (by kernel_rfl))⟩
  f27 := ⟨Tryd.f169.name, by decide, Tryd.func169.trans (congrArg some (by kernel_rfl))⟩
  f28 := ⟨Tryd.f170.name, by decide, Tryd.func170.trans (congrArg some (by kernel_rfl))⟩
  f29 := ⟨Tryd.f171.name, by decide, Tryd.func171.trans (congrArg some (by kernel_rfl))⟩
  f31 := Tryd.func175.trans (congrArg some (by kernel_rfl))
  f32 := Tryd.func176.trans (congrArg some (by kernel_rfl))
  f36 := ⟨Tryd.f174.name, by decide, Tryd.func174.trans (congrArg some (by kernel_rfl))⟩
  f37 := ⟨Tryd.f177.name, by decide, Tryd.func177.trans (congrArg some (by kernel_rfl))⟩
  f38 := ⟨Tryd.f178.name, by decide, Tryd.func178.trans (congrArg some (by kernel_rfl))⟩
  f39 := ⟨Tryd.f179.name, by decide, Tryd.func179.trans (congrArg some (by kernel_rfl))⟩
  f41 := ⟨Tryd.f180.name, by decide, Tryd.func180.trans (congrArg some (by kernel_rfl))⟩
  t0 := Tryd.underlying0
  a0 := Tryd.isAgg0
  z0 := Tryd.sizeOf0
  v0 := Tryd.zeroValue0
  t3 := Tryd.underlying3
  a3 := Tryd.isAgg3
  z3 := Tryd.sizeOf3
  v3 := Tryd.zeroValue3
  t4 := Tryd.underlying4
  a4 := Tryd.isAgg4
  z4 := Tryd.sizeOf4
  v4 := Tryd.zeroValue4
  t5 := Tryd.underlying5
  a5 := Tryd.isAgg5
  z5 := Tryd.sizeOf5
  v5 := Tryd.zeroValue5
  t9 := Tryd.underlying9
  a9 := Tryd.isAgg9
  z9 := Tryd.sizeOf9
  v9 := Tryd.zeroValue9
  t26 := Tryd.underlying50
  a26 := Tryd.isAgg50
  z26 := Tryd.sizeOf50
  v26 := Tryd.zeroValue50
  t27 := Tryd.underlying50
  a27 := Tryd.isAgg50
  z27 := Tryd.sizeOf50
  v27 := Tryd.zeroValue50
  t29 := Tryd.underlying9
  a29 := Tryd.isAgg9
  z29 := Tryd.sizeOf9
  v29 := Tryd.zeroValue9
  t32 := Tryd.underlying155
  a32 := Tryd.isAgg155
  z32 := Tryd.sizeOf155
  v32 := Tryd.zeroValue155
  t35 := Tryd.underlying215
  a35 := Tryd.isAgg215
  z35 := Tryd.sizeOf215
  v35 := Tryd.zeroValue215
  t36 := Tryd.underlying216
  a36 := Tryd.isAgg216
  z36 := Tryd.sizeOf216
  v36 := Tryd.zeroValue216
  t41 := Tryd.underlying221
  a41 := Tryd.isAgg221
  z41 := Tryd.sizeOf221
  v41 := Tryd.zeroValue221
  t44 := Tryd.underlying224
  a44 := Tryd.isAgg224
  z44 := Tryd.sizeOf224
  v44 := Tryd.zeroValue224
  t46 := Tryd.underlying152
  a46 := Tryd.isAgg152
  z46 := Tryd.sizeOf152
  v46 := Tryd.zeroValue152
  t53 := Tryd.underlying226
  a53 := Tryd.isAgg226
  z53 := Tryd.sizeOf226
  v53 := Tryd.zeroValue226
  t57 := Tryd.underlying230
  a57 := Tryd.isAgg230
  z57 := Tryd.sizeOf230
  v57 := Tryd.zeroValue230
  t63 := Tryd.underlying232
  a63 := Tryd.isAgg232
  z63 := Tryd.sizeOf232
  v63 := Tryd.zeroValue232
  t64 := Tryd.underlying233
  a64 := Tryd.isAgg233
  z64 := Tryd.sizeOf233
  v64 := Tryd.zeroValue233 }


theorem Tryd.sorts148 (m : Nat) : AnyZ.SortsIn Tryd.prog Tryd.sorted148_ren Fence.wide m :=
  ⟨fun blk off cap ss W hH hblk hsz => callsIn_wide.2 (AnyM.slices_Sort_string Tryd.sort156 blk off cap ss W hH hblk hsz),
   fun p cap W => callsIn_wide.2 (AnyM.slices_Sort_string_none Tryd.sort156 p cap W)⟩

theorem Tryd.maps_Keys_149 (mb : Option Nat) (W : World) : CallsIn Fence.wide 5 Tryd.prog 149 #[.map mb] W fun e w' => e = .returned (.func (.func 157) #[] #[.pointer (some ⟨W.heap.size, 0, none⟩)]) ∧ w' = W.alloc (.cells #[.map mb] 95) :=
  AnyZ.keys_in Tryd.keys149 Fence.wide 5 trivial rfl mb W

set_option maxHeartbeats 1000000 in
theorem Tryd.slices_Sorted_keys_148_149 {H : Type} (b nn : Nat) (D0 : DataW H) (R : Value → Option (DataW H × List MemPlace)) (w : World) (hown : w.ownsMap Tryd.prog 9 R b nn D0) (hmax : Maps.size D0 ≤ maxLen) (hbytes : Maps.size D0 * 16 ≤ 140737488355328) :
    CallsIn Fence.wide 5 Tryd.prog 148 #[.func (.func 157) #[] #[.pointer (some ⟨w.heap.size, 0, none⟩)]] (w.alloc (.cells #[.map (some b)] 95)) fun e w' => ∃ (v : Value) (ss : List (List UInt8)), e = .returned v ∧ ss.Perm (strKeys D0) ∧
      w'.ownsRow (w.alloc (.cells #[.map (some b)] 95)).heap.size 9 1 v ss.length ((ss.mergeSort (fun x y => decide (x ≤ y))).map encStr) ∧ (v = .slice none 0 0 ↔ ss = []) ∧ Below (w.alloc (.cells #[.map (some b)] 95)).heap.size (w.alloc (.cells #[.map (some b)] 95)) w' := by
  have hbl := hown.lt
  have hseq : SeqGives Fence.wide 2 Tryd.prog 157 #[.pointer (some ⟨w.heap.size, 0, none⟩)] encStr (fun ss => ss.Perm (strKeys D0)) (Maps.size D0) (w.alloc (.cells #[.map (some b)] 95)) :=
    AnyZ.keys_gives (ρ := Tryd.keys149_ren) { Tryd.keys149 with } Fence.wide _ trivial rfl (by omega) w.heap.size b nn D0 _ (by simp) (by simp) (by
      obtain ⟨es, clock, hb, Ft, hs, hD⟩ := hown
      exact ⟨es, clock, (Below.heap_alloc _ _ b hbl).trans hb, Ft, hs, hD⟩)
  exact AnyZ.sorted_in Tryd.sorted148 Fence.wide 5 trivial trivial trivial trivial rfl (by omega) (Tryd.sorts148 _) (enters_of Tryd.func156 (by kernel_rfl) rfl) 157 #[.pointer (some ⟨w.heap.size, 0, none⟩)] trivial (enters_of Tryd.func157 (by kernel_rfl) rfl) _ _ hmax hbytes _ hseq

set_option maxHeartbeats 1000000 in
theorem Tryd.slices_Sorted_keys_nil_148_149 (w : World) :
    CallsIn Fence.wide 5 Tryd.prog 148 #[.func (.func 157) #[] #[.pointer (some ⟨w.heap.size, 0, none⟩)]] (w.alloc (.cells #[.map none] 95)) fun e w' => ∃ (v : Value) (ss : List (List UInt8)), e = .returned v ∧ ss = [] ∧
      w'.ownsRow (w.alloc (.cells #[.map none] 95)).heap.size 9 1 v ss.length ((ss.mergeSort (fun x y => decide (x ≤ y))).map encStr) ∧ (v = .slice none 0 0 ↔ ss = []) ∧ Below (w.alloc (.cells #[.map none] 95)).heap.size (w.alloc (.cells #[.map none] 95)) w' := by
  have hseq : SeqGives Fence.wide 2 Tryd.prog 157 #[.pointer (some ⟨w.heap.size, 0, none⟩)] encStr (fun ss : List (List UInt8) => ss = []) 0 (w.alloc (.cells #[.map none] 95)) :=
    AnyZ.keys_gives_nil (ρ := Tryd.keys149_ren) { Tryd.keys149 with } Fence.wide _ trivial rfl w.heap.size _ (by simp) (by simp)
  exact AnyZ.sorted_in Tryd.sorted148 Fence.wide 5 trivial trivial trivial trivial rfl (by omega) (Tryd.sorts148 _) (enters_of Tryd.func156 (by kernel_rfl) rfl) 157 #[.pointer (some ⟨w.heap.size, 0, none⟩)] trivial (enters_of Tryd.func157 (by kernel_rfl) rfl) _ 0 (Nat.zero_le _) (by omega) _ hseq

end Go.Proofs
