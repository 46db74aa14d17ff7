/- The walk of the program's bars of trades: the iterator's pieces, one bar each. -/
import Derived.Test.YtficlppngnnpoaaTapeChunks
import Derived.Test.YtficlppngnnpoaaTapeBarImpl2
import Derived.Maps.AppendAt
import Derived.Deep.DrawnRows
import Derived.Deep.AppendLies
namespace Go.Proofs.Ytficlppngnnpoaa
set_option linter.unusedSimpArgs false
open Go.RowKit Go.Shelf
attribute [local go_sem] Oper.semAt_some
set_option linter.unusedVariables false
theorem Ba.info : (Try.prog.info? 35).map (fun i => (i.zero, i.size, i.bytes)) = some (some (.agg #[.int .i64 0, .int .i64 0, .int .i64 0, .int .i64 0, .int .i64 0]), 5, 40) := by kernel_rfl
set_option maxHeartbeats 400000 in
theorem chunk_any (a : Option Addr) (n c : Nat) (m : Int) (hm : 1 ≤ m) (w : World) :
    Calls Try.prog 44 #[.slice a n c, .int .i64 m] w fun e w' => e = .returned (.func (.func 59) #[] #[.pointer (some ⟨w.heap.size, 0, none⟩), .pointer (some ⟨w.heap.size + 1, 0, none⟩)]) ∧ w' = (w.alloc (.cells #[.slice a n c] 23)).alloc (.cells #[.int .i64 m] 3) := by
  go_enter Try.func44, Try.ntmps44
  go_wp2_with fail
  go_ret
  exact ⟨rfl, rfl⟩

/-- a thing put behind an owned list, at a step of a region inside a fence -/
theorem Ck.step_append {F : Fence} {n : Nat} {P : Program} (w : World) {o : Oper} {a : Act} {K : Act → World → Prop} {Q : Exit → Act → World → Prop} (s x : Operand) (t : TypeId)
    (hop : o.op = Op.call { callee := Callee.builtin Builtin.append, args := #[s, x], argTypes := #[t, t] })
    (base : Nat) (e : TypeId) (i : TypeInfo) (z : Value) (size bytes : Nat) (h1 : P.underlying t = some (.slice e)) (h2 : P.info? e = some i) (h3 : i.zero = some z) (h4 : i.size = size) (h5 : i.bytes = bytes) (h6 : z.cells.size = size) (h7 : 0 < size)
    (v : Value) (k : Nat) (xs : List Value) (hs : a.eval s = v) (hown : w.ownsRow base e size v k xs) (ad : Addr) (m c : Nat) (news : List Value) (hx : a.eval x = .slice (some ad) m c) (hn : news.length = m * size)
    (hc : ∀ j u, news[j]? = some u → w.cell? (ad.add j) = some u) (h1c : ∀ u ∈ news, u.oneCell' = true) (b1 : k + m ≤ maxLen) (b2 : (k + m) * bytes ≤ 140737488355328) (b3 : base ≤ w.heap.size)
    (hK : ∀ v' w', w'.ownsRow base e size v' (k + m) (xs ++ news) → w.grownBy w' v.ownBlock → K (a.put o.dst v') w') :
    Oper.wpIn F n P o a w K Q := by
  obtain ⟨v', w', hrun, r1, r2, r3⟩ := run_append_own (P := P) w base t o.type e i z size bytes h1 h2 h3 h4 h5 h6 h7 v k xs hown ad m c news hn hc h1c b1 b2 b3
  unfold Oper.wpIn
  refine ⟨?_, ?_⟩
  · simp [Oper.about, hop, resolve, Target.leads, Sem.run_pure]
  · rw [Oper.semAt_plain F _ _ (by rw [hop]; intro c hc'; cases hc')]
    simp [execOp, hop, resolve, invoke, builtin, hs, hx, hrun, Result.andThen]
    exact hK v' w' r1 r2

theorem Ck.news (Y : World) (g : Ba.E) : ∀ j u, [Value.int .i64 g.1, .int .i64 g.2.1, .int .i64 g.2.2.1, .int .i64 g.2.2.2.1, .int .i64 g.2.2.2.2][j]? = some u → (Y.alloc (.cells #[.int .i64 g.1, .int .i64 g.2.1, .int .i64 g.2.2.1, .int .i64 g.2.2.2.1, .int .i64 g.2.2.2.2] 35)).cell? ((⟨Y.heap.size, 0, none⟩ : Addr).add j) = some u :=
  World.news_of_block (cs := #[Value.int .i64 g.1, .int .i64 g.2.1, .int .i64 g.2.2.1, .int .i64 g.2.2.2.1, .int .i64 g.2.2.2.2]) (t := 35) (fr := (0, 0)) (heap_alloc_new Y _)
/-- the row of an owned list of bars -/
theorem Ck.row_of {W : World} {base k : Nat} {v : Value} {xs : List Value} (h : W.ownsRow base 35 5 v k xs) : ∀ g, v.ownBlock = some g → base ≤ g ∧ ∃ cs t fr, W.heap[g]? = some (.cells cs t fr) := by
  intro g hg
  rcases h.2 with ⟨rfl, _⟩ | ⟨g', cap, cur, rfl, hb, hgb, _⟩
  · simp [Value.ownBlock] at hg
  · obtain rfl : g' = g := by simpa [Value.ownBlock] using hg
    exact ⟨hb, _, _, _, hgb⟩
theorem Ck.appended {W X w1 : World} {n0 q k m : Nat} {v v' : Value} {xs ys : List Value} (hq : q < n0) (hn : n0 ≤ W.heap.size) (hX : Below W.heap.size W X) (hv : Boxed W q 26 v) (hrow : W.ownsRow n0 35 5 v k xs) (hown : w1.ownsRow n0 35 5 v' m ys) (hg : X.grownBy w1 v.ownBlock) :
    Boxed w1 q 26 v ∧ Hid (KeepsOthers W (w1.setCell ⟨q, 0, none⟩ v') ∧ Ck.Kp q n0 W (w1.setCell ⟨q, 0, none⟩ v') ∧ Boxed (w1.setCell ⟨q, 0, none⟩ v') q 26 v' ∧ (w1.setCell ⟨q, 0, none⟩ v').ownsRow n0 35 5 v' m ys ∧ Below q W (w1.setCell ⟨q, 0, none⟩ v')) := by
  have hr := Ck.row_of hrow
  have hr1 := Ck.row_of hown
  have hx := Ck.row_of (Fk.owns_below hrow hX)
  have hvX : Boxed X q 26 v := (hX.block q (by omega)).trans hv
  have hv1 : Boxed w1 q 26 v := hvX.kept hg (fun e => by have := (hr q e.symm).1; omega)
  refine ⟨hv1, ?_, ?_, hv1.set v', ?_, ?_⟩
  · refine ((KeepsOthers.of_grownBy (Fk.grownBy_below none hX) (fun j o ej => by cases ej)).trans (KeepsOthers.of_grownBy hg fun j o ej hj => ?_)).trans (KeepsOthers.setCell _ _ _)
    obtain ⟨_, cs, t, fr, h1⟩ := hx j ej
    rw [h1] at hj
    cases hj
    rfl
  · refine ⟨?_, fun j hj hjq => ?_⟩
    · have := hX.size
      have := hg.size
      simp
      omega
    · have h1 : w1.heap[j]? = X.heap[j]? := hg.block j (by have := hX.size; omega) (fun e => by have := (hr j e.symm).1; omega)
      have h2 : (w1.setCell ⟨q, 0, none⟩ v').heap[j]? = w1.heap[j]? := (grownBy_setCell' w1 q v').block j (by have := hX.size; have := hg.size; omega) (fun e => hjq (by have h9 := Option.some.inj e; omega))
      rw [h2, h1, hX.block j (by omega)]
  · refine hown.kept (grownBy_setCell' w1 q v') ?_
    rcases hv' : v'.ownBlock with _ | g
    · exact .inl rfl
    · exact .inr (fun e' => by have := (hr1 g hv').1; have h9 : g = q := Option.some.inj e'; omega)
  · have hb1 : Below q W w1 := (hX.mono (by omega)).grown hg (by have := hX.size; omega) (fun j ej => by have := (hr j ej).1; omega)
    exact hb1.setCell (p := ⟨q, 0, none⟩) (Nat.le_refl q) v'

set_option maxRecDepth 100000 in
set_option maxHeartbeats 4000000 in
theorem barsOf_impl (v : Value) (L : List Td.E) (many : Int) (w : World) (hv : Rk.View Td.S w v L) (hfit : ∀ a n c, v = .slice a n c → n ≤ c) (hl : L.length ≤ 1048576) :
    Calls Try.prog 11 #[v, .int .i64 many] w fun e w' => (∃ u, e = .returned u ∧ Rk.Own Ba.S w' w.heap.size 35 u (Tp.barsAll L many)) ∧ Below w.heap.size w w' := by
  have HV := Fk.hide hv
  obtain ⟨a, cap, rfl, hs⟩ := hv
  have hcap : L.length ≤ cap := hfit _ _ _ rfl
  obtain ⟨i0, hi, hz0, hz1, hz2⟩ := info_parts Ba.info
  have HNIL : Hid (∀ W, Rk.Own Ba.S W w.heap.size 35 (.slice none 0 0) []) := fun W => Rk.own_nil W _ _
  obtain ⟨c, hc⟩ : ∃ c, c = Tp.right L := ⟨_, rfl⟩
  have HT := tradesRight_any _ L w HV.out hl
  rw [← hc] at HT
  have HTT := Fk.hide HT
  have HC := Fk.hide hc
  clear hc HT
  cases c with
  | false =>
    have HA : Hid (Tp.barsAll L many = []) := Tp.barsAll_no HC.out.symm
    go_enter Try.func11, Try.ntmps11
    go_wp2_with (go_at_call 42; refine HTT.out.mono ?_; rintro e W1 ⟨rfl, k1⟩)
    go_ret
    exact ⟨⟨_, rfl, by rw [HA.out]; exact HNIL.out _⟩, k1⟩
  | true =>
  obtain ⟨c1, hc1⟩ : ∃ c, c = Ev.inn many 1 100 := ⟨_, rfl⟩
  have HC1 := Fk.hide hc1
  have e0 : Ev.inn many 1 100 = c1 := hc1.symm
  clear hc1
  cases c1 with
  | false =>
    have HA : Hid (Tp.barsAll L many = []) := Tp.barsAll_no2 HC1.out.symm
    go_enter Try.func11, Try.ntmps11
    go_wp2_with (first | (go_at_call 42; refine HTT.out.mono ?_; rintro e W1 ⟨rfl, k1⟩) | (go_at_call 43; refine (within_ev _ _ _ _).mono ?_; rintro e w' ⟨rfl, rfl⟩; rw [e0]))
    go_ret
    exact ⟨⟨_, rfl, by rw [HA.out]; exact HNIL.out _⟩, k1⟩
  | true =>
  have hmb : 1 ≤ many ∧ many ≤ 100 := by have := HC1.out.symm; simpa [Ev.inn] using this
  obtain ⟨m, rfl⟩ : ∃ m : Nat, many = (m : Int) := ⟨many.toNat, by omega⟩
  have HA : Hid (Tp.barsAll L m = Tp.bars L m (Tp.many L m)) := by show _ = _; rw [Tp.barsAll_yes HC.out.symm HC1.out.symm]; rfl
  have h1 : 1 ≤ m := by omega
  have h2 : m ≤ 100 := by omega
  refine (callsIn_wide (n := 6)).1 ?_
  refine callsIn_of_wp_marks Try.func11 rfl trivial ?_ rfl
  simp only [Try.ntmps11, List.size_toArray, List.length_cons, List.length_nil, Nat.reduceAdd, Nat.reduceSub, Array.replicate_succ, Array.replicate_zero, List.push_toArray, List.append_toArray, List.nil_append, List.cons_append]
  gi_wp2
  refine ⟨trivial, (callsIn_wide.2 HTT.out).mono ?_⟩
  rintro e W1 ⟨rfl, k1⟩
  have HK1 := Fk.hide k1
  clear k1
  gi_wp2
  refine ⟨trivial, (callsIn_wide.2 (within_ev _ _ _ _)).mono ?_⟩
  rintro e Z ⟨rfl, rfl⟩
  rw [e0]
  gi_wp2
  refine ⟨trivial, (callsIn_wide.2 (chunk_any a L.length cap m (by omega) _)).mono ?_⟩
  rintro e w2 ⟨rfl, rfl⟩
  gi_wp2
  have bT := Boxed.new Z 26 (.slice none 0 0)
  have bS := Boxed.new (Z.alloc (.cells #[.slice none 0 0] 26)) 23 (.slice a L.length cap)
  have bN := Boxed.new ((Z.alloc (.cells #[.slice none 0 0] 26)).alloc (.cells #[.slice a L.length cap] 23)) 3 (.int .i64 m)
  rw [World.size_alloc] at bS
  rw [World.size_alloc, World.size_alloc] at bN
  have hB0 : Below Z.heap.size Z (((Z.alloc (.cells #[.slice none 0 0] 26)).alloc (.cells #[.slice a L.length cap] 23)).alloc (.cells #[.int .i64 m] 3)) := (((Below.refl _ Z).alloc (Nat.le_refl _) _).alloc (by simp) _).alloc (by simp; omega) _
  obtain ⟨W0, hW0⟩ : ∃ X, X = ((Z.alloc (.cells #[.slice none 0 0] 26)).alloc (.cells #[.slice a L.length cap] 23)).alloc (.cells #[.int .i64 m] 3) := ⟨_, rfl⟩
  have hsz : W0.heap.size = Z.heap.size + 3 := by rw [hW0]; simp
  replace bT := (bT.alloc (.cells #[.slice a L.length cap] 23)).alloc (.cells #[.int .i64 m] 3)
  replace bS := bS.alloc (.cells #[.int .i64 m] 3)
  rw [← hW0] at bT bS bN hB0
  have hzz : w.heap.size ≤ Z.heap.size := HK1.out.size
  have hs0 : 0 < L.length → ∃ b o, a = some ⟨b, o, none⟩ ∧ b < w.heap.size ∧ Rk.Sees Td.S W0 b o L := fun h => by
    obtain ⟨b, o, e, hb, hse⟩ := hs h
    exact ⟨b, o, e, hb, (hse.below hb HK1.out).below (B := Z.heap.size) (by omega) hB0⟩
  have HG := chunks_gives a cap L m h1 h2 HC.out.symm Z.heap.size (Z.heap.size + 1) (Z.heap.size + 1 + 1) W0.heap.size w.heap.size W0 bS bN hs0 hcap (by omega) (by omega) (by omega) (by omega) (by omega) (by omega) (Nat.le_refl _) (6 - 1) (by decide)
  rw [← hW0]
  clear hW0 HTT e0 hs HV
  refine Rf.range_gives rfl (by decide) (gf := 59) (lb := #[.pointer (some ⟨Z.heap.size + 1, 0, none⟩), .pointer (some ⟨Z.heap.size + 1 + 1, 0, none⟩)]) rfl trivial (enters_of Try.func59 (by kernel_rfl) rfl)
    HG Ck.Kp.trans (fun W l o o' hl h hc => Ck.Kp.put W l o' hl) (Below.refl _ _) (fun _ => rfl)
    (fun pre W => (∃ v, Boxed W Z.heap.size 26 v ∧ W.ownsRow W0.heap.size 35 5 v pre.length (Rk.flat Ba.S (pre.map fun x => Tp.bar x.t)) ∧ True) ∧ Below Z.heap.size W0 W)
    (OwnFrom.and (Own.from (holdsRow_own W0.heap.size Z.heap.size 26 35 5 (fun pre : List Ck.Pc => pre.length) (fun pre : List Ck.Pc => Rk.flat Ba.S (pre.map fun x : Ck.Pc => Tp.bar x.t)) (fun _ _ => True)) _)
      (ownFrom_below (by omega) (by omega)))
    (fun x pre => Ck.There.own _ _ (by omega) x pre)
    ⟨⟨_, bT, World.ownsRow_nil _ _ _ _, trivial⟩, Below.refl _ _⟩
    (fun x => { tmps := #[.slice a L.length cap, .int .i64 m, undef, undef, .slice none 0 0, .pointer (some ⟨Z.heap.size, 0, none⟩), .slice (some ⟨x.b, x.o, none⟩) x.t.length x.t.length, .slice a L.length cap, .bool true, .bool false, .bool false, .int .i64 m, .bool true, .bool false, .bool false, .slice a L.length cap, .int .i64 m,
      .func (.func 59) #[] #[.pointer (some ⟨Z.heap.size + 1, 0, none⟩), .pointer (some ⟨Z.heap.size + 1 + 1, 0, none⟩)], .slice (some ⟨x.b, x.o, none⟩) x.t.length x.t.length, undef, undef, undef, undef, undef, undef], defers := [] }) ?assign ?body ?done
  case assign =>
    rintro l ⟨b, o, t⟩ W K hK
    dsimp only [Ck.Pc.vals]
    gi_wp2
    exact hK
  case body =>
    rintro l pre ⟨b, o, t⟩ W ⟨⟨v, hv, hrow, _⟩, hB⟩ ⟨hl1, hl2, hr, hbB, hbW, hse⟩
    dsimp only at hl1 hl2 hr hbB hbW hse
    have hvc := hv.cell
    have hvf := hv.frozen
    have hsW : W0.heap.size ≤ W.heap.size := hB.size
    have hvl := hv.lt
    obtain ⟨g, hg⟩ : ∃ g, g = Tp.bar t := ⟨_, rfl⟩
    have HGB := Fk.hide hg
    have hbar : Calls Try.prog 45 #[.slice (some ⟨b, o, none⟩) t.length t.length] W.drew fun e Y => e = .returned (.agg #[.int .i64 g.1, .int .i64 g.2.1, .int .i64 g.2.2.1, .int .i64 g.2.2.2.1, .int .i64 g.2.2.2.2]) ∧ Below W.heap.size W Y := by
      refine (barOf_any _ t W.drew ⟨_, _, rfl, fun _ => ⟨b, o, rfl, hbW, Ck.sees_of_block hse rfl⟩⟩ hr).mono ?_
      rintro e Y ⟨h1, h2⟩
      exact ⟨by rw [h1, hg], (Below.drew (Below.refl _ _)).trans h2⟩
    clear hg
    dsimp only
    gi_wp2
    refine wpIn_region_any (by kernel_rfl) ?_
    change wpAnyIn _ _ _ _ _ _ _ _ _ (World.drew _)
    refine wpAnyIn_ready (rs := [0, 1]) (by kernel_rfl) (by simp) ?_
    refine AllReadyIn.cons rfl (fun K hK => ?_) ?_
    · go_simp
      refine hK _ _ ?_
      clear hK K
      refine wpAnyIn_ready (rs := [1]) (by kernel_rfl) (by simp) ?_
      refine AllReadyIn.cons rfl (fun K hK => ?_) ?_
      · go_simp
        refine hK _ _ ?_
        clear hK K
        refine wpAnyIn_ready (rs := [2]) (by kernel_rfl) (by simp) ?_
        refine AllReadyIn.cons rfl (fun K hK => ?_) ?_
        · go_simp
          refine ⟨trivial, (callsIn_wide.2 hbar).mono ?_⟩
          rintro e Y ⟨rfl, hY⟩
          have hy1 : Y.cell? ⟨Z.heap.size, 0, none⟩ = some v := (hY.cell (by show Z.heap.size < _; omega)).trans hvc
          have hyb : Below W.heap.size W (Y.alloc (.cells #[.int .i64 g.1, .int .i64 g.2.1, .int .i64 g.2.2.1, .int .i64 g.2.2.2.1, .int .i64 g.2.2.2.2] 35)) := hY.alloc hY.size _
          have hy2 : (Y.alloc (.cells #[.int .i64 g.1, .int .i64 g.2.1, .int .i64 g.2.2.1, .int .i64 g.2.2.2.1, .int .i64 g.2.2.2.2] 35)).cell? ⟨Z.heap.size, 0, none⟩ = some v := (hyb.cell (by show Z.heap.size < _; omega)).trans hvc
          refine hK _ _ ?_
          clear hK K
          refine wpAnyIn_ready (rs := [3]) (by kernel_rfl) (by simp) ?_
          refine AllReadyIn.cons rfl (fun K hK => ?_) ?_
          · go_simp
            refine hK _ _ ?_
            clear hK K
            refine wpAnyIn_ready (rs := [4]) (by kernel_rfl) (by simp) ?_
            refine AllReadyIn.cons rfl (fun K hK => ?_) AllReadyIn.nil
            rw [if_pos (by rfl)]
            refine Ck.step_append _ (.tmp 19) (.tmp 22) 26 rfl W0.heap.size 35 i0 _ 5 40 Try.underlying26 hi hz0 hz1 hz2 rfl (by decide) v pre.length _ (by rfl) (Fk.owns_below hrow hyb) ⟨Y.heap.size, 0, none⟩ 1 1 [.int .i64 g.1, .int .i64 g.2.1, .int .i64 g.2.2.1, .int .i64 g.2.2.2.1, .int .i64 g.2.2.2.2] (by rfl) rfl (Ck.news Y g) (by simp [Value.oneCell']) (by unfold maxLen; omega) (by omega) (Nat.le_trans hsW hyb.size) ?_
            intro v' w' hown hgr
            obtain ⟨g', cap', rfl⟩ := ownsRow_succ hown
            obtain ⟨hv1, HZ⟩ := Ck.appended (n0 := W0.heap.size) (by omega) hsW hyb hv hrow hown hgr
            have hc1 := hv1.cell
            have hf1 := hv1.frozen
            refine hK _ _ ?_
            clear hK K hrow hown hgr hv hy1 hy2 hvc hvf hbar
            refine wpAnyIn_ready (rs := [5]) (by kernel_rfl) (by simp) ?_
            refine AllReadyIn.cons rfl (fun K hK => ?_) AllReadyIn.nil
            go_simp
            refine hK _ _ ?_
            clear hK K
            refine wpAnyIn_done (by kernel_rfl) ?_ _
            obtain ⟨z1, z2, z3, z4, z5⟩ := HZ.out
            have e1 : (pre ++ [(⟨b, o, t⟩ : Ck.Pc)]).length = pre.length + 1 := by simp
            have e2 : Rk.flat Ba.S ((pre ++ [(⟨b, o, t⟩ : Ck.Pc)]).map fun x => Tp.bar x.t) = Rk.flat Ba.S (pre.map fun x => Tp.bar x.t) ++ [.int .i64 g.1, .int .i64 g.2.1, .int .i64 g.2.2.1, .int .i64 g.2.2.2.1, .int .i64 g.2.2.2.2] := by
              rw [List.map_append, Rk.flat_append]
              simp only [List.map_cons, List.map_nil, HGB.out]
              rfl
            exact ⟨rfl, z1.from _, z2, ⟨_, z3, by rw [e1, e2]; exact z4, trivial⟩, hB.trans z5⟩
          exact AllReadyIn.nil
        exact AllReadyIn.nil
      exact AllReadyIn.nil
    refine AllReadyIn.cons rfl (fun K hK => ?_) ?_
    · go_simp
      refine hK _ _ ?_
      clear hK K
      refine wpAnyIn_ready (rs := [0, 2]) (by kernel_rfl) (by simp) ?_
      refine AllReadyIn.cons rfl (fun K hK => ?_) ?_
      · go_simp
        refine hK _ _ ?_
        clear hK K
        refine wpAnyIn_ready (rs := [2]) (by kernel_rfl) (by simp) ?_
        refine AllReadyIn.cons rfl (fun K hK => ?_) ?_
        · go_simp
          refine ⟨trivial, (callsIn_wide.2 hbar).mono ?_⟩
          rintro e Y ⟨rfl, hY⟩
          have hy1 : Y.cell? ⟨Z.heap.size, 0, none⟩ = some v := (hY.cell (by show Z.heap.size < _; omega)).trans hvc
          have hyb : Below W.heap.size W (Y.alloc (.cells #[.int .i64 g.1, .int .i64 g.2.1, .int .i64 g.2.2.1, .int .i64 g.2.2.2.1, .int .i64 g.2.2.2.2] 35)) := hY.alloc hY.size _
          have hy2 : (Y.alloc (.cells #[.int .i64 g.1, .int .i64 g.2.1, .int .i64 g.2.2.1, .int .i64 g.2.2.2.1, .int .i64 g.2.2.2.2] 35)).cell? ⟨Z.heap.size, 0, none⟩ = some v := (hyb.cell (by show Z.heap.size < _; omega)).trans hvc
          refine hK _ _ ?_
          clear hK K
          refine wpAnyIn_ready (rs := [3]) (by kernel_rfl) (by simp) ?_
          refine AllReadyIn.cons rfl (fun K hK => ?_) ?_
          · go_simp
            refine hK _ _ ?_
            clear hK K
            refine wpAnyIn_ready (rs := [4]) (by kernel_rfl) (by simp) ?_
            refine AllReadyIn.cons rfl (fun K hK => ?_) AllReadyIn.nil
            rw [if_pos (by rfl)]
            refine Ck.step_append _ (.tmp 19) (.tmp 22) 26 rfl W0.heap.size 35 i0 _ 5 40 Try.underlying26 hi hz0 hz1 hz2 rfl (by decide) v pre.length _ (by rfl) (Fk.owns_below hrow hyb) ⟨Y.heap.size, 0, none⟩ 1 1 [.int .i64 g.1, .int .i64 g.2.1, .int .i64 g.2.2.1, .int .i64 g.2.2.2.1, .int .i64 g.2.2.2.2] (by rfl) rfl (Ck.news Y g) (by simp [Value.oneCell']) (by unfold maxLen; omega) (by omega) (Nat.le_trans hsW hyb.size) ?_
            intro v' w' hown hgr
            obtain ⟨g', cap', rfl⟩ := ownsRow_succ hown
            obtain ⟨hv1, HZ⟩ := Ck.appended (n0 := W0.heap.size) (by omega) hsW hyb hv hrow hown hgr
            have hc1 := hv1.cell
            have hf1 := hv1.frozen
            refine hK _ _ ?_
            clear hK K hrow hown hgr hv hy1 hy2 hvc hvf hbar
            refine wpAnyIn_ready (rs := [5]) (by kernel_rfl) (by simp) ?_
            refine AllReadyIn.cons rfl (fun K hK => ?_) AllReadyIn.nil
            go_simp
            refine hK _ _ ?_
            clear hK K
            refine wpAnyIn_done (by kernel_rfl) ?_ _
            obtain ⟨z1, z2, z3, z4, z5⟩ := HZ.out
            have e1 : (pre ++ [(⟨b, o, t⟩ : Ck.Pc)]).length = pre.length + 1 := by simp
            have e2 : Rk.flat Ba.S ((pre ++ [(⟨b, o, t⟩ : Ck.Pc)]).map fun x => Tp.bar x.t) = Rk.flat Ba.S (pre.map fun x => Tp.bar x.t) ++ [.int .i64 g.1, .int .i64 g.2.1, .int .i64 g.2.2.1, .int .i64 g.2.2.2.1, .int .i64 g.2.2.2.2] := by
              rw [List.map_append, Rk.flat_append]
              simp only [List.map_cons, List.map_nil, HGB.out]
              rfl
            exact ⟨rfl, z1.from _, z2, ⟨_, z3, by rw [e1, e2]; exact z4, trivial⟩, hB.trans z5⟩
          exact AllReadyIn.nil
        exact AllReadyIn.nil
      refine AllReadyIn.cons rfl (fun K hK => ?_) ?_
      · go_simp
        refine ⟨trivial, (callsIn_wide.2 hbar).mono ?_⟩
        rintro e Y ⟨rfl, hY⟩
        have hy1 : Y.cell? ⟨Z.heap.size, 0, none⟩ = some v := (hY.cell (by show Z.heap.size < _; omega)).trans hvc
        have hyb : Below W.heap.size W (Y.alloc (.cells #[.int .i64 g.1, .int .i64 g.2.1, .int .i64 g.2.2.1, .int .i64 g.2.2.2.1, .int .i64 g.2.2.2.2] 35)) := hY.alloc hY.size _
        have hy2 : (Y.alloc (.cells #[.int .i64 g.1, .int .i64 g.2.1, .int .i64 g.2.2.1, .int .i64 g.2.2.2.1, .int .i64 g.2.2.2.2] 35)).cell? ⟨Z.heap.size, 0, none⟩ = some v := (hyb.cell (by show Z.heap.size < _; omega)).trans hvc
        refine hK _ _ ?_
        clear hK K
        refine wpAnyIn_ready (rs := [0, 3]) (by kernel_rfl) (by simp) ?_
        refine AllReadyIn.cons rfl (fun K hK => ?_) ?_
        · go_simp
          refine hK _ _ ?_
          clear hK K
          refine wpAnyIn_ready (rs := [3]) (by kernel_rfl) (by simp) ?_
          refine AllReadyIn.cons rfl (fun K hK => ?_) ?_
          · go_simp
            refine hK _ _ ?_
            clear hK K
            refine wpAnyIn_ready (rs := [4]) (by kernel_rfl) (by simp) ?_
            refine AllReadyIn.cons rfl (fun K hK => ?_) AllReadyIn.nil
            rw [if_pos (by rfl)]
            refine Ck.step_append _ (.tmp 19) (.tmp 22) 26 rfl W0.heap.size 35 i0 _ 5 40 Try.underlying26 hi hz0 hz1 hz2 rfl (by decide) v pre.length _ (by rfl) (Fk.owns_below hrow hyb) ⟨Y.heap.size, 0, none⟩ 1 1 [.int .i64 g.1, .int .i64 g.2.1, .int .i64 g.2.2.1, .int .i64 g.2.2.2.1, .int .i64 g.2.2.2.2] (by rfl) rfl (Ck.news Y g) (by simp [Value.oneCell']) (by unfold maxLen; omega) (by omega) (Nat.le_trans hsW hyb.size) ?_
            intro v' w' hown hgr
            obtain ⟨g', cap', rfl⟩ := ownsRow_succ hown
            obtain ⟨hv1, HZ⟩ := Ck.appended (n0 := W0.heap.size) (by omega) hsW hyb hv hrow hown hgr
            have hc1 := hv1.cell
            have hf1 := hv1.frozen
            refine hK _ _ ?_
            clear hK K hrow hown hgr hv hy1 hy2 hvc hvf hbar
            refine wpAnyIn_ready (rs := [5]) (by kernel_rfl) (by simp) ?_
            refine AllReadyIn.cons rfl (fun K hK => ?_) AllReadyIn.nil
            go_simp
            refine hK _ _ ?_
            clear hK K
            refine wpAnyIn_done (by kernel_rfl) ?_ _
            obtain ⟨z1, z2, z3, z4, z5⟩ := HZ.out
            have e1 : (pre ++ [(⟨b, o, t⟩ : Ck.Pc)]).length = pre.length + 1 := by simp
            have e2 : Rk.flat Ba.S ((pre ++ [(⟨b, o, t⟩ : Ck.Pc)]).map fun x => Tp.bar x.t) = Rk.flat Ba.S (pre.map fun x => Tp.bar x.t) ++ [.int .i64 g.1, .int .i64 g.2.1, .int .i64 g.2.2.1, .int .i64 g.2.2.2.1, .int .i64 g.2.2.2.2] := by
              rw [List.map_append, Rk.flat_append]
              simp only [List.map_cons, List.map_nil, HGB.out]
              rfl
            exact ⟨rfl, z1.from _, z2, ⟨_, z3, by rw [e1, e2]; exact z4, trivial⟩, hB.trans z5⟩
          exact AllReadyIn.nil
        refine AllReadyIn.cons rfl (fun K hK => ?_) ?_
        · go_simp
          refine hK _ _ ?_
          clear hK K
          refine wpAnyIn_ready (rs := [0]) (by kernel_rfl) (by simp) ?_
          refine AllReadyIn.cons rfl (fun K hK => ?_) ?_
          · go_simp
            refine hK _ _ ?_
            clear hK K
            refine wpAnyIn_ready (rs := [4]) (by kernel_rfl) (by simp) ?_
            refine AllReadyIn.cons rfl (fun K hK => ?_) AllReadyIn.nil
            rw [if_pos (by rfl)]
            refine Ck.step_append _ (.tmp 19) (.tmp 22) 26 rfl W0.heap.size 35 i0 _ 5 40 Try.underlying26 hi hz0 hz1 hz2 rfl (by decide) v pre.length _ (by rfl) (Fk.owns_below hrow hyb) ⟨Y.heap.size, 0, none⟩ 1 1 [.int .i64 g.1, .int .i64 g.2.1, .int .i64 g.2.2.1, .int .i64 g.2.2.2.1, .int .i64 g.2.2.2.2] (by rfl) rfl (Ck.news Y g) (by simp [Value.oneCell']) (by unfold maxLen; omega) (by omega) (Nat.le_trans hsW hyb.size) ?_
            intro v' w' hown hgr
            obtain ⟨g', cap', rfl⟩ := ownsRow_succ hown
            obtain ⟨hv1, HZ⟩ := Ck.appended (n0 := W0.heap.size) (by omega) hsW hyb hv hrow hown hgr
            have hc1 := hv1.cell
            have hf1 := hv1.frozen
            refine hK _ _ ?_
            clear hK K hrow hown hgr hv hy1 hy2 hvc hvf hbar
            refine wpAnyIn_ready (rs := [5]) (by kernel_rfl) (by simp) ?_
            refine AllReadyIn.cons rfl (fun K hK => ?_) AllReadyIn.nil
            go_simp
            refine hK _ _ ?_
            clear hK K
            refine wpAnyIn_done (by kernel_rfl) ?_ _
            obtain ⟨z1, z2, z3, z4, z5⟩ := HZ.out
            have e1 : (pre ++ [(⟨b, o, t⟩ : Ck.Pc)]).length = pre.length + 1 := by simp
            have e2 : Rk.flat Ba.S ((pre ++ [(⟨b, o, t⟩ : Ck.Pc)]).map fun x => Tp.bar x.t) = Rk.flat Ba.S (pre.map fun x => Tp.bar x.t) ++ [.int .i64 g.1, .int .i64 g.2.1, .int .i64 g.2.2.1, .int .i64 g.2.2.2.1, .int .i64 g.2.2.2.2] := by
              rw [List.map_append, Rk.flat_append]
              simp only [List.map_cons, List.map_nil, HGB.out]
              rfl
            exact ⟨rfl, z1.from _, z2, ⟨_, z3, by rw [e1, e2]; exact z4, trivial⟩, hB.trans z5⟩
          exact AllReadyIn.nil
        exact AllReadyIn.nil
      exact AllReadyIn.nil
    exact AllReadyIn.nil
  case done =>
    rintro D xs W hD hxs ⟨⟨v, hv, hrow, _⟩, hB⟩ hK
    have hvc := hv.cell
    have hd : Tp.bars L m (Tp.many L m) = xs.map fun x => Tp.bar x.t := by rw [← Ck.pieces_bars, ← hxs, List.map_map]; rfl
    have ho : Rk.Own Ba.S W W0.heap.size 35 v (Tp.barsAll L m) := by
      rw [HA.out, hd]
      show W.ownsRow _ _ 5 v (xs.map fun x => Tp.bar x.t).length _
      rw [List.length_map]
      exact hrow
    have HO := Fk.hide ho
    have HD : Hid (W.heap[D]? = some (.deferred (some []))) := hK
    clear ho hd hrow
    gi_wp2
    refine ⟨by simp, .inl ⟨_, _, rfl, run_takeDeferred HD.out, ?_⟩⟩
    refine ⟨_, results_tmp rfl _ _ _, ⟨v, rfl, ?_⟩, ?_⟩
    · have h1 := ownsRow_putObj HO.out (.deferred none) HD.out rfl
      exact Rk.Own.mono (S := Ba.S) h1 (by omega)
    · refine (HK1.out.trans ((hB0.trans hB).mono hzz)).grown (grownBy_putObj' W D (.deferred none)) ?_ (fun k e => by have h9 : D = k := Option.some.inj e; omega)
      have h1 := hB.size
      show w.heap.size ≤ W.heap.size
      omega
end Go.Proofs.Ytficlppngnnpoaa
