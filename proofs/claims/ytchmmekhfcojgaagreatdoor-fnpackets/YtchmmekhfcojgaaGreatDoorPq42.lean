/-
  spec.PacketText: its contract.
-/
import Derived.Test.YtchmmekhfcojgaaGreatDoorPq24
import Derived.Test.YtchmmekhfcojgaaGreatDoorPq40
import Derived.Test.YtchmmekhfcojgaaGreatDoorPq41
import Derived.Test.YtchmmekhfcojgaaGreatDoorPq4
namespace Go.Proofs.YtchmmekhfcojgaaGreatDoor
open Go.RowKit

set_option linter.unusedSimpArgs false
set_option linter.unusedVariables false

theorem RowX.shape {w : World} {base : Nat} {v : Value} {l : List UInt8} (h : RowX w base v l) : ∃ g cap, v = .slice (some ⟨g, 0, none⟩) l.length cap := by
  obtain ⟨g, cap, cur, fz, hv, _⟩ := h
  exact ⟨g, cap, hv⟩

theorem RowX.low {w : World} {base b2 : Nat} {v : Value} {l : List UInt8} (h : RowX w base v l) (hb : b2 ≤ base) : RowX w b2 v l := by
  obtain ⟨g, cap, cur, fz, hv, h1, r⟩ := h
  exact ⟨g, cap, cur, fz, hv, by omega, r⟩

theorem RowX.lt {w : World} {base : Nat} {v : Value} {l : List UInt8} (h : RowX w base v l) : ∀ k, v.ownBlock = some k → base ≤ k := by
  obtain ⟨g, cap, cur, fz, rfl, h1, r⟩ := h
  intro k hk
  cases hk
  exact h1

theorem Tryz.infoByte : (Tryz.prog.info? 5).map (fun i => (i.zero, i.size, i.bytes)) = some (some (.int .u8 0), 1, 1) := by kernel_rfl

/-- a text's bytes in a row of their own -/
theorem row_text (t : ByteArray) (w : World) (hl : t.size ≤ 1000000) : ∃ C W, (convert 9 22 (.string t)).run Tryz.prog w = .ok (.slice (some ⟨w.heap.size, 0, none⟩) t.size C) W ∧ RowX W w.heap.size (.slice (some ⟨w.heap.size, 0, none⟩) t.size C) t.data.toList ∧ Below w.heap.size w W := by
  have hge := grownCap_ge w t.size 0 5
  have hle : grownCap w t.size 0 5 ≤ maxLen := grownCap_le_maxLen w t.size 0 5 (by unfold maxLen; omega)
  refine ⟨_, _, run_bytes_of_string w 9 22 5 t Tryz.underlying9 Tryz.underlying22 Tryz.underlying5, ?_, ?_⟩
  · generalize grownCap w t.size 0 5 = C at *
    have hsz : t.data.toList.length = t.size := Array.length_toList
    refine ⟨w.heap.size, C, bytesRow t C, _, by rw [hsz], Nat.le_refl _, heap_alloc_new w.drew _, .inl (Nat.le_refl _), by omega, hle, ?_, ?_⟩
    · simp only [bytesRow, Array.size_append, Array.size_map, Array.size_replicate]
      have : t.data.size = t.size := rfl
      omega
    · simp only [bytesRow, Array.toList_append, Array.toList_map]
      rw [List.take_left' (by simp)]
      rfl
  · exact (Below.refl w.heap.size w).drew.alloc (Nat.le_refl _) _

theorem run_str_X {w : World} {base : Nat} {v : Value} {l : List UInt8} (hown : RowX w base v l) : (convert 22 9 v).run Tryz.prog w = .ok (.string (bs l)) w := by
  obtain ⟨g, cap, rfl, _, _, hc⟩ := hown.cells
  exact run_convert_bytes_back w 22 9 5 ⟨g, 0, none⟩ cap l Tryz.underlying22 Tryz.underlying5 Tryz.underlying9 (fun j hj => by
    rw [hc j _ (by rw [cellsOf, List.getElem?_map, List.getElem?_eq_getElem hj]; rfl)])

theorem wpList_append_X {P : Program} (w : World) {ops : Array Oper} {rest : List Oper} {o : Oper} {a : Act} {Q : Exit → Act → World → Prop} (hgd : o.guard = none) (s x : Operand) (t : TypeId)
    (ho : o.op = .call { callee := .builtin .append, args := #[s, x], argTypes := #[t, t] }) (base : Nat) (ht : P.underlying t = some (.slice 5))
    (hinfo : (P.info? 5).map (fun i => (i.zero, i.size, i.bytes)) = some (some (.int .u8 0), 1, 1))
    (v : Value) (l nb : List UInt8) (hs : a.eval s = v) (hown : RowX w base v l)
    (ad : Addr) (n c : Nat) (hn : n = nb.length) (hx : a.eval x = .slice (some ad) n c) (hnews : ∀ j u, (cellsOf nb)[j]? = some u → w.cell? (ad.add j) = some u)
    (hlen : l.length + nb.length ≤ 1000000) (hbase : base ≤ w.heap.size)
    (h : ∀ v' w' l', Hid (l' = l ++ nb) → RowX w' base v' l' → w.grownBy w' v.ownBlock → wpList P ops Q rest (a.put o.dst v') w') : wpList P ops Q (o :: rest) a w := by
  subst hn
  obtain ⟨i0, hi, hz0, hz1, hz2⟩ := info_parts hinfo
  refine wpList_plain hgd fun K hK => ?_
  obtain ⟨v', w', hr, h2, h3⟩ := append_X (P := P) w base t o.type i0 ht hi hz0 hz1 hz2 v l nb hown ad c hnews hlen hbase
  unfold Oper.wp execOp
  simp only [ho, resolve, invoke, builtin, Sem.run_bind, Sem.run_pure, Result.andThen_ok, List.map_toArray, List.map_cons, List.map_nil, hs, hx, hr]
  exact hK _ _ (h v' w' _ rfl h2 h3)

theorem one_cell_news (w : World) (z : Int) (h0 : 0 ≤ z) (h1 : z ≤ 255) : ∀ j u, (cellsOf [byB z])[j]? = some u → (w.alloc (.cells #[.int .u8 z] 5)).cell? ((⟨w.heap.size, 0, none⟩ : Addr).add j) = some u := by
  intro j u hj
  have : j = 0 := by have := (List.getElem?_eq_some_iff.1 hj).1; simpa [cellsOf] using this
  subst this
  rw [add_zero', World.cell?_alloc_at _ _ _ _ rfl]
  simp only [cellsOf, List.map_cons, List.map_nil, List.getElem?_cons_zero, Option.some.injEq] at hj
  rw [← hj, ← byB_val z h0 h1]
  rfl

set_option maxRecDepth 100000 in
set_option maxHeartbeats 8000000 in
theorem sptext_any (v1 v2 : Value) (x : PkD) (ps : List RP) (hi : Nat) (w : World) (ht : totP x ps ≤ 1048576) (hv : PkSrc w hi v1 v2 x ps) (hhi : hi ≤ w.heap.size) :
    Calls Tryz.prog 28 #[pkV x v1 v2] w fun e w' => e = .returned (ptV x (fsts ps)) ∧ Below w.heap.size w w' := by
  have hin := hv.in.more hhi
  obtain ⟨⟨a1, c1, rfl⟩, ⟨a2, c2, rfl⟩⟩ := hin.shapes
  have BA : Below w.heap.size w (w.alloc (.cells #[.int .i64 x.kind, .int .i64 x.src, .int .i64 x.dst, .int .i64 x.area, .slice a1 x.heard.length c1, .slice a2 ps.length c2] 27)) := (Below.refl _ _).alloc (Nat.le_refl _) _
  have g0 := heap_alloc_new w (.cells #[.int .i64 x.kind, .int .i64 x.src, .int .i64 x.dst, .int .i64 x.area, .slice a1 x.heard.length c1, .slice a2 ps.length c2] 27)
  have HOK := hide (spacketOk_any _ _ x ps hi (w.alloc (.cells #[.int .i64 x.kind, .int .i64 x.src, .int .i64 x.dst, .int .i64 x.area, .slice a1 x.heard.length c1, .slice a2 ps.length c2] 27)) ht (hin.then BA) (hv.list.below BA hhi) (Nat.le_trans hhi BA.size))
  have HV := hide hv
  have G0 := hide g0
  have HFL := hide (show (fsts ps).length = ps.length by simp [fsts])
  clear hv hin g0
  obtain ⟨r, hr⟩ : ∃ r, r = pkB x (fsts ps) := ⟨_, rfl⟩
  rw [← hr] at HOK
  have HR := hide hr
  clear hr
  cases r
  · rw [pt_no HR.out.symm]
    go_enter Tryz.func28, Tryz.ntmps28
    go_wp2_with fail
    refine HOK.out.mono ?_
    rintro e w1 ⟨rfl, b1⟩
    go_wp2
    go_returns
    exact ⟨rfl, BA.trans (b1.mono BA.size)⟩
  rw [pt_yes HR.out.symm]
  have hbd := pk_bounds HR.out.symm
  have hlen := pkL_len hbd
  have HBD := hide hbd
  have hfew := hbd.few
  have hlst : ps.length ≤ 150 := by have := hbd.list; have := HFL.out; omega
  obtain ⟨PL, hPL⟩ : ∃ L, L = pkL x (fsts ps) := ⟨_, rfl⟩
  rw [← hPL] at hlen ⊢
  have HPL := hide hPL
  have k0 := hbd.kind
  have k1 := hbd.src
  have k2 := hbd.dst
  have k3 := hbd.area
  clear hbd hPL
  obtain ⟨L1, h1⟩ : ∃ l, l = [byB x.kind] ++ [byB x.src] := ⟨_, rfl⟩
  obtain ⟨L2, h2⟩ : ∃ l, l = L1 ++ [byB x.dst] := ⟨_, rfl⟩
  obtain ⟨L3, h3⟩ : ∃ l, l = L2 ++ [byB x.area] := ⟨_, rfl⟩
  obtain ⟨L4, h4⟩ : ∃ l, l = L3 ++ varL x.heard.length := ⟨_, rfl⟩
  have hv5 := varL_five (n := x.heard.length) (by omega)
  have n1 : L1.length = 2 := by rw [h1]; rfl
  have n2 : L2.length = 3 := by rw [h2, List.length_append, n1]; rfl
  have n3 : L3.length = 4 := by rw [h3, List.length_append, n2]; rfl
  have n4 : L4.length ≤ 9 := by rw [h4, List.length_append, n3]; omega
  have e1 := fun W => str_add (P := Tryz.prog) [byB x.kind] [byB x.src] W (by simp)
  have e2 := fun W => str_add (P := Tryz.prog) L1 [byB x.dst] W (by simp; omega)
  have e3 := fun W => str_add (P := Tryz.prog) L2 [byB x.area] W (by simp; omega)
  have e4 := fun W => str_add (P := Tryz.prog) L3 (varL x.heard.length) W (by omega)
  rw [← h1] at e1
  rw [← h2] at e2
  rw [← h3] at e3
  rw [← h4] at e4
  have HL4 := hide (show L4 = oneL x ++ varL x.heard.length by rw [h4, h3, h2, h1]; rfl)
  clear h1 h2 h3 h4 n1 n2 n3
  have HB := hide sbyte_any
  have HVN := hide var_nat
  go_enter Tryz.func28, Tryz.ntmps28
  go_wp2_with fail
  obtain ⟨w0, hw0⟩ : ∃ W, W = w.alloc (.cells #[.int .i64 x.kind, .int .i64 x.src, .int .i64 x.dst, .int .i64 x.area, .slice a1 x.heard.length c1, .slice a2 ps.length c2] 27) := ⟨_, rfl⟩
  rw [← hw0] at BA G0 HOK ⊢
  clear hw0
  refine HOK.out.mono ?_
  rintro e w1 ⟨rfl, b1⟩
  have B1 : Below w.heap.size w w1 := BA.trans (b1.mono BA.size)
  have g1 := (b1.block _ (lt_of_heap G0.out)).trans G0.out
  have hs1 := B1.size
  obtain ⟨bx, hbx⟩ : ∃ z, z = w.heap.size := ⟨_, rfl⟩
  rw [← hbx] at g1 ⊢
  have HBX := hide hbx
  have G1 := hide g1
  have hbl := lt_of_heap g1
  have s0 := cells_at g1 0
  have s1 := cells_at g1 1
  have s2 := cells_at g1 2
  have s3 := cells_at g1 3
  have s4 := cells_at g1 4
  simp at s0 s1 s2 s3 s4
  have hnd : Below w.heap.size w w1.drew := B1.drew
  have hbl0 : bx < w1.drew.heap.size := hbl
  clear b1 g1 G0 HOK hbx
  go_wp2
  refine wp_region_start (S := (fun W => W.cell? ⟨bx, 0, none⟩ = some (.int .i64 x.kind) ∧ W.cell? ⟨bx, 1, none⟩ = some (.int .i64 x.src) ∧ W.cell? ⟨bx, 2, none⟩ = some (.int .i64 x.dst) ∧ W.cell? ⟨bx, 3, none⟩ = some (.int .i64 x.area) ∧ W.cell? ⟨bx, 4, none⟩ = some (.slice a1 x.heard.length c1))) (by kernel_rfl) 22 rfl ⟨s0, s1, s2, s3, s4⟩ (fun ops hops hHeld => ?_)
  refine take_do 0 (oi := ?_) (v := ?_) ?_ (by rw [hops.out]; kernel_rfl) ?_ ?_ ?_ (by assumption) ?_
  rotate_left 2
  · rw [hops.out]; simp only [List.getElem?_toArray, List.getElem?_cons_succ, List.getElem?_cons_zero]; rfl
  · rw [hops.out]; kernel_rfl
  · intro W hW; (try dsimp only at hW); go_simp <;> with_reducible rfl
  · exact fun _ _ _ h => h
  try simp only [Act.put, List.setIfInBounds_toArray, List.set_cons_zero, List.set_cons_succ]
  refine take_do 1 (oi := ?_) (v := ?_) ?_ (by rw [hops.out]; kernel_rfl) ?_ ?_ ?_ (by assumption) ?_
  rotate_left 2
  · rw [hops.out]; simp only [List.getElem?_toArray, List.getElem?_cons_succ, List.getElem?_cons_zero]; rfl
  · rw [hops.out]; kernel_rfl
  · intro W hW; (try dsimp only at hW); go_simp <;> with_reducible rfl
  · exact fun _ _ _ h => h
  try simp only [Act.put, List.setIfInBounds_toArray, List.set_cons_zero, List.set_cons_succ]
  refine take_do 3 (oi := ?_) (v := ?_) ?_ (by rw [hops.out]; kernel_rfl) ?_ ?_ ?_ (by assumption) ?_
  rotate_left 2
  · rw [hops.out]; simp only [List.getElem?_toArray, List.getElem?_cons_succ, List.getElem?_cons_zero]; rfl
  · rw [hops.out]; kernel_rfl
  · intro W hW; (try dsimp only at hW); go_simp <;> with_reducible rfl
  · exact fun _ _ _ h => h
  try simp only [Act.put, List.setIfInBounds_toArray, List.set_cons_zero, List.set_cons_succ]
  refine take_do 4 (oi := ?_) (v := ?_) ?_ (by rw [hops.out]; kernel_rfl) ?_ ?_ ?_ (by assumption) ?_
  rotate_left 2
  · rw [hops.out]; simp only [List.getElem?_toArray, List.getElem?_cons_succ, List.getElem?_cons_zero]; rfl
  · rw [hops.out]; kernel_rfl
  · intro W hW; (try dsimp only at hW); go_simp <;> with_reducible rfl
  · exact fun _ _ _ h => h
  try simp only [Act.put, List.setIfInBounds_toArray, List.set_cons_zero, List.set_cons_succ]
  refine take_do 7 (oi := ?_) (v := ?_) ?_ (by rw [hops.out]; kernel_rfl) ?_ ?_ ?_ (by assumption) ?_
  rotate_left 2
  · rw [hops.out]; simp only [List.getElem?_toArray, List.getElem?_cons_succ, List.getElem?_cons_zero]; rfl
  · rw [hops.out]; kernel_rfl
  · intro W hW; (try dsimp only at hW); go_simp <;> with_reducible rfl
  · exact fun _ _ _ h => h
  try simp only [Act.put, List.setIfInBounds_toArray, List.set_cons_zero, List.set_cons_succ]
  refine take_do 8 (oi := ?_) (v := ?_) ?_ (by rw [hops.out]; kernel_rfl) ?_ ?_ ?_ (by assumption) ?_
  rotate_left 2
  · rw [hops.out]; simp only [List.getElem?_toArray, List.getElem?_cons_succ, List.getElem?_cons_zero]; rfl
  · rw [hops.out]; kernel_rfl
  · intro W hW; (try dsimp only at hW); go_simp <;> with_reducible rfl
  · exact fun _ _ _ h => h
  try simp only [Act.put, List.setIfInBounds_toArray, List.set_cons_zero, List.set_cons_succ]
  refine take_do 11 (oi := ?_) (v := ?_) ?_ (by rw [hops.out]; kernel_rfl) ?_ ?_ ?_ (by assumption) ?_
  rotate_left 2
  · rw [hops.out]; simp only [List.getElem?_toArray, List.getElem?_cons_succ, List.getElem?_cons_zero]; rfl
  · rw [hops.out]; kernel_rfl
  · intro W hW; (try dsimp only at hW); go_simp <;> with_reducible rfl
  · exact fun _ _ _ h => h
  try simp only [Act.put, List.setIfInBounds_toArray, List.set_cons_zero, List.set_cons_succ]
  refine take_do 12 (oi := ?_) (v := ?_) ?_ (by rw [hops.out]; kernel_rfl) ?_ ?_ ?_ (by assumption) ?_
  rotate_left 2
  · rw [hops.out]; simp only [List.getElem?_toArray, List.getElem?_cons_succ, List.getElem?_cons_zero]; rfl
  · rw [hops.out]; kernel_rfl
  · intro W hW; (try dsimp only at hW); go_simp <;> with_reducible rfl
  · exact fun _ _ _ h => h
  try simp only [Act.put, List.setIfInBounds_toArray, List.set_cons_zero, List.set_cons_succ]
  refine take_do 15 (oi := ?_) (v := ?_) ?_ (by rw [hops.out]; kernel_rfl) ?_ ?_ ?_ (by assumption) ?_
  rotate_left 2
  · rw [hops.out]; simp only [List.getElem?_toArray, List.getElem?_cons_succ, List.getElem?_cons_zero]; rfl
  · rw [hops.out]; kernel_rfl
  · intro W hW; (try dsimp only at hW); go_simp <;> with_reducible rfl
  · exact fun _ _ _ h => h
  try simp only [Act.put, List.setIfInBounds_toArray, List.set_cons_zero, List.set_cons_succ]
  refine take_do 16 (oi := ?_) (v := ?_) ?_ (by rw [hops.out]; kernel_rfl) ?_ ?_ ?_ (by assumption) ?_
  rotate_left 2
  · rw [hops.out]; simp only [List.getElem?_toArray, List.getElem?_cons_succ, List.getElem?_cons_zero]; rfl
  · rw [hops.out]; kernel_rfl
  · intro W hW; (try dsimp only at hW); go_simp <;> with_reducible rfl
  · exact fun _ _ _ h => h
  try simp only [Act.put, List.setIfInBounds_toArray, List.set_cons_zero, List.set_cons_succ]
  refine take_do 17 (oi := ?_) (v := ?_) ?_ (by rw [hops.out]; kernel_rfl) ?_ ?_ ?_ (by assumption) ?_
  rotate_left 2
  · rw [hops.out]; simp only [List.getElem?_toArray, List.getElem?_cons_succ, List.getElem?_cons_zero]; rfl
  · rw [hops.out]; kernel_rfl
  · intro W hW; (try dsimp only at hW); go_simp <;> with_reducible rfl
  · exact fun _ _ _ h => h
  try simp only [Act.put, List.setIfInBounds_toArray, List.set_cons_zero, List.set_cons_succ]
  refine take_call 2 (oi := ?_) ?_ (by rw [hops.out]; kernel_rfl) ?_ ?_
  rotate_left 1
  · rw [hops.out]; simp only [List.getElem?_toArray, List.getElem?_cons_succ, List.getElem?_cons_zero]; rfl
  · rw [hops.out]; kernel_rfl
  intro K hK
  go_simp
  refine (HB.out _ _ (by omega) (by omega)).mono ?_
  rintro e y1 ⟨rfl, b1⟩
  have hS1 : _ ∧ _ := (show ((fun W => W.cell? ⟨bx, 0, none⟩ = some (.int .i64 x.kind) ∧ W.cell? ⟨bx, 1, none⟩ = some (.int .i64 x.src) ∧ W.cell? ⟨bx, 2, none⟩ = some (.int .i64 x.dst) ∧ W.cell? ⟨bx, 3, none⟩ = some (.int .i64 x.area) ∧ W.cell? ⟨bx, 4, none⟩ = some (.slice a1 x.heard.length c1))) y1 from by
    obtain ⟨m0, m1, m2, m3, m4⟩ := hHeld
    refine ⟨?_, ?_, ?_, ?_, ?_⟩ <;> (refine (b1.cell ?_).trans ?_ <;> assumption))
  have hbl1 : bx < y1.heap.size := Nat.lt_of_lt_of_le (by assumption) b1.size
  refine hK.out _ _ hS1 (fun hHeld => ?_)
  clear hK K hS1
  try simp only [Act.put, List.setIfInBounds_toArray, List.set_cons_zero, List.set_cons_succ]
  refine take_call 5 (oi := ?_) ?_ (by rw [hops.out]; kernel_rfl) ?_ ?_
  rotate_left 1
  · rw [hops.out]; simp only [List.getElem?_toArray, List.getElem?_cons_succ, List.getElem?_cons_zero]; rfl
  · rw [hops.out]; kernel_rfl
  intro K hK
  go_simp
  refine (HB.out _ _ (by omega) (by omega)).mono ?_
  rintro e y2 ⟨rfl, b2⟩
  have hS2 : _ ∧ _ := (show ((fun W => W.cell? ⟨bx, 0, none⟩ = some (.int .i64 x.kind) ∧ W.cell? ⟨bx, 1, none⟩ = some (.int .i64 x.src) ∧ W.cell? ⟨bx, 2, none⟩ = some (.int .i64 x.dst) ∧ W.cell? ⟨bx, 3, none⟩ = some (.int .i64 x.area) ∧ W.cell? ⟨bx, 4, none⟩ = some (.slice a1 x.heard.length c1))) y2 from by
    obtain ⟨m0, m1, m2, m3, m4⟩ := hHeld
    refine ⟨?_, ?_, ?_, ?_, ?_⟩ <;> (refine (b2.cell ?_).trans ?_ <;> assumption))
  have hbl2 : bx < y2.heap.size := Nat.lt_of_lt_of_le (by assumption) b2.size
  refine hK.out _ _ hS2 (fun hHeld => ?_)
  clear hK K hS2
  try simp only [Act.put, List.setIfInBounds_toArray, List.set_cons_zero, List.set_cons_succ]
  refine take_do 6 (oi := ?_) (v := ?_) ?_ (by rw [hops.out]; kernel_rfl) ?_ ?_ ?_ (by assumption) ?_
  rotate_left 2
  · rw [hops.out]; simp only [List.getElem?_toArray, List.getElem?_cons_succ, List.getElem?_cons_zero]; rfl
  · rw [hops.out]; kernel_rfl
  · intro W hW; (try dsimp only at hW); go_simp <;> with_reducible rfl
  · exact fun _ _ _ h => h
  try simp only [Act.put, List.setIfInBounds_toArray, List.set_cons_zero, List.set_cons_succ]
  refine take_call 9 (oi := ?_) ?_ (by rw [hops.out]; kernel_rfl) ?_ ?_
  rotate_left 1
  · rw [hops.out]; simp only [List.getElem?_toArray, List.getElem?_cons_succ, List.getElem?_cons_zero]; rfl
  · rw [hops.out]; kernel_rfl
  intro K hK
  go_simp
  refine (HB.out _ _ (by omega) (by omega)).mono ?_
  rintro e y3 ⟨rfl, b3⟩
  have hS3 : _ ∧ _ := (show ((fun W => W.cell? ⟨bx, 0, none⟩ = some (.int .i64 x.kind) ∧ W.cell? ⟨bx, 1, none⟩ = some (.int .i64 x.src) ∧ W.cell? ⟨bx, 2, none⟩ = some (.int .i64 x.dst) ∧ W.cell? ⟨bx, 3, none⟩ = some (.int .i64 x.area) ∧ W.cell? ⟨bx, 4, none⟩ = some (.slice a1 x.heard.length c1))) y3 from by
    obtain ⟨m0, m1, m2, m3, m4⟩ := hHeld
    refine ⟨?_, ?_, ?_, ?_, ?_⟩ <;> (refine (b3.cell ?_).trans ?_ <;> assumption))
  have hbl3 : bx < y3.heap.size := Nat.lt_of_lt_of_le (by assumption) b3.size
  refine hK.out _ _ hS3 (fun hHeld => ?_)
  clear hK K hS3
  try simp only [Act.put, List.setIfInBounds_toArray, List.set_cons_zero, List.set_cons_succ]
  refine take_do 10 (oi := ?_) (v := ?_) ?_ (by rw [hops.out]; kernel_rfl) ?_ ?_ ?_ (by assumption) ?_
  rotate_left 2
  · rw [hops.out]; simp only [List.getElem?_toArray, List.getElem?_cons_succ, List.getElem?_cons_zero]; rfl
  · rw [hops.out]; kernel_rfl
  · intro W hW; (try dsimp only at hW); go_simp <;> with_reducible rfl
  · exact fun _ _ _ h => h
  try simp only [Act.put, List.setIfInBounds_toArray, List.set_cons_zero, List.set_cons_succ]
  refine take_call 13 (oi := ?_) ?_ (by rw [hops.out]; kernel_rfl) ?_ ?_
  rotate_left 1
  · rw [hops.out]; simp only [List.getElem?_toArray, List.getElem?_cons_succ, List.getElem?_cons_zero]; rfl
  · rw [hops.out]; kernel_rfl
  intro K hK
  go_simp
  refine (HB.out _ _ (by omega) (by omega)).mono ?_
  rintro e y4 ⟨rfl, b4⟩
  have hS4 : _ ∧ _ := (show ((fun W => W.cell? ⟨bx, 0, none⟩ = some (.int .i64 x.kind) ∧ W.cell? ⟨bx, 1, none⟩ = some (.int .i64 x.src) ∧ W.cell? ⟨bx, 2, none⟩ = some (.int .i64 x.dst) ∧ W.cell? ⟨bx, 3, none⟩ = some (.int .i64 x.area) ∧ W.cell? ⟨bx, 4, none⟩ = some (.slice a1 x.heard.length c1))) y4 from by
    obtain ⟨m0, m1, m2, m3, m4⟩ := hHeld
    refine ⟨?_, ?_, ?_, ?_, ?_⟩ <;> (refine (b4.cell ?_).trans ?_ <;> assumption))
  have hbl4 : bx < y4.heap.size := Nat.lt_of_lt_of_le (by assumption) b4.size
  refine hK.out _ _ hS4 (fun hHeld => ?_)
  clear hK K hS4
  try simp only [Act.put, List.setIfInBounds_toArray, List.set_cons_zero, List.set_cons_succ]
  refine take_do 14 (oi := ?_) (v := ?_) ?_ (by rw [hops.out]; kernel_rfl) ?_ ?_ ?_ (by assumption) ?_
  rotate_left 2
  · rw [hops.out]; simp only [List.getElem?_toArray, List.getElem?_cons_succ, List.getElem?_cons_zero]; rfl
  · rw [hops.out]; kernel_rfl
  · intro W hW; (try dsimp only at hW); go_simp <;> with_reducible rfl
  · exact fun _ _ _ h => h
  try simp only [Act.put, List.setIfInBounds_toArray, List.set_cons_zero, List.set_cons_succ]
  refine take_call 18 (oi := ?_) ?_ (by rw [hops.out]; kernel_rfl) ?_ ?_
  rotate_left 1
  · rw [hops.out]; simp only [List.getElem?_toArray, List.getElem?_cons_succ, List.getElem?_cons_zero]; rfl
  · rw [hops.out]; kernel_rfl
  intro K hK
  go_simp
  refine (HVN.out _ _ (by omega)).mono ?_
  rintro e y5 ⟨rfl, b5⟩
  have hS5 : _ ∧ _ := (show ((fun W => W.cell? ⟨bx, 0, none⟩ = some (.int .i64 x.kind) ∧ W.cell? ⟨bx, 1, none⟩ = some (.int .i64 x.src) ∧ W.cell? ⟨bx, 2, none⟩ = some (.int .i64 x.dst) ∧ W.cell? ⟨bx, 3, none⟩ = some (.int .i64 x.area) ∧ W.cell? ⟨bx, 4, none⟩ = some (.slice a1 x.heard.length c1))) y5 from by
    obtain ⟨m0, m1, m2, m3, m4⟩ := hHeld
    refine ⟨?_, ?_, ?_, ?_, ?_⟩ <;> (refine (b5.cell ?_).trans ?_ <;> assumption))
  have hbl5 : bx < y5.heap.size := Nat.lt_of_lt_of_le (by assumption) b5.size
  refine hK.out _ _ hS5 (fun hHeld => ?_)
  clear hK K hS5
  try simp only [Act.put, List.setIfInBounds_toArray, List.set_cons_zero, List.set_cons_succ]
  refine take_do 19 (oi := ?_) (v := ?_) ?_ (by rw [hops.out]; kernel_rfl) ?_ ?_ ?_ (by assumption) ?_
  rotate_left 2
  · rw [hops.out]; simp only [List.getElem?_toArray, List.getElem?_cons_succ, List.getElem?_cons_zero]; rfl
  · rw [hops.out]; kernel_rfl
  · intro W hW; (try dsimp only at hW); go_simp <;> with_reducible rfl
  · exact fun _ _ _ h => h
  try simp only [Act.put, List.setIfInBounds_toArray, List.set_cons_zero, List.set_cons_succ]
  have B5 : Below w.heap.size w y5 := ((((hnd.trans (b1.mono hnd.size)).trans (b2.mono (Nat.le_trans hnd.size b1.size))).trans (b3.mono (Nat.le_trans (Nat.le_trans hnd.size b1.size) b2.size))).trans (b4.mono (Nat.le_trans (Nat.le_trans (Nat.le_trans hnd.size b1.size) b2.size) b3.size))).trans (b5.mono (Nat.le_trans (Nat.le_trans (Nat.le_trans (Nat.le_trans hnd.size b1.size) b2.size) b3.size) b4.size))
  have BB5 : Below w1.heap.size w1 y5 := (((((Below.refl w1.heap.size w1).drew.trans (b1.mono (Nat.le_refl _))).trans (b2.mono b1.size)).trans (b3.mono (Nat.le_trans b1.size b2.size))).trans (b4.mono (Nat.le_trans (Nat.le_trans b1.size b2.size) b3.size))).trans (b5.mono (Nat.le_trans (Nat.le_trans (Nat.le_trans b1.size b2.size) b3.size) b4.size))
  obtain ⟨C, y6, hcv, rx, b6⟩ := row_text (bs L4) y5 (by rw [bs_size]; omega)
  refine wpAnyH_ready (rs := [20]) (by rw [hops.out]; kernel_rfl) (by simp) ?_
  refine AllReadyH.cons (o := ?_) ?_ (fun K hK => ?_) ?_
  rotate_left 1
  · rw [hops.out]; simp only [List.getElem?_toArray, List.getElem?_cons_succ, List.getElem?_cons_zero]; rfl
  · rw [if_pos (by rfl)]
    go_simp
    have hS6 : _ ∧ _ := (show ((fun W => W.cell? ⟨bx, 0, none⟩ = some (.int .i64 x.kind) ∧ W.cell? ⟨bx, 1, none⟩ = some (.int .i64 x.src) ∧ W.cell? ⟨bx, 2, none⟩ = some (.int .i64 x.dst) ∧ W.cell? ⟨bx, 3, none⟩ = some (.int .i64 x.area) ∧ W.cell? ⟨bx, 4, none⟩ = some (.slice a1 x.heard.length c1))) y6 from by
      obtain ⟨m0, m1, m2, m3, m4⟩ := hHeld
      refine ⟨?_, ?_, ?_, ?_, ?_⟩ <;> (refine (b6.cell ?_).trans ?_ <;> assumption))
    refine hK.out _ _ hS6 (fun hHeld => ?_)
    clear hK K hS6
    try simp only [Act.put, List.setIfInBounds_toArray, List.set_cons_zero, List.set_cons_succ]
    refine take_do 21 (oi := ?_) (v := ?_) ?_ (by rw [hops.out]; kernel_rfl) ?_ ?_ ?_ (by assumption) ?_
    rotate_left 2
    · rw [hops.out]; simp only [List.getElem?_toArray, List.getElem?_cons_succ, List.getElem?_cons_zero]; rfl
    · rw [hops.out]; kernel_rfl
    · intro W hW; (try dsimp only at hW); go_simp <;> with_reducible rfl
    · exact fun _ _ _ h => h
    try simp only [Act.put, List.setIfInBounds_toArray, List.set_cons_zero, List.set_cons_succ]
    refine wpAnyH_done (by rw [hops.out]; kernel_rfl) ?_ _
    clear hops ops
    clear e1 e2 e3 e4 hHeld s0 s1 s2 s3 s4 hcv
    have B6 : Below w.heap.size w y6 := B5.trans (b6.mono B5.size)
    have BB6 : Below w1.heap.size w1 y6 := BB5.trans (b6.mono BB5.size)
    have G6 := hide ((BB6.block _ hbl).trans G1.out)
    have RX6 := hide (show RowX y6 w1.heap.size (.slice (some ⟨y5.heap.size, 0, none⟩) (bs L4).size C) L4 from rx.low BB5.size)
    obtain ⟨B, hB⟩ : ∃ B, B = w1.heap.size := ⟨_, rfl⟩
    have HBB := hide hB
    rw [← hB] at RX6 BB6 hbl
    obtain ⟨V6, hV6⟩ : ∃ V, V = Value.slice (some ⟨y5.heap.size, 0, none⟩) (bs L4).size C := ⟨_, rfl⟩
    rw [← hV6] at RX6 ⊢
    clear hB hV6 b1 b2 b3 b4 b5 b6 hbl1 hbl2 hbl3 hbl4 hbl5 rx B5 BB5 hnd hbl0
    go_wp2
    go_loopw [4, 5] (fun o i wr => ∃ (k : Nat) (l : List UInt8), k ≤ x.heard.length ∧ i = .int .i64 k ∧ RowX wr B o l ∧ Hid (l = L4 ++ (x.heard.take k).map byB) ∧ Below B w1 wr) (fun _ i _ => x.heard.length - (intOf i).toNat)
    case atStart => exact ⟨0, L4, by omega, rfl, RX6.out, hide (by simp), BB6⟩
    case round =>
      clear RX6 BB6 G6 B6
      obtain ⟨k, l, hk, rfl, hrx, hle, hbn⟩ := hrel
      obtain ⟨g, gc, rfl⟩ := hrx.shape
      have hll : l.length ≤ 20 := by rw [hle.out]; simp; omega
      have gr := (hbn.block _ hbl).trans G1.out
      have s4 := cells_at gr 4
      have s5 := cells_at gr 5
      simp at s4 s5
      clear gr
      have hsz := hbn.size
      have hBs : B ≤ wr.heap.size := by have := HBB.out; omega
      have BW : Below w.heap.size w wr := B1.trans (hbn.mono (by have := HBB.out; omega))
      by_cases hlt : k < x.heard.length
      · obtain ⟨z, hz⟩ : ∃ z, x.heard[k]? = some z := ⟨x.heard[k], List.getElem?_eq_getElem hlt⟩
        obtain ⟨b, off, cap', hve, hbb, d0⟩ := HopsAt.cell ((HV.out.below BW hhi).in.heard) k z hz
        cases hve
        have hzz := HBD.out.heard z (List.mem_of_getElem? hz)
        have hu8 : IntKind.u8.wrap z = z := by rw [IntKind.wrap_u8]; omega
        have HLE := hide (show l ++ [byB z] = L4 ++ (x.heard.take (k + 1)).map byB by
          obtain ⟨hk2, e2⟩ := List.getElem?_eq_some_iff.1 hz
          rw [hle.out, List.take_succ_eq_append_getElem hk2, List.map_append, e2, List.append_assoc]
          rfl)
        have RX := hide hrx
        have hki : (0 : Int) ≤ (k : Int) := by omega
        have hkj : (k : Int) < (x.heard.length : Int) := by omega
        clear hrx hz hle
        go_wp2_with (first
          | (at_builtin; refine wpList_append_X _ rfl _ _ 22 rfl B Tryz.underlying22 Tryz.infoByte _ l [byB z] rfl (RX.out.keep (fun j _ h => Below.heap_alloc _ _ j h)) ⟨wr.heap.size, 0, none⟩ 1 1 rfl rfl (one_cell_news wr z (by omega) (by omega)) (by simp; omega) (by simp; omega) ?_))
        intro v' w7 l' hl' hrx7 hgr
        obtain ⟨g7, c7, rfl⟩ := hrx7.shape
        have RX7 := hide hrx7
        have BN7 := hide ((hbn.alloc (by omega) _).grown hgr (by simp; omega) (fun j hj => RX.out.lt j hj))
        clear hrx7 hgr
        go_wp2
        go_roundw
        case rel => exact ⟨k + 1, l', by omega, by go_num, RX7.out, hide (by rw [hl'.out]; exact HLE.out), BN7.out⟩
        case measure => simp [intOf]; omega
      · have hkn : k = x.heard.length := by omega
        have hL5 : l = oneL x ++ varL x.heard.length ++ x.heard.map byB := by rw [hle.out, HL4.out, hkn, List.take_length]
        have HL5 := hide hL5
        have RX := hide hrx
        have HVL := hide (HVN.out ps.length wr (by omega))
        have hvp := varL_five (n := ps.length) (by omega)
        clear hkn hL5 hrx hle
        go_wp2_with fail
        refine HVL.out.mono ?_
        rintro e w7 ⟨rfl, b7⟩
        obtain ⟨C7, w8, hcv, rx8, b8⟩ := row_text (bs (varL ps.length)) w7 (by rw [bs_size]; omega)
        obtain ⟨g8, gc8, hv8, _, _, hc8⟩ := rx8.cells
        have e8 : g8 = w7.heap.size := by cases hv8; rfl
        rw [e8] at hc8
        have hs7 := b7.size
        have hs8 := b8.size
        have RX8 := hide (RX.out.keep (w' := w8) (fun j _ h => (b8.block j (by omega)).trans (b7.block j h)))
        have BN8 : Below B w1 w8 := (hbn.trans (b7.mono (by omega))).trans (b8.mono (by omega))
        have HC8 := hide hc8
        have hsn : (bs (varL ps.length)).size = (varL ps.length).length := bs_size _
        have HSN := hide hsn
        clear hsn hv8 e8 hc8 rx8 s4 s5
        go_wp2_with (first
          | (at_builtin; refine wpList_append_X _ rfl _ _ 22 rfl B Tryz.underlying22 Tryz.infoByte _ l (varL ps.length) rfl RX8.out ⟨w7.heap.size, 0, none⟩ _ _ HSN.out rfl HC8.out (by omega) (by omega) ?_))
        intro v' w9 l' hl' hrx9 hgr
        obtain ⟨g9, c9, rfl⟩ := hrx9.shape
        have RX9 := hide hrx9
        have BN9 := hide (BN8.grown hgr (by omega) (fun j hj => RX8.out.lt j hj))
        have HL9 := hide (show l' = oneL x ++ varL x.heard.length ++ x.heard.map byB ++ varL ps.length by rw [hl'.out, HL5.out])
        have hl9 : l'.length ≤ 30 := by rw [hl'.out, List.length_append]; omega
        clear hrx9 hgr hcv b7 b8 BN8 RX8 RX hbn BW hl' HVL
        go_wp2
        go_loopw [4, 6] (fun o i wr => ∃ (k : Nat) (l : List UInt8), k ≤ ps.length ∧ i = .int .i64 k ∧ RowX wr B o l ∧ Hid (l = l' ++ shortsL ((fsts ps).take k)) ∧ Below B w1 wr) (fun _ i _ => ps.length - (intOf i).toNat)
        case atStart => exact ⟨0, l', by omega, rfl, RX9.out, hide (by simp [shortsL]), BN9.out⟩
        case round =>
          rename World => wt
          clear RX9 BN9
          obtain ⟨k, m, hk, rfl, hrx, hle, hbn⟩ := hrel
          obtain ⟨g, gc, rfl⟩ := hrx.shape
          have hmm : m.length ≤ 20000 := by
            have h1 := shortsL_len (xs := (fsts ps).take k) (fun r hr => HBD.out.recs r (List.mem_of_mem_take hr))
            have h2 : ((fsts ps).take k).length ≤ k := by simp; omega
            rw [hle.out]
            simp only [List.length_append]
            omega
          have gr := (hbn.block _ hbl).trans G1.out
          have s5 := cells_at gr 5
          simp at s5
          clear gr
          have hsz := hbn.size
          have hBs : B ≤ wt.heap.size := by have := HBB.out; omega
          have BW : Below w.heap.size w wt := B1.trans (hbn.mono (by have := HBB.out; omega))
          by_cases hlt : k < ps.length
          · obtain ⟨p, hp⟩ : ∃ p, ps[k]? = some p := ⟨ps[k], List.getElem?_eq_getElem hlt⟩
            have hpi := ((HV.out.below BW hhi).in.more (Nat.le_trans hhi BW.size)).list
            obtain ⟨b, off, cap', hve, hgb, d0, d1, d2, d3, d4, d5, d6, d7, hnr⟩ := hpi.cells k p hp
            cases hve
            obtain ⟨pa, pc, hpn⟩ := NearsAt.shape hnr
            rw [hpn] at d5 hnr
            have hpr := HBD.out.recs p.1 (List.mem_map_of_mem (List.mem_of_getElem? hp))
            have h60 := recL_len hpr
            have h65 := shortL_len hpr
            have HTX := stext_any _ p.1 wt (by have := recOk_near hpr; omega) hnr
            rw [show textV p.1 = .tuple #[.string (bs (recL p.1)), .bool true] by unfold textV; rw [if_pos hpr]] at HTX
            unfold recC at HTX
            have HT := hide HTX
            have HLE := hide (show m ++ shortL p.1 = l' ++ shortsL ((fsts ps).take (k + 1)) by rw [hle.out, shortsL_succ (fsts_at hp), List.append_assoc])
            have RX := hide hrx
            have HSH := hide (sshort_any (bs (recL p.1)))
            have hki : (0 : Int) ≤ (k : Int) := by omega
            have hkj : (k : Int) < (ps.length : Int) := by omega
            clear HTX hnr hpn hp hpr hrx hle hpi
            go_wp2_with fail
            refine HT.out.mono ?_
            rintro e w7 ⟨rfl, b7⟩
            clear d0 d1 d2 d3 d4 d5 d6 d7 s5
            go_wp2_with fail
            refine (HSH.out _ (by rw [bs_size]; omega)).mono ?_
            rintro e w8 ⟨rfl, b8⟩
            rw [show bs (varL (bs (recL p.1)).size) ++ bs (recL p.1) = bs (shortL p.1) by rw [bs_add, bs_size]; rfl]
            obtain ⟨C7, w9, hcv, rx9, b9⟩ := row_text (bs (shortL p.1)) w8 (by rw [bs_size]; omega)
            obtain ⟨g8, gc8, hv8, _, _, hc8⟩ := rx9.cells
            have e8 : g8 = w8.heap.size := by cases hv8; rfl
            rw [e8] at hc8
            have hs7 := b7.size
            have hs8 := b8.size
            have hs9 := b9.size
            have RX9 := hide (RX.out.keep (w' := w9) (fun j _ h => (b9.block j (by omega)).trans ((b8.block j (by omega)).trans (b7.block j h))))
            have BN9 : Below B w1 w9 := ((hbn.trans (b7.mono (by omega))).trans (b8.mono (by omega))).trans (b9.mono (by omega))
            have HC8 := hide (show ∀ j u, (cellsOf (shortL p.1))[j]? = some u → w9.cell? ((⟨w8.heap.size, 0, none⟩ : Addr).add j) = some u from hc8)
            have HSN := hide (show (bs (shortL p.1)).size = (shortL p.1).length from bs_size _)
            clear hv8 e8 hc8 rx9
            go_wp2_with (first
              | (at_builtin; refine wpList_append_X _ rfl _ _ 22 rfl B Tryz.underlying22 Tryz.infoByte _ m (shortL p.1) rfl RX9.out ⟨w8.heap.size, 0, none⟩ _ _ HSN.out rfl HC8.out (by omega) (by omega) ?_))
            intro v' wa m' hm' hrxa hgr
            obtain ⟨ga, ca, rfl⟩ := hrxa.shape
            have RXA := hide hrxa
            have BNA := hide (BN9.grown hgr (by omega) (fun j hj => RX9.out.lt j hj))
            clear hrxa hgr hcv b7 b8 b9 BN9 RX9 RX hbn BW
            go_wp2
            go_roundw
            case rel => exact ⟨k + 1, m', by omega, by go_num, RXA.out, hide (by rw [hm'.out]; exact HLE.out), BNA.out⟩
            case measure => simp [intOf]; omega
          · have hkn : k = ps.length := by omega
            have hPL2 : m = PL := by
              rw [hle.out, HL9.out, HPL.out, hkn, List.take_of_length_le (by have := HFL.out; omega)]
              unfold pkL
              rw [HFL.out]
            subst hPL2
            have hst := run_str_X hrx
            have HSE := sse_any (bs m) wt (by rw [bs_size]; omega)
            rw [se_short (by rw [bs_size]; omega)] at HSE
            have HSS := hide HSE
            have hnlong : ¬ (20000 : Int) < (m.length : Int) + 4 := by omega
            have hww : IntKind.i64.wrap ((m.length : Int) + 4) = (m.length : Int) + 4 := wrap_fit _ (by omega) (by omega)
            obtain ⟨TX, hTX⟩ : ∃ T, T = bs m ++ bs (fourL (sumS (bs m))) := ⟨_, rfl⟩
            rw [← hTX] at HSS
            have HTX := hide hTX
            clear hTX HSE hkn hle
            go_wp2_with fail
            refine HSS.out.mono ?_
            rintro e w9 ⟨rfl, b9⟩
            have BF := hide (BW.trans (b9.mono BW.size))
            clear b9
            go_wp2
            go_returns
            exact ⟨by rw [HTX.out]; rfl, BF.out⟩
  exact AllReadyH.nil
end Go.Proofs.YtchmmekhfcojgaaGreatDoor
