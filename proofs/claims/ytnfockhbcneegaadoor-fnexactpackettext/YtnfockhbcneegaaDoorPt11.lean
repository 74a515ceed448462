/-
  append onto a row of bytes none of whose cells is frozen (what a conversion of a text leaves).
  spec.PacketText: its contract.
  What the laws of lists of records want.
  laws.FnExactPacketText: its walk.
  Slices of structs of two fields of one cell each, opened at every index.
  An argument of type laws.Record, opened.
  Slices of structs of any number of cells, opened at every index (cut out of OpenRecs).
-/
import Derived.Test.YtnfockhbcneegaaDoorPt1
import Derived.Lib.FrozenHead2
import Derived.Test.YtnfockhbcneegaaDoorPt8
import Derived.Test.YtnfockhbcneegaaDoorPt10
import Derived.Test.YtnfockhbcneegaaDoorPt3
import Derived.Test.YtnfockhbcneegaaDoorPt2
import Derived.LaidMore
import Derived.Stop.LaidErr
import Derived.Lib.LaidTab
import Derived.MakeChecks
import Derived.Deep.RegionHeld3
import Derived.Deep.Slices
import Derived.ChangeSame
import Derived.OpenShut
namespace Go.Proofs.YtnfockhbcneegaaDoor
open Go.RowKit

set_option linter.unusedSimpArgs false

/-- a row of bytes of the call's own, from base on, none of whose cells is frozen -/
def RowX (w : World) (base : Nat) (v : Value) (l : List UInt8) : Prop :=
  ∃ g cap cur fz, v = .slice (some ⟨g, 0, none⟩) l.length cap ∧ base ≤ g ∧ w.heap[g]? = some (.cells cur 5 fz) ∧ (cur.size ≤ fz.1 ∨ fz.2 = 0) ∧ l.length ≤ cap ∧ cap ≤ maxLen ∧ cur.size = cap ∧ cur.toList.take l.length = cellsOf l

theorem free_cell {w : World} {g : Nat} {cur : Array Value} {t : TypeId} {fz : Nat × Nat} (h : w.heap[g]? = some (.cells cur t fz)) (hf : cur.size ≤ fz.1 ∨ fz.2 = 0) (j : Nat) (hj : j < cur.size) : w.frozen? ⟨g, j, none⟩ = false := by
  obtain ⟨a, b⟩ := fz
  simp only [World.frozen?, h, Bool.and_eq_false_iff, decide_eq_false_iff_not]
  simp only at hf
  omega

/-- cells stored one behind another into such a row -/
theorem lay_cells (P : Program) (g o : Nat) (t : TypeId) (fz : Nat × Nat) : ∀ (vs : List Value) (i : Nat) (cur : Array Value) (w : World), w.heap[g]? = some (.cells cur t fz) → (cur.size ≤ fz.1 ∨ fz.2 = 0) → o + i + vs.length ≤ cur.size → (∀ v ∈ vs, v.oneCell' = true) →
    ∃ cur' : Array Value, (storeCells ⟨g, o, none⟩ vs i).run P w = .ok () (w.setRow g cur') ∧ cur'.size = cur.size ∧ cur'.toList.take (o + i + vs.length) = cur.toList.take (o + i) ++ vs := by
  intro vs
  induction vs with
  | nil =>
    intro i cur w hg _ _ _
    refine ⟨cur, ?_, rfl, by simp⟩
    rw [setRow_self w g cur t fz hg]
    rfl
  | cons v rest ih =>
    intro i cur w hg hf hl h1
    simp only [List.length_cons] at hl
    have hlt : o + i < cur.size := by omega
    have hadd : (⟨g, o, none⟩ : Addr).add i = ⟨g, o + i, none⟩ := by unfold Addr.add; split <;> simp_all
    have hc : w.cell? ⟨g, o + i, none⟩ = some cur[o + i] := by simp [World.cell?, hg, hlt]
    have hst : (store ((⟨g, o, none⟩ : Addr).add i) v).run P w = .ok () (w.setRow g (cur.setIfInBounds (o + i) v)) := by
      rw [hadd, run_store P w _ v _ (h1 v (List.mem_cons_self ..)), hc]
      simp [free_cell hg hf _ hlt, setCell_eq_setRow w g (o + i) cur t fz v hg]
    obtain ⟨cur', r1, r2, r3⟩ := ih (i + 1) (cur.setIfInBounds (o + i) v) (w.setRow g (cur.setIfInBounds (o + i) v)) (setRow_heap w g cur _ t _ hg) (by simpa using hf) (by simp; omega) (fun u hu => h1 u (List.mem_cons_of_mem _ hu))
    refine ⟨cur', ?_, by simpa using r2, ?_⟩
    · simp only [storeCells, Sem.run_bind, hst, Result.andThen_ok, r1, setRow_setRow]
    · have e1 : o + i + (v :: rest).length = o + (i + 1) + rest.length := by simp only [List.length_cons]; omega
      have e2 : (cur.setIfInBounds (o + i) v).toList.take (o + (i + 1)) = cur.toList.take (o + i) ++ [v] := by
        have hl2 : o + i < (cur.toList.set (o + i) v).length := by simpa using hlt
        rw [Array.toList_setIfInBounds, show o + (i + 1) = o + i + 1 by omega, List.take_succ_eq_append_getElem hl2, List.take_set_of_le (Nat.le_refl _)]
        simp
      rw [e1, r3, e2, List.append_assoc]
      rfl

theorem RowX.cells {w : World} {base : Nat} {v : Value} {l : List UInt8} (h : RowX w base v l) : ∃ g cap, v = .slice (some ⟨g, 0, none⟩) l.length cap ∧ base ≤ g ∧ g < w.heap.size ∧ ∀ j u, (cellsOf l)[j]? = some u → w.cell? ((⟨g, 0, none⟩ : Addr).add j) = some u := by
  obtain ⟨g, cap, cur, fz, rfl, hb, hg, _, _, _, _, ht⟩ := h
  refine ⟨g, cap, rfl, hb, (Array.getElem?_eq_some_iff.1 hg).1, fun j u hu => ?_⟩
  have hadd : (⟨g, 0, none⟩ : Addr).add j = ⟨g, j, none⟩ := by unfold Addr.add; split <;> simp_all
  rw [hadd, cell_of_row w g j cur 5 fz hg]
  rw [← ht, List.getElem?_take] at hu
  split at hu
  · simpa using hu
  · cases hu

theorem RowX.keep {w w' : World} {base : Nat} {v : Value} {l : List UInt8} (h : RowX w base v l) (hk : ∀ k, base ≤ k → k < w.heap.size → w'.heap[k]? = w.heap[k]?) : RowX w' base v l := by
  obtain ⟨g, cap, cur, fz, hv, hb, hg, r⟩ := h
  exact ⟨g, cap, cur, fz, hv, hb, (hk g hb (Array.getElem?_eq_some_iff.1 hg).1).trans hg, r⟩

theorem cellsOf_one (l : List UInt8) : ∀ u ∈ cellsOf l, u.oneCell' = true := by
  intro u hu
  obtain ⟨b, _, rfl⟩ := List.mem_map.1 hu
  rfl

theorem append_X {P : Program} (w : World) (base : Nat) (t ty : TypeId) (i : TypeInfo) (ht : P.underlying t = some (.slice 5)) (hi : P.info? 5 = some i) (hz : i.zero = some (.int .u8 0)) (hs : i.size = 1) (hby : i.bytes = 1)
    (v : Value) (l nb : List UInt8) (hown : RowX w base v l) (a : Addr) (c : Nat) (hnews : ∀ j u, (cellsOf nb)[j]? = some u → w.cell? (a.add j) = some u) (hlen : l.length + nb.length ≤ 1000000) (hbase : base ≤ w.heap.size) :
    ∃ v' w', (Builtin.append_ #[t, t] ty #[v, .slice (some a) nb.length c]).run P w = .ok v' w' ∧ RowX w' base v' (l ++ nb) ∧ w.grownBy w' v.ownBlock := by
  have hcl : (cellsOf nb).length = nb.length * i.size := by rw [hs, cellsOf_length]; omega
  obtain ⟨g, cap, hv0, _, _, holds⟩ := hown.cells
  obtain ⟨g1, cap1, cur, fz, rfl, hb, hg, hf, h1, h2, h3, h4⟩ := hown
  cases hv0
  by_cases hroom : l.length + nb.length ≤ cap
  · obtain ⟨cur', r1, r2, r3⟩ := lay_cells P g l.length 5 fz (cellsOf nb) 0 cur w hg hf (by rw [cellsOf_length]; omega) (cellsOf_one nb)
    have hfc := run_firstCells_some (P := P) w i.size nb.length a nb.length c (cellsOf nb) hcl hnews
    refine ⟨.slice (some ⟨g, 0, none⟩) (l.length + nb.length) cap, w.setRow g cur', ?_, ?_, ⟨rfl, rfl, rfl, by simp, fun k _ hk => setRow_other w g k _ (fun e => hk (by simp [Value.ownBlock, e]))⟩⟩
    · have r1' : (storeCells ⟨g, l.length * i.size, none⟩ (cellsOf nb)).run P w = .ok () (w.setRow g cur') := by rw [hs, Nat.mul_one]; exact r1
      simp [Builtin.append_, run_underlying ht, sizeOf, typeInfo, hi, Builtin.lenOf, hroom, hfc, Addr.add_lit, r1']
    · refine ⟨g, cap, cur', fz, by simp, hb, setRow_heap w g cur _ 5 _ hg, by rw [r2]; exact hf, by simp; omega, h2, by rw [r2]; exact h3, ?_⟩
      rw [cellsOf_length, Nat.add_zero] at r3
      rw [List.length_append, r3, h4, cellsOf_append]
  · have hr := run_append_grow (P := P) w t ty 5 i (.int .u8 0) ht hi hz ⟨g, 0, none⟩ l.length cap (cellsOf l) (by rw [hs, cellsOf_length]; omega) holds a nb.length c (cellsOf nb) hcl hnews (by omega) (by omega) (growslice_fits (by omega) (by rw [hby]; omega))
    have hge := grownCap_ge w (l.length + nb.length) cap 5
    have hle : grownCap w (l.length + nb.length) cap 5 ≤ maxLen := grownCap_le_maxLen w _ cap 5 (by unfold maxLen; omega)
    refine ⟨_, _, hr, ⟨w.heap.size, _, _, (0, 0), by simp, hbase, heap_alloc_new w.drew _, .inr rfl, by simpa using hge, hle, ?_, ?_⟩, ⟨rfl, rfl, rfl, by simp, fun k hk _ => Below.heap_alloc w.drew _ k hk⟩⟩
    · simp [size_zeroCells, cellsOf_length, hs, Value.cells]
      omega
    · simp only [Array.toList_append, List.append_assoc]
      rw [← List.append_assoc, ← cellsOf_append, List.take_left' (by rw [cellsOf_length])]
end Go.Proofs.YtnfockhbcneegaaDoor
namespace Go.Proofs.YtnfockhbcneegaaDoor
open Go.RowKit

set_option linter.unusedSimpArgs false
set_option linter.unusedVariables false

theorem RowX.shape {w : World} {base : Nat} {v : Value} {l : List UInt8} (h : RowX w base v l) : ∃ g cap, v = .slice (some ⟨g, 0, none⟩) l.length cap := by
  obtain ⟨g, cap, cur, fz, hv, _⟩ := h
  exact ⟨g, cap, hv⟩

theorem RowX.low {w : World} {base b2 : Nat} {v : Value} {l : List UInt8} (h : RowX w base v l) (hb : b2 ≤ base) : RowX w b2 v l := by
  obtain ⟨g, cap, cur, fz, hv, h1, r⟩ := h
  exact ⟨g, cap, cur, fz, hv, by omega, r⟩

theorem RowX.lt {w : World} {base : Nat} {v : Value} {l : List UInt8} (h : RowX w base v l) : ∀ k, v.ownBlock = some k → base ≤ k := by
  obtain ⟨g, cap, cur, fz, rfl, h1, r⟩ := h
  intro k hk
  cases hk
  exact h1

theorem Tryd.infoByte : (Tryd.prog.info? 5).map (fun i => (i.zero, i.size, i.bytes)) = some (some (.int .u8 0), 1, 1) := by kernel_rfl

/-- a text's bytes in a row of their own -/
theorem row_text (t : ByteArray) (w : World) (hl : t.size ≤ 1000000) : ∃ C W, (convert 9 42 (.string t)).run Tryd.prog w = .ok (.slice (some ⟨w.heap.size, 0, none⟩) t.size C) W ∧ RowX W w.heap.size (.slice (some ⟨w.heap.size, 0, none⟩) t.size C) t.data.toList ∧ Below w.heap.size w W := by
  have hge := grownCap_ge w t.size 0 5
  have hle : grownCap w t.size 0 5 ≤ maxLen := grownCap_le_maxLen w t.size 0 5 (by unfold maxLen; omega)
  refine ⟨_, _, run_bytes_of_string w 9 42 5 t Tryd.underlying9 Tryd.underlying42 Tryd.underlying5, ?_, ?_⟩
  · generalize grownCap w t.size 0 5 = C at *
    have hsz : t.data.toList.length = t.size := Array.length_toList
    refine ⟨w.heap.size, C, bytesRow t C, _, by rw [hsz], Nat.le_refl _, heap_alloc_new w.drew _, .inl (Nat.le_refl _), by omega, hle, ?_, ?_⟩
    · simp only [bytesRow, Array.size_append, Array.size_map, Array.size_replicate]
      have : t.data.size = t.size := rfl
      omega
    · simp only [bytesRow, Array.toList_append, Array.toList_map]
      rw [List.take_left' (by simp)]
      rfl
  · exact (Below.refl w.heap.size w).drew.alloc (Nat.le_refl _) _

theorem run_str_X {w : World} {base : Nat} {v : Value} {l : List UInt8} (hown : RowX w base v l) : (convert 42 9 v).run Tryd.prog w = .ok (.string (bs l)) w := by
  obtain ⟨g, cap, rfl, _, _, hc⟩ := hown.cells
  exact run_convert_bytes_back w 42 9 5 ⟨g, 0, none⟩ cap l Tryd.underlying42 Tryd.underlying5 Tryd.underlying9 (fun j hj => by
    rw [hc j _ (by rw [cellsOf, List.getElem?_map, List.getElem?_eq_getElem hj]; rfl)])

theorem wpList_append_X {P : Program} (w : World) {ops : Array Oper} {rest : List Oper} {o : Oper} {a : Act} {Q : Exit → Act → World → Prop} (hgd : o.guard = none) (s x : Operand) (t : TypeId)
    (ho : o.op = .call { callee := .builtin .append, args := #[s, x], argTypes := #[t, t] }) (base : Nat) (ht : P.underlying t = some (.slice 5))
    (hinfo : (P.info? 5).map (fun i => (i.zero, i.size, i.bytes)) = some (some (.int .u8 0), 1, 1))
    (v : Value) (l nb : List UInt8) (hs : a.eval s = v) (hown : RowX w base v l)
    (ad : Addr) (n c : Nat) (hn : n = nb.length) (hx : a.eval x = .slice (some ad) n c) (hnews : ∀ j u, (cellsOf nb)[j]? = some u → w.cell? (ad.add j) = some u)
    (hlen : l.length + nb.length ≤ 1000000) (hbase : base ≤ w.heap.size)
    (h : ∀ v' w' l', Hid (l' = l ++ nb) → RowX w' base v' l' → w.grownBy w' v.ownBlock → wpList P ops Q rest (a.put o.dst v') w') : wpList P ops Q (o :: rest) a w := by
  subst hn
  obtain ⟨i0, hi, hz0, hz1, hz2⟩ := info_parts hinfo
  refine wpList_plain hgd fun K hK => ?_
  obtain ⟨v', w', hr, h2, h3⟩ := append_X (P := P) w base t o.type i0 ht hi hz0 hz1 hz2 v l nb hown ad c hnews hlen hbase
  unfold Oper.wp execOp
  simp only [ho, resolve, invoke, builtin, Sem.run_bind, Sem.run_pure, Result.andThen_ok, List.map_toArray, List.map_cons, List.map_nil, hs, hx, hr]
  exact hK _ _ (h v' w' _ rfl h2 h3)

theorem one_cell_news (w : World) (z : Int) (h0 : 0 ≤ z) (h1 : z ≤ 255) : ∀ j u, (cellsOf [byB z])[j]? = some u → (w.alloc (.cells #[.int .u8 z] 5)).cell? ((⟨w.heap.size, 0, none⟩ : Addr).add j) = some u := by
  intro j u hj
  have : j = 0 := by have := (List.getElem?_eq_some_iff.1 hj).1; simpa [cellsOf] using this
  subst this
  rw [add_zero', World.cell?_alloc_at _ _ _ _ rfl]
  simp only [cellsOf, List.map_cons, List.map_nil, List.getElem?_cons_zero, Option.some.injEq] at hj
  rw [← hj, ← byB_val z h0 h1]
  rfl

set_option maxRecDepth 100000 in
set_option maxHeartbeats 8000000 in
theorem sptext_any (v1 v2 : Value) (x : PkD) (ps : List RP) (hi : Nat) (w : World) (ht : totP x ps ≤ 1048576) (hv : PkSrc w hi v1 v2 x ps) (hhi : hi ≤ w.heap.size) :
    Calls Tryd.prog 6 #[pkV x v1 v2] w fun e w' => e = .returned (ptV x (fsts ps)) ∧ Below w.heap.size w w' := by
  have hin := hv.in.more hhi
  obtain ⟨⟨a1, c1, rfl⟩, ⟨a2, c2, rfl⟩⟩ := hin.shapes
  have BA : Below w.heap.size w (w.alloc (.cells #[.int .i64 x.kind, .int .i64 x.src, .int .i64 x.dst, .int .i64 x.area, .slice a1 x.heard.length c1, .slice a2 ps.length c2] 31)) := (Below.refl _ _).alloc (Nat.le_refl _) _
  have g0 := heap_alloc_new w (.cells #[.int .i64 x.kind, .int .i64 x.src, .int .i64 x.dst, .int .i64 x.area, .slice a1 x.heard.length c1, .slice a2 ps.length c2] 31)
  have HOK := hide (spacketOk_any _ _ x ps hi (w.alloc (.cells #[.int .i64 x.kind, .int .i64 x.src, .int .i64 x.dst, .int .i64 x.area, .slice a1 x.heard.length c1, .slice a2 ps.length c2] 31)) ht (hin.then BA) (hv.list.below BA hhi) (Nat.le_trans hhi BA.size))
  have HV := hide hv
  have G0 := hide g0
  have HFL := hide (show (fsts ps).length = ps.length by simp [fsts])
  clear hv hin g0
  obtain ⟨r, hr⟩ : ∃ r, r = pkB x (fsts ps) := ⟨_, rfl⟩
  rw [← hr] at HOK
  have HR := hide hr
  clear hr
  cases r
  · rw [pt_no HR.out.symm]
    go_enter Tryd.func6, Tryd.ntmps6
    go_wp2_with fail
    refine HOK.out.mono ?_
    rintro e w1 ⟨rfl, b1⟩
    go_wp2
    go_returns
    exact ⟨rfl, BA.trans (b1.mono BA.size)⟩
  rw [pt_yes HR.out.symm]
  have hbd := pk_bounds HR.out.symm
  have hlen := pkL_len hbd
  have HBD := hide hbd
  have hfew := hbd.few
  have hlst : ps.length ≤ 150 := by have := hbd.list; have := HFL.out; omega
  obtain ⟨PL, hPL⟩ : ∃ L, L = pkL x (fsts ps) := ⟨_, rfl⟩
  rw [← hPL] at hlen ⊢
  have HPL := hide hPL
  have k0 := hbd.kind
  have k1 := hbd.src
  have k2 := hbd.dst
  have k3 := hbd.area
  clear hbd hPL
  obtain ⟨L1, h1⟩ : ∃ l, l = [byB x.kind] ++ [byB x.src] := ⟨_, rfl⟩
  obtain ⟨L2, h2⟩ : ∃ l, l = L1 ++ [byB x.dst] := ⟨_, rfl⟩
  obtain ⟨L3, h3⟩ : ∃ l, l = L2 ++ [byB x.area] := ⟨_, rfl⟩
  obtain ⟨L4, h4⟩ : ∃ l, l = L3 ++ varL x.heard.length := ⟨_, rfl⟩
  have hv5 := varL_five (n := x.heard.length) (by omega)
  have n1 : L1.length = 2 := by rw [h1]; rfl
  have n2 : L2.length = 3 := by rw [h2, List.length_append, n1]; rfl
  have n3 : L3.length = 4 := by rw [h3, List.length_append, n2]; rfl
  have n4 : L4.length ≤ 9 := by rw [h4, List.length_append, n3]; omega
  have e1 := fun W => str_add (P := Tryd.prog) [byB x.kind] [byB x.src] W (by simp)
  have e2 := fun W => str_add (P := Tryd.prog) L1 [byB x.dst] W (by simp; omega)
  have e3 := fun W => str_add (P := Tryd.prog) L2 [byB x.area] W (by simp; omega)
  have e4 := fun W => str_add (P := Tryd.prog) L3 (varL x.heard.length) W (by omega)
  rw [← h1] at e1
  rw [← h2] at e2
  rw [← h3] at e3
  rw [← h4] at e4
  have HL4 := hide (show L4 = oneL x ++ varL x.heard.length by rw [h4, h3, h2, h1]; rfl)
  clear h1 h2 h3 h4 n1 n2 n3
  have HB := hide sbyte_any
  have HVN := hide var_nat
  go_enter Tryd.func6, Tryd.ntmps6
  go_wp2_with fail
  obtain ⟨w0, hw0⟩ : ∃ W, W = w.alloc (.cells #[.int .i64 x.kind, .int .i64 x.src, .int .i64 x.dst, .int .i64 x.area, .slice a1 x.heard.length c1, .slice a2 ps.length c2] 31) := ⟨_, rfl⟩
  rw [← hw0] at BA G0 HOK ⊢
  clear hw0
  refine HOK.out.mono ?_
  rintro e w1 ⟨rfl, b1⟩
  have B1 : Below w.heap.size w w1 := BA.trans (b1.mono BA.size)
  have g1 := (b1.block _ (lt_of_heap G0.out)).trans G0.out
  have hs1 := B1.size
  obtain ⟨bx, hbx⟩ : ∃ z, z = w.heap.size := ⟨_, rfl⟩
  rw [← hbx] at g1 ⊢
  have HBX := hide hbx
  have G1 := hide g1
  have hbl := lt_of_heap g1
  have s0 := cells_at g1 0
  have s1 := cells_at g1 1
  have s2 := cells_at g1 2
  have s3 := cells_at g1 3
  have s4 := cells_at g1 4
  simp at s0 s1 s2 s3 s4
  have hnd : Below w.heap.size w w1.drew := B1.drew
  have hbl0 : bx < w1.drew.heap.size := hbl
  clear b1 g1 G0 HOK hbx
  go_wp2
  refine wp_region_start (S := (fun W => W.cell? ⟨bx, 0, none⟩ = some (.int .i64 x.kind) ∧ W.cell? ⟨bx, 1, none⟩ = some (.int .i64 x.src) ∧ W.cell? ⟨bx, 2, none⟩ = some (.int .i64 x.dst) ∧ W.cell? ⟨bx, 3, none⟩ = some (.int .i64 x.area) ∧ W.cell? ⟨bx, 4, none⟩ = some (.slice a1 x.heard.length c1))) (by kernel_rfl) 22 rfl ⟨s0, s1, s2, s3, s4⟩ (fun ops hops hHeld => ?_)
  refine take_do 0 (oi := ?_) (v := ?_) ?_ (by rw [hops.out]; kernel_rfl) ?_ ?_ ?_ (by assumption) ?_
  rotate_left 2
  · rw [hops.out]; simp only [List.getElem?_toArray, List.getElem?_cons_succ, List.getElem?_cons_zero]; rfl
  · rw [hops.out]; kernel_rfl
  · intro W hW; (try dsimp only at hW); go_simp <;> with_reducible rfl
  · exact fun _ _ _ h => h
  try simp only [Act.put, List.setIfInBounds_toArray, List.set_cons_zero, List.set_cons_succ]
  refine take_do 1 (oi := ?_) (v := ?_) ?_ (by rw [hops.out]; kernel_rfl) ?_ ?_ ?_ (by assumption) ?_
  rotate_left 2
  · rw [hops.out]; simp only [List.getElem?_toArray, List.getElem?_cons_succ, List.getElem?_cons_zero]; rfl
  · rw [hops.out]; kernel_rfl
  · intro W hW; (try dsimp only at hW); go_simp <;> with_reducible rfl
  · exact fun _ _ _ h => h
  try simp only [Act.put, List.setIfInBounds_toArray, List.set_cons_zero, List.set_cons_succ]
  refine take_do 3 (oi := ?_) (v := ?_) ?_ (by rw [hops.out]; kernel_rfl) ?_ ?_ ?_ (by assumption) ?_
  rotate_left 2
  · rw [hops.out]; simp only [List.getElem?_toArray, List.getElem?_cons_succ, List.getElem?_cons_zero]; rfl
  · rw [hops.out]; kernel_rfl
  · intro W hW; (try dsimp only at hW); go_simp <;> with_reducible rfl
  · exact fun _ _ _ h => h
  try simp only [Act.put, List.setIfInBounds_toArray, List.set_cons_zero, List.set_cons_succ]
  refine take_do 4 (oi := ?_) (v := ?_) ?_ (by rw [hops.out]; kernel_rfl) ?_ ?_ ?_ (by assumption) ?_
  rotate_left 2
  · rw [hops.out]; simp only [List.getElem?_toArray, List.getElem?_cons_succ, List.getElem?_cons_zero]; rfl
  · rw [hops.out]; kernel_rfl
  · intro W hW; (try dsimp only at hW); go_simp <;> with_reducible rfl
  · exact fun _ _ _ h => h
  try simp only [Act.put, List.setIfInBounds_toArray, List.set_cons_zero, List.set_cons_succ]
  refine take_do 7 (oi := ?_) (v := ?_) ?_ (by rw [hops.out]; kernel_rfl) ?_ ?_ ?_ (by assumption) ?_
  rotate_left 2
  · rw [hops.out]; simp only [List.getElem?_toArray, List.getElem?_cons_succ, List.getElem?_cons_zero]; rfl
  · rw [hops.out]; kernel_rfl
  · intro W hW; (try dsimp only at hW); go_simp <;> with_reducible rfl
  · exact fun _ _ _ h => h
  try simp only [Act.put, List.setIfInBounds_toArray, List.set_cons_zero, List.set_cons_succ]
  refine take_do 8 (oi := ?_) (v := ?_) ?_ (by rw [hops.out]; kernel_rfl) ?_ ?_ ?_ (by assumption) ?_
  rotate_left 2
  · rw [hops.out]; simp only [List.getElem?_toArray, List.getElem?_cons_succ, List.getElem?_cons_zero]; rfl
  · rw [hops.out]; kernel_rfl
  · intro W hW; (try dsimp only at hW); go_simp <;> with_reducible rfl
  · exact fun _ _ _ h => h
  try simp only [Act.put, List.setIfInBounds_toArray, List.set_cons_zero, List.set_cons_succ]
  refine take_do 11 (oi := ?_) (v := ?_) ?_ (by rw [hops.out]; kernel_rfl) ?_ ?_ ?_ (by assumption) ?_
  rotate_left 2
  · rw [hops.out]; simp only [List.getElem?_toArray, List.getElem?_cons_succ, List.getElem?_cons_zero]; rfl
  · rw [hops.out]; kernel_rfl
  · intro W hW; (try dsimp only at hW); go_simp <;> with_reducible rfl
  · exact fun _ _ _ h => h
  try simp only [Act.put, List.setIfInBounds_toArray, List.set_cons_zero, List.set_cons_succ]
  refine take_do 12 (oi := ?_) (v := ?_) ?_ (by rw [hops.out]; kernel_rfl) ?_ ?_ ?_ (by assumption) ?_
  rotate_left 2
  · rw [hops.out]; simp only [List.getElem?_toArray, List.getElem?_cons_succ, List.getElem?_cons_zero]; rfl
  · rw [hops.out]; kernel_rfl
  · intro W hW; (try dsimp only at hW); go_simp <;> with_reducible rfl
  · exact fun _ _ _ h => h
  try simp only [Act.put, List.setIfInBounds_toArray, List.set_cons_zero, List.set_cons_succ]
  refine take_do 15 (oi := ?_) (v := ?_) ?_ (by rw [hops.out]; kernel_rfl) ?_ ?_ ?_ (by assumption) ?_
  rotate_left 2
  · rw [hops.out]; simp only [List.getElem?_toArray, List.getElem?_cons_succ, List.getElem?_cons_zero]; rfl
  · rw [hops.out]; kernel_rfl
  · intro W hW; (try dsimp only at hW); go_simp <;> with_reducible rfl
  · exact fun _ _ _ h => h
  try simp only [Act.put, List.setIfInBounds_toArray, List.set_cons_zero, List.set_cons_succ]
  refine take_do 16 (oi := ?_) (v := ?_) ?_ (by rw [hops.out]; kernel_rfl) ?_ ?_ ?_ (by assumption) ?_
  rotate_left 2
  · rw [hops.out]; simp only [List.getElem?_toArray, List.getElem?_cons_succ, List.getElem?_cons_zero]; rfl
  · rw [hops.out]; kernel_rfl
  · intro W hW; (try dsimp only at hW); go_simp <;> with_reducible rfl
  · exact fun _ _ _ h => h
  try simp only [Act.put, List.setIfInBounds_toArray, List.set_cons_zero, List.set_cons_succ]
  refine take_do 17 (oi := ?_) (v := ?_) ?_ (by rw [hops.out]; kernel_rfl) ?_ ?_ ?_ (by assumption) ?_
  rotate_left 2
  · rw [hops.out]; simp only [List.getElem?_toArray, List.getElem?_cons_succ, List.getElem?_cons_zero]; rfl
  · rw [hops.out]; kernel_rfl
  · intro W hW; (try dsimp only at hW); go_simp <;> with_reducible rfl
  · exact fun _ _ _ h => h
  try simp only [Act.put, List.setIfInBounds_toArray, List.set_cons_zero, List.set_cons_succ]
  refine take_call 2 (oi := ?_) ?_ (by rw [hops.out]; kernel_rfl) ?_ ?_
  rotate_left 1
  · rw [hops.out]; simp only [List.getElem?_toArray, List.getElem?_cons_succ, List.getElem?_cons_zero]; rfl
  · rw [hops.out]; kernel_rfl
  intro K hK
  go_simp
  refine (HB.out _ _ (by omega) (by omega)).mono ?_
  rintro e y1 ⟨rfl, b1⟩
  have hS1 : _ ∧ _ := (show ((fun W => W.cell? ⟨bx, 0, none⟩ = some (.int .i64 x.kind) ∧ W.cell? ⟨bx, 1, none⟩ = some (.int .i64 x.src) ∧ W.cell? ⟨bx, 2, none⟩ = some (.int .i64 x.dst) ∧ W.cell? ⟨bx, 3, none⟩ = some (.int .i64 x.area) ∧ W.cell? ⟨bx, 4, none⟩ = some (.slice a1 x.heard.length c1))) y1 from by
    obtain ⟨m0, m1, m2, m3, m4⟩ := hHeld
    refine ⟨?_, ?_, ?_, ?_, ?_⟩ <;> (refine (b1.cell ?_).trans ?_ <;> assumption))
  have hbl1 : bx < y1.heap.size := Nat.lt_of_lt_of_le (by assumption) b1.size
  refine hK.out _ _ hS1 (fun hHeld => ?_)
  clear hK K hS1
  try simp only [Act.put, List.setIfInBounds_toArray, List.set_cons_zero, List.set_cons_succ]
  refine take_call 5 (oi := ?_) ?_ (by rw [hops.out]; kernel_rfl) ?_ ?_
  rotate_left 1
  · rw [hops.out]; simp only [List.getElem?_toArray, List.getElem?_cons_succ, List.getElem?_cons_zero]; rfl
  · rw [hops.out]; kernel_rfl
  intro K hK
  go_simp
  refine (HB.out _ _ (by omega) (by omega)).mono ?_
  rintro e y2 ⟨rfl, b2⟩
  have hS2 : _ ∧ _ := (show ((fun W => W.cell? ⟨bx, 0, none⟩ = some (.int .i64 x.kind) ∧ W.cell? ⟨bx, 1, none⟩ = some (.int .i64 x.src) ∧ W.cell? ⟨bx, 2, none⟩ = some (.int .i64 x.dst) ∧ W.cell? ⟨bx, 3, none⟩ = some (.int .i64 x.area) ∧ W.cell? ⟨bx, 4, none⟩ = some (.slice a1 x.heard.length c1))) y2 from by
    obtain ⟨m0, m1, m2, m3, m4⟩ := hHeld
    refine ⟨?_, ?_, ?_, ?_, ?_⟩ <;> (refine (b2.cell ?_).trans ?_ <;> assumption))
  have hbl2 : bx < y2.heap.size := Nat.lt_of_lt_of_le (by assumption) b2.size
  refine hK.out _ _ hS2 (fun hHeld => ?_)
  clear hK K hS2
  try simp only [Act.put, List.setIfInBounds_toArray, List.set_cons_zero, List.set_cons_succ]
  refine take_do 6 (oi := ?_) (v := ?_) ?_ (by rw [hops.out]; kernel_rfl) ?_ ?_ ?_ (by assumption) ?_
  rotate_left 2
  · rw [hops.out]; simp only [List.getElem?_toArray, List.getElem?_cons_succ, List.getElem?_cons_zero]; rfl
  · rw [hops.out]; kernel_rfl
  · intro W hW; (try dsimp only at hW); go_simp <;> with_reducible rfl
  · exact fun _ _ _ h => h
  try simp only [Act.put, List.setIfInBounds_toArray, List.set_cons_zero, List.set_cons_succ]
  refine take_call 9 (oi := ?_) ?_ (by rw [hops.out]; kernel_rfl) ?_ ?_
  rotate_left 1
  · rw [hops.out]; simp only [List.getElem?_toArray, List.getElem?_cons_succ, List.getElem?_cons_zero]; rfl
  · rw [hops.out]; kernel_rfl
  intro K hK
  go_simp
  refine (HB.out _ _ (by omega) (by omega)).mono ?_
  rintro e y3 ⟨rfl, b3⟩
  have hS3 : _ ∧ _ := (show ((fun W => W.cell? ⟨bx, 0, none⟩ = some (.int .i64 x.kind) ∧ W.cell? ⟨bx, 1, none⟩ = some (.int .i64 x.src) ∧ W.cell? ⟨bx, 2, none⟩ = some (.int .i64 x.dst) ∧ W.cell? ⟨bx, 3, none⟩ = some (.int .i64 x.area) ∧ W.cell? ⟨bx, 4, none⟩ = some (.slice a1 x.heard.length c1))) y3 from by
    obtain ⟨m0, m1, m2, m3, m4⟩ := hHeld
    refine ⟨?_, ?_, ?_, ?_, ?_⟩ <;> (refine (b3.cell ?_).trans ?_ <;> assumption))
  have hbl3 : bx < y3.heap.size := Nat.lt_of_lt_of_le (by assumption) b3.size
  refine hK.out _ _ hS3 (fun hHeld => ?_)
  clear hK K hS3
  try simp only [Act.put, List.setIfInBounds_toArray, List.set_cons_zero, List.set_cons_succ]
  refine take_do 10 (oi := ?_) (v := ?_) ?_ (by rw [hops.out]; kernel_rfl) ?_ ?_ ?_ (by assumption) ?_
  rotate_left 2
  · rw [hops.out]; simp only [List.getElem?_toArray, List.getElem?_cons_succ, List.getElem?_cons_zero]; rfl
  · rw [hops.out]; kernel_rfl
  · intro W hW; (try dsimp only at hW); go_simp <;> with_reducible rfl
  · exact fun _ _ _ h => h
  try simp only [Act.put, List.setIfInBounds_toArray, List.set_cons_zero, List.set_cons_succ]
  refine take_call 13 (oi := ?_) ?_ (by rw [hops.out]; kernel_rfl) ?_ ?_
  rotate_left 1
  · rw [hops.out]; simp only [List.getElem?_toArray, List.getElem?_cons_succ, List.getElem?_cons_zero]; rfl
  · rw [hops.out]; kernel_rfl
  intro K hK
  go_simp
  refine (HB.out _ _ (by omega) (by omega)).mono ?_
  rintro e y4 ⟨rfl, b4⟩
  have hS4 : _ ∧ _ := (show ((fun W => W.cell? ⟨bx, 0, none⟩ = some (.int .i64 x.kind) ∧ W.cell? ⟨bx, 1, none⟩ = some (.int .i64 x.src) ∧ W.cell? ⟨bx, 2, none⟩ = some (.int .i64 x.dst) ∧ W.cell? ⟨bx, 3, none⟩ = some (.int .i64 x.area) ∧ W.cell? ⟨bx, 4, none⟩ = some (.slice a1 x.heard.length c1))) y4 from by
    obtain ⟨m0, m1, m2, m3, m4⟩ := hHeld
    refine ⟨?_, ?_, ?_, ?_, ?_⟩ <;> (refine (b4.cell ?_).trans ?_ <;> assumption))
  have hbl4 : bx < y4.heap.size := Nat.lt_of_lt_of_le (by assumption) b4.size
  refine hK.out _ _ hS4 (fun hHeld => ?_)
  clear hK K hS4
  try simp only [Act.put, List.setIfInBounds_toArray, List.set_cons_zero, List.set_cons_succ]
  refine take_do 14 (oi := ?_) (v := ?_) ?_ (by rw [hops.out]; kernel_rfl) ?_ ?_ ?_ (by assumption) ?_
  rotate_left 2
  · rw [hops.out]; simp only [List.getElem?_toArray, List.getElem?_cons_succ, List.getElem?_cons_zero]; rfl
  · rw [hops.out]; kernel_rfl
  · intro W hW; (try dsimp only at hW); go_simp <;> with_reducible rfl
  · exact fun _ _ _ h => h
  try simp only [Act.put, List.setIfInBounds_toArray, List.set_cons_zero, List.set_cons_succ]
  refine take_call 18 (oi := ?_) ?_ (by rw [hops.out]; kernel_rfl) ?_ ?_
  rotate_left 1
  · rw [hops.out]; simp only [List.getElem?_toArray, List.getElem?_cons_succ, List.getElem?_cons_zero]; rfl
  · rw [hops.out]; kernel_rfl
  intro K hK
  go_simp
  refine (HVN.out _ _ (by omega)).mono ?_
  rintro e y5 ⟨rfl, b5⟩
  have hS5 : _ ∧ _ := (show ((fun W => W.cell? ⟨bx, 0, none⟩ = some (.int .i64 x.kind) ∧ W.cell? ⟨bx, 1, none⟩ = some (.int .i64 x.src) ∧ W.cell? ⟨bx, 2, none⟩ = some (.int .i64 x.dst) ∧ W.cell? ⟨bx, 3, none⟩ = some (.int .i64 x.area) ∧ W.cell? ⟨bx, 4, none⟩ = some (.slice a1 x.heard.length c1))) y5 from by
    obtain ⟨m0, m1, m2, m3, m4⟩ := hHeld
    refine ⟨?_, ?_, ?_, ?_, ?_⟩ <;> (refine (b5.cell ?_).trans ?_ <;> assumption))
  have hbl5 : bx < y5.heap.size := Nat.lt_of_lt_of_le (by assumption) b5.size
  refine hK.out _ _ hS5 (fun hHeld => ?_)
  clear hK K hS5
  try simp only [Act.put, List.setIfInBounds_toArray, List.set_cons_zero, List.set_cons_succ]
  refine take_do 19 (oi := ?_) (v := ?_) ?_ (by rw [hops.out]; kernel_rfl) ?_ ?_ ?_ (by assumption) ?_
  rotate_left 2
  · rw [hops.out]; simp only [List.getElem?_toArray, List.getElem?_cons_succ, List.getElem?_cons_zero]; rfl
  · rw [hops.out]; kernel_rfl
  · intro W hW; (try dsimp only at hW); go_simp <;> with_reducible rfl
  · exact fun _ _ _ h => h
  try simp only [Act.put, List.setIfInBounds_toArray, List.set_cons_zero, List.set_cons_succ]
  have B5 : Below w.heap.size w y5 := ((((hnd.trans (b1.mono hnd.size)).trans (b2.mono (Nat.le_trans hnd.size b1.size))).trans (b3.mono (Nat.le_trans (Nat.le_trans hnd.size b1.size) b2.size))).trans (b4.mono (Nat.le_trans (Nat.le_trans (Nat.le_trans hnd.size b1.size) b2.size) b3.size))).trans (b5.mono (Nat.le_trans (Nat.le_trans (Nat.le_trans (Nat.le_trans hnd.size b1.size) b2.size) b3.size) b4.size))
  have BB5 : Below w1.heap.size w1 y5 := (((((Below.refl w1.heap.size w1).drew.trans (b1.mono (Nat.le_refl _))).trans (b2.mono b1.size)).trans (b3.mono (Nat.le_trans b1.size b2.size))).trans (b4.mono (Nat.le_trans (Nat.le_trans b1.size b2.size) b3.size))).trans (b5.mono (Nat.le_trans (Nat.le_trans (Nat.le_trans b1.size b2.size) b3.size) b4.size))
  obtain ⟨C, y6, hcv, rx, b6⟩ := row_text (bs L4) y5 (by rw [bs_size]; omega)
  refine wpAnyH_ready (rs := [20]) (by rw [hops.out]; kernel_rfl) (by simp) ?_
  refine AllReadyH.cons (o := ?_) ?_ (fun K hK => ?_) ?_
  rotate_left 1
  · rw [hops.out]; simp only [List.getElem?_toArray, List.getElem?_cons_succ, List.getElem?_cons_zero]; rfl
  · rw [if_pos (by rfl)]
    go_simp
    have hS6 : _ ∧ _ := (show ((fun W => W.cell? ⟨bx, 0, none⟩ = some (.int .i64 x.kind) ∧ W.cell? ⟨bx, 1, none⟩ = some (.int .i64 x.src) ∧ W.cell? ⟨bx, 2, none⟩ = some (.int .i64 x.dst) ∧ W.cell? ⟨bx, 3, none⟩ = some (.int .i64 x.area) ∧ W.cell? ⟨bx, 4, none⟩ = some (.slice a1 x.heard.length c1))) y6 from by
      obtain ⟨m0, m1, m2, m3, m4⟩ := hHeld
      refine ⟨?_, ?_, ?_, ?_, ?_⟩ <;> (refine (b6.cell ?_).trans ?_ <;> assumption))
    refine hK.out _ _ hS6 (fun hHeld => ?_)
    clear hK K hS6
    try simp only [Act.put, List.setIfInBounds_toArray, List.set_cons_zero, List.set_cons_succ]
    refine take_do 21 (oi := ?_) (v := ?_) ?_ (by rw [hops.out]; kernel_rfl) ?_ ?_ ?_ (by assumption) ?_
    rotate_left 2
    · rw [hops.out]; simp only [List.getElem?_toArray, List.getElem?_cons_succ, List.getElem?_cons_zero]; rfl
    · rw [hops.out]; kernel_rfl
    · intro W hW; (try dsimp only at hW); go_simp <;> with_reducible rfl
    · exact fun _ _ _ h => h
    try simp only [Act.put, List.setIfInBounds_toArray, List.set_cons_zero, List.set_cons_succ]
    refine wpAnyH_done (by rw [hops.out]; kernel_rfl) ?_ _
    clear hops ops
    clear e1 e2 e3 e4 hHeld s0 s1 s2 s3 s4 hcv
    have B6 : Below w.heap.size w y6 := B5.trans (b6.mono B5.size)
    have BB6 : Below w1.heap.size w1 y6 := BB5.trans (b6.mono BB5.size)
    have G6 := hide ((BB6.block _ hbl).trans G1.out)
    have RX6 := hide (show RowX y6 w1.heap.size (.slice (some ⟨y5.heap.size, 0, none⟩) (bs L4).size C) L4 from rx.low BB5.size)
    obtain ⟨B, hB⟩ : ∃ B, B = w1.heap.size := ⟨_, rfl⟩
    have HBB := hide hB
    rw [← hB] at RX6 BB6 hbl
    obtain ⟨V6, hV6⟩ : ∃ V, V = Value.slice (some ⟨y5.heap.size, 0, none⟩) (bs L4).size C := ⟨_, rfl⟩
    rw [← hV6] at RX6 ⊢
    clear hB hV6 b1 b2 b3 b4 b5 b6 hbl1 hbl2 hbl3 hbl4 hbl5 rx B5 BB5 hnd hbl0
    go_wp2
    go_loopw [4, 5] (fun o i wr => ∃ (k : Nat) (l : List UInt8), k ≤ x.heard.length ∧ i = .int .i64 k ∧ RowX wr B o l ∧ Hid (l = L4 ++ (x.heard.take k).map byB) ∧ Below B w1 wr) (fun _ i _ => x.heard.length - (intOf i).toNat)
    case atStart => exact ⟨0, L4, by omega, rfl, RX6.out, hide (by simp), BB6⟩
    case round =>
      clear RX6 BB6 G6 B6
      obtain ⟨k, l, hk, rfl, hrx, hle, hbn⟩ := hrel
      obtain ⟨g, gc, rfl⟩ := hrx.shape
      have hll : l.length ≤ 20 := by rw [hle.out]; simp; omega
      have gr := (hbn.block _ hbl).trans G1.out
      have s4 := cells_at gr 4
      have s5 := cells_at gr 5
      simp at s4 s5
      clear gr
      have hsz := hbn.size
      have hBs : B ≤ wr.heap.size := by have := HBB.out; omega
      have BW : Below w.heap.size w wr := B1.trans (hbn.mono (by have := HBB.out; omega))
      by_cases hlt : k < x.heard.length
      · obtain ⟨z, hz⟩ : ∃ z, x.heard[k]? = some z := ⟨x.heard[k], List.getElem?_eq_getElem hlt⟩
        obtain ⟨b, off, cap', hve, hbb, d0⟩ := HopsAt.cell ((HV.out.below BW hhi).in.heard) k z hz
        cases hve
        have hzz := HBD.out.heard z (List.mem_of_getElem? hz)
        have hu8 : IntKind.u8.wrap z = z := by rw [IntKind.wrap_u8]; omega
        have HLE := hide (show l ++ [byB z] = L4 ++ (x.heard.take (k + 1)).map byB by
          obtain ⟨hk2, e2⟩ := List.getElem?_eq_some_iff.1 hz
          rw [hle.out, List.take_succ_eq_append_getElem hk2, List.map_append, e2, List.append_assoc]
          rfl)
        have RX := hide hrx
        have hki : (0 : Int) ≤ (k : Int) := by omega
        have hkj : (k : Int) < (x.heard.length : Int) := by omega
        clear hrx hz hle
        go_wp2_with (first
          | (at_builtin; refine wpList_append_X _ rfl _ _ 42 rfl B Tryd.underlying42 Tryd.infoByte _ l [byB z] rfl (RX.out.keep (fun j _ h => Below.heap_alloc _ _ j h)) ⟨wr.heap.size, 0, none⟩ 1 1 rfl rfl (one_cell_news wr z (by omega) (by omega)) (by simp; omega) (by simp; omega) ?_))
        intro v' w7 l' hl' hrx7 hgr
        obtain ⟨g7, c7, rfl⟩ := hrx7.shape
        have RX7 := hide hrx7
        have BN7 := hide ((hbn.alloc (by omega) _).grown hgr (by simp; omega) (fun j hj => RX.out.lt j hj))
        clear hrx7 hgr
        go_wp2
        go_roundw
        case rel => exact ⟨k + 1, l', by omega, by go_num, RX7.out, hide (by rw [hl'.out]; exact HLE.out), BN7.out⟩
        case measure => simp [intOf]; omega
      · have hkn : k = x.heard.length := by omega
        have hL5 : l = oneL x ++ varL x.heard.length ++ x.heard.map byB := by rw [hle.out, HL4.out, hkn, List.take_length]
        have HL5 := hide hL5
        have RX := hide hrx
        have HVL := hide (HVN.out ps.length wr (by omega))
        have hvp := varL_five (n := ps.length) (by omega)
        clear hkn hL5 hrx hle
        go_wp2_with fail
        refine HVL.out.mono ?_
        rintro e w7 ⟨rfl, b7⟩
        obtain ⟨C7, w8, hcv, rx8, b8⟩ := row_text (bs (varL ps.length)) w7 (by rw [bs_size]; omega)
        obtain ⟨g8, gc8, hv8, _, _, hc8⟩ := rx8.cells
        have e8 : g8 = w7.heap.size := by cases hv8; rfl
        rw [e8] at hc8
        have hs7 := b7.size
        have hs8 := b8.size
        have RX8 := hide (RX.out.keep (w' := w8) (fun j _ h => (b8.block j (by omega)).trans (b7.block j h)))
        have BN8 : Below B w1 w8 := (hbn.trans (b7.mono (by omega))).trans (b8.mono (by omega))
        have HC8 := hide hc8
        have hsn : (bs (varL ps.length)).size = (varL ps.length).length := bs_size _
        have HSN := hide hsn
        clear hsn hv8 e8 hc8 rx8 s4 s5
        go_wp2_with (first
          | (at_builtin; refine wpList_append_X _ rfl _ _ 42 rfl B Tryd.underlying42 Tryd.infoByte _ l (varL ps.length) rfl RX8.out ⟨w7.heap.size, 0, none⟩ _ _ HSN.out rfl HC8.out (by omega) (by omega) ?_))
        intro v' w9 l' hl' hrx9 hgr
        obtain ⟨g9, c9, rfl⟩ := hrx9.shape
        have RX9 := hide hrx9
        have BN9 := hide (BN8.grown hgr (by omega) (fun j hj => RX8.out.lt j hj))
        have HL9 := hide (show l' = oneL x ++ varL x.heard.length ++ x.heard.map byB ++ varL ps.length by rw [hl'.out, HL5.out])
        have hl9 : l'.length ≤ 30 := by rw [hl'.out, List.length_append]; omega
        clear hrx9 hgr hcv b7 b8 BN8 RX8 RX hbn BW hl' HVL
        go_wp2
        go_loopw [4, 6] (fun o i wr => ∃ (k : Nat) (l : List UInt8), k ≤ ps.length ∧ i = .int .i64 k ∧ RowX wr B o l ∧ Hid (l = l' ++ shortsL ((fsts ps).take k)) ∧ Below B w1 wr) (fun _ i _ => ps.length - (intOf i).toNat)
        case atStart => exact ⟨0, l', by omega, rfl, RX9.out, hide (by simp [shortsL]), BN9.out⟩
        case round =>
          rename World => wt
          clear RX9 BN9
          obtain ⟨k, m, hk, rfl, hrx, hle, hbn⟩ := hrel
          obtain ⟨g, gc, rfl⟩ := hrx.shape
          have hmm : m.length ≤ 20000 := by
            have h1 := shortsL_len (xs := (fsts ps).take k) (fun r hr => HBD.out.recs r (List.mem_of_mem_take hr))
            have h2 : ((fsts ps).take k).length ≤ k := by simp; omega
            rw [hle.out]
            simp only [List.length_append]
            omega
          have gr := (hbn.block _ hbl).trans G1.out
          have s5 := cells_at gr 5
          simp at s5
          clear gr
          have hsz := hbn.size
          have hBs : B ≤ wt.heap.size := by have := HBB.out; omega
          have BW : Below w.heap.size w wt := B1.trans (hbn.mono (by have := HBB.out; omega))
          by_cases hlt : k < ps.length
          · obtain ⟨p, hp⟩ : ∃ p, ps[k]? = some p := ⟨ps[k], List.getElem?_eq_getElem hlt⟩
            have hpi := ((HV.out.below BW hhi).in.more (Nat.le_trans hhi BW.size)).list
            obtain ⟨b, off, cap', hve, hgb, d0, d1, d2, d3, d4, d5, d6, d7, hnr⟩ := hpi.cells k p hp
            cases hve
            obtain ⟨pa, pc, hpn⟩ := NearsAt.shape hnr
            rw [hpn] at d5 hnr
            have hpr := HBD.out.recs p.1 (List.mem_map_of_mem (List.mem_of_getElem? hp))
            have h60 := recL_len hpr
            have h65 := shortL_len hpr
            have HTX := stext_any _ p.1 wt (by have := recOk_near hpr; omega) hnr
            rw [show textV p.1 = .tuple #[.string (bs (recL p.1)), .bool true] by unfold textV; rw [if_pos hpr]] at HTX
            unfold recC at HTX
            have HT := hide HTX
            have HLE := hide (show m ++ shortL p.1 = l' ++ shortsL ((fsts ps).take (k + 1)) by rw [hle.out, shortsL_succ (fsts_at hp), List.append_assoc])
            have RX := hide hrx
            have HSH := hide (sshort_any (bs (recL p.1)))
            have hki : (0 : Int) ≤ (k : Int) := by omega
            have hkj : (k : Int) < (ps.length : Int) := by omega
            clear HTX hnr hpn hp hpr hrx hle hpi
            go_wp2_with fail
            refine HT.out.mono ?_
            rintro e w7 ⟨rfl, b7⟩
            clear d0 d1 d2 d3 d4 d5 d6 d7 s5
            go_wp2_with fail
            refine (HSH.out _ (by rw [bs_size]; omega)).mono ?_
            rintro e w8 ⟨rfl, b8⟩
            rw [show bs (varL (bs (recL p.1)).size) ++ bs (recL p.1) = bs (shortL p.1) by rw [bs_add, bs_size]; rfl]
            obtain ⟨C7, w9, hcv, rx9, b9⟩ := row_text (bs (shortL p.1)) w8 (by rw [bs_size]; omega)
            obtain ⟨g8, gc8, hv8, _, _, hc8⟩ := rx9.cells
            have e8 : g8 = w8.heap.size := by cases hv8; rfl
            rw [e8] at hc8
            have hs7 := b7.size
            have hs8 := b8.size
            have hs9 := b9.size
            have RX9 := hide (RX.out.keep (w' := w9) (fun j _ h => (b9.block j (by omega)).trans ((b8.block j (by omega)).trans (b7.block j h))))
            have BN9 : Below B w1 w9 := ((hbn.trans (b7.mono (by omega))).trans (b8.mono (by omega))).trans (b9.mono (by omega))
            have HC8 := hide (show ∀ j u, (cellsOf (shortL p.1))[j]? = some u → w9.cell? ((⟨w8.heap.size, 0, none⟩ : Addr).add j) = some u from hc8)
            have HSN := hide (show (bs (shortL p.1)).size = (shortL p.1).length from bs_size _)
            clear hv8 e8 hc8 rx9
            go_wp2_with (first
              | (at_builtin; refine wpList_append_X _ rfl _ _ 42 rfl B Tryd.underlying42 Tryd.infoByte _ m (shortL p.1) rfl RX9.out ⟨w8.heap.size, 0, none⟩ _ _ HSN.out rfl HC8.out (by omega) (by omega) ?_))
            intro v' wa m' hm' hrxa hgr
            obtain ⟨ga, ca, rfl⟩ := hrxa.shape
            have RXA := hide hrxa
            have BNA := hide (BN9.grown hgr (by omega) (fun j hj => RX9.out.lt j hj))
            clear hrxa hgr hcv b7 b8 b9 BN9 RX9 RX hbn BW
            go_wp2
            go_roundw
            case rel => exact ⟨k + 1, m', by omega, by go_num, RXA.out, hide (by rw [hm'.out]; exact HLE.out), BNA.out⟩
            case measure => simp [intOf]; omega
          · have hkn : k = ps.length := by omega
            have hPL2 : m = PL := by
              rw [hle.out, HL9.out, HPL.out, hkn, List.take_of_length_le (by have := HFL.out; omega)]
              unfold pkL
              rw [HFL.out]
            subst hPL2
            have hst := run_str_X hrx
            have HSE := sse_any (bs m) wt (by rw [bs_size]; omega)
            rw [se_short (by rw [bs_size]; omega)] at HSE
            have HSS := hide HSE
            have hnlong : ¬ (20000 : Int) < (m.length : Int) + 4 := by omega
            have hww : IntKind.i64.wrap ((m.length : Int) + 4) = (m.length : Int) + 4 := wrap_fit _ (by omega) (by omega)
            obtain ⟨TX, hTX⟩ : ∃ T, T = bs m ++ bs (fourL (sumS (bs m))) := ⟨_, rfl⟩
            rw [← hTX] at HSS
            have HTX := hide hTX
            clear hTX HSE hkn hle
            go_wp2_with fail
            refine HSS.out.mono ?_
            rintro e w9 ⟨rfl, b9⟩
            have BF := hide (BW.trans (b9.mono BW.size))
            clear b9
            go_wp2
            go_returns
            exact ⟨by rw [HTX.out]; rfl, BF.out⟩
  exact AllReadyH.nil
end Go.Proofs.YtnfockhbcneegaaDoor
namespace Go.Proofs.YtnfockhbcneegaaDoor
open Go.RowKit

def totD (xs : List RecD) : Nat := (xs.map (fun x => 1 + x.near.length)).sum

theorem tot_D (ps : List RP) : tot ps = totD (fsts ps) := by simp [tot, totD, fsts, List.map_map, Function.comp_def]

theorem tot_eq {ps qs : List RP} (h : fsts ps = fsts qs) : tot ps = tot qs := by rw [tot_D, tot_D, h]

end Go.Proofs.YtnfockhbcneegaaDoor
namespace Go.Proofs.YtnfockhbcneegaaDoor
open Go.RowKit

theorem steps_of2 {W : World} (h : laidMetH Tryd.prog Rows.fnExactPacketTextRow.laid W) : Steps W := by
  rw [MakeChecks.laidMetH_plain _ _ _ (by kernel_rfl)] at h
  have h2 : laidMet Tryd.prog [("loop.example/g00177/impl.sumSteps", Lib.tabData .u32 stepTab)] W := laidMet.tail h
  exact Lib.tabIs_of_head gSteps (t := 155) (by kernel_rfl) Tryd.underlying155 Tryd.underlying84 (by kernel_rfl) (by kernel_rfl) h2

theorem pt_two (x : PkD) (xs : List RecD) : ∃ (t : ByteArray) (c : Bool), ptV x xs = .tuple #[.string t, .bool c] := by
  unfold ptV
  split <;> exact ⟨_, _, rfl⟩

theorem pt_same {x : PkD} {ps qs : List RP} (h : fsts qs = fsts ps) : ptV x (fsts qs) = ptV x (fsts ps) := by rw [h]

theorem totP_same {x : PkD} {ps qs : List RP} (h : fsts qs = fsts ps) : totP x qs = totP x ps := by unfold totP; rw [tot_eq h]

set_option maxRecDepth 100000 in
set_option maxHeartbeats 8000000 in
theorem fnExactPacketText_walk (v : Value) (x : PkD) (ps : List RP) (w : World) (hx : PkAt w v x ps w.heap.size ∧ PkLen x ps) (hL : laidMetH Tryd.prog Rows.fnExactPacketTextRow.laid w) :
    Calls Tryd.prog 3 #[v] w fun e w' => e = .returned (.bool true) ∧ Below w.heap.size w w' := by
  have HTS0 := hide (steps_of2 hL)
  clear hL
  obtain ⟨TS, TB, hTT⟩ := pt_two x (fsts ps)
  have HTT := hide hTT
  clear hTT
  obtain ⟨hx, hlen⟩ := hx
  obtain ⟨v1, v2, rfl, hi⟩ := hx.in
  obtain ⟨⟨a1, a1c, rfl⟩, ⟨a2, a2c, rfl⟩⟩ := hi.shapes
  have HX := hide hi
  have HL := hide hlen
  clear hx hi hlen
  have BA : Below w.heap.size w (w.alloc (.cells #[.int .i64 x.kind, .int .i64 x.src, .int .i64 x.dst, .int .i64 x.area, .slice a1 x.heard.length a1c, .slice a2 ps.length a2c] 25)) := (Below.refl _ _).alloc (Nat.le_refl _) _
  have g0 := heap_alloc_new w (.cells #[.int .i64 x.kind, .int .i64 x.src, .int .i64 x.dst, .int .i64 x.area, .slice a1 x.heard.length a1c, .slice a2 ps.length a2c] 25)
  have HSZ := hide (szPacket_any _ _ x ps 1048576 (w.alloc (.cells #[.int .i64 x.kind, .int .i64 x.src, .int .i64 x.dst, .int .i64 x.area, .slice a1 x.heard.length a1c, .slice a2 ps.length a2c] 25)) HL.out (by omega) (by omega) (HX.out.then BA))
  have G0 := hide g0
  clear g0
  go_enter Tryd.func3, Tryd.ntmps3
  go_wp2_with fail
  obtain ⟨w0, hw0⟩ : ∃ W, W = w.alloc (.cells #[.int .i64 x.kind, .int .i64 x.src, .int .i64 x.dst, .int .i64 x.area, .slice a1 x.heard.length a1c, .slice a2 ps.length a2c] 25) := ⟨_, rfl⟩
  rw [← hw0] at BA G0 HSZ ⊢
  clear hw0
  refine HSZ.out.mono ?_
  rintro e w1 ⟨r, rfl, hr, b1⟩
  have g1 := (b1.block _ (lt_of_heap G0.out)).trans G0.out
  have B1 : Below w.heap.size w w1 := BA.trans (b1.mono BA.size)
  clear b1 BA G0 HSZ
  rcases hr with hr | ⟨hr0, hr⟩
  · go_wp2
    go_ret
    exact ⟨rfl, B1⟩
  have hr1 : ¬ r < 0 := by omega
  have HT := hide (show totP x ps ≤ 1048576 by omega)
  clear hr hr0
  have G1 := hide g1
  have s0 := cells_at g1 0
  have s1 := cells_at g1 1
  have s2 := cells_at g1 2
  have s3 := cells_at g1 3
  have s4 := cells_at g1 4
  have s5 := cells_at g1 5
  simp at s0 s1 s2 s3 s4 s5
  clear g1
  have HTS := hide (fun W (hb : Below w.heap.size w W) => toPacket_any _ _ x ps W HT.out (HX.out.then hb))
  go_wp2_with fail
  refine (HTS.out _ B1).mono ?_
  rintro e w2 ⟨u1, u2, qs0, m, rfl, fq0, o2, b2⟩
  have B2 : Below w.heap.size w w2 := B1.trans (b2.mono B1.size)
  have G2 := hide ((b2.block _ (lt_of_heap G1.out)).trans G1.out)
  have HSP := hide (sptext_any _ _ x qs0 w2.heap.size w2 (by rw [totP_same fq0]; exact HT.out) o2.src (Nat.le_refl _))
  rw [pt_same fq0, HTT.out] at HSP
  clear b2 o2 fq0 s0 s1 s2 s3 s4 s5 G1 B1
  go_wp2_with fail
  refine HSP.out.mono ?_
  rintro e w3 ⟨rfl, b3⟩
  have B3 : Below w.heap.size w w3 := B2.trans (b3.mono B2.size)
  have g3 := (b3.block _ (lt_of_heap G2.out)).trans G2.out
  have G3 := hide g3
  have s0 := cells_at g3 0
  have s1 := cells_at g3 1
  have s2 := cells_at g3 2
  have s3 := cells_at g3 3
  have s4 := cells_at g3 4
  have s5 := cells_at g3 5
  simp at s0 s1 s2 s3 s4 s5
  clear g3 b3 HSP G2 B2
  go_wp2_with fail
  refine (HTS.out _ B3).mono ?_
  rintro e w4 ⟨y1, y2, qs, m, rfl, fq, o4, b4⟩
  obtain ⟨⟨y1, y1c, rfl⟩, ⟨y2, y2c, rfl⟩⟩ := o4.in.shapes
  have B4 : Below w.heap.size w w4 := B3.trans (b4.mono B3.size)
  have g4 := (b4.block _ (lt_of_heap G3.out)).trans G3.out
  have BN : Below w4.heap.size w4 (w4.alloc (.cells #[.int .i64 x.kind, .int .i64 x.src, .int .i64 x.dst, .int .i64 x.area, .slice y1 x.heard.length y1c, .slice y2 qs.length y2c] 31)) := (Below.refl _ _).alloc (Nat.le_refl _) _
  have hnew := heap_alloc_new w4 (.cells #[.int .i64 x.kind, .int .i64 x.src, .int .i64 x.dst, .int .i64 x.area, .slice y1 x.heard.length y1c, .slice y2 qs.length y2c] 31)
  have hold := (BN.block _ (lt_of_heap g4)).trans g4
  have HIM := hide (iptext_any _ _ x qs w4.heap.size (w4.alloc (.cells #[.int .i64 x.kind, .int .i64 x.src, .int .i64 x.dst, .int .i64 x.area, .slice y1 x.heard.length y1c, .slice y2 qs.length y2c] 31)) (by rw [totP_same fq]; exact HT.out) (o4.src.below BN (Nat.le_refl _)) BN.size (steps_later HTS0.out (B4.trans (BN.mono B4.size)) (Nat.le_refl _)))
  rw [pt_same fq, HTT.out] at HIM
  have YIN := hide (o4.in.then BN)
  have FQ := hide fq
  have NEW := hide hnew
  have OLD := hide hold
  have B5 : Below w.heap.size w (w4.alloc (.cells #[.int .i64 x.kind, .int .i64 x.src, .int .i64 x.dst, .int .i64 x.area, .slice y1 x.heard.length y1c, .slice y2 qs.length y2c] 31)) := B4.trans (BN.mono B4.size)
  clear b4 o4 fq s0 s1 s2 s3 s4 s5 G3 B3 hnew hold g4
  go_wp2_with fail
  obtain ⟨z, hz⟩ : ∃ z, z = w4.heap.size := ⟨_, rfl⟩
  obtain ⟨w5, hw5⟩ : ∃ W, W = w4.alloc (.cells #[.int .i64 x.kind, .int .i64 x.src, .int .i64 x.dst, .int .i64 x.area, .slice y1 x.heard.length y1c, .slice y2 qs.length y2c] 31) := ⟨_, rfl⟩
  rw [← hw5] at HIM YIN NEW OLD B5 BN ⊢
  rw [← hz] at NEW ⊢
  clear hw5 hz
  refine HIM.out.mono ?_
  rintro e w6 ⟨rfl, b6⟩
  have B6 : Below w.heap.size w w6 := B5.trans (b6.mono B5.size)
  have g6 := (b6.block _ (lt_of_heap OLD.out)).trans OLD.out
  have m6 := (b6.block _ (lt_of_heap NEW.out)).trans NEW.out
  have YD := hide ((YIN.out.then b6).then (Below.refl w6.heap.size w6).drew)
  have s0 := cells_at g6 0
  have s1 := cells_at g6 1
  have s2 := cells_at g6 2
  have s3 := cells_at g6 3
  have s4 := cells_at g6 4
  have s5 := cells_at g6 5
  simp at s0 s1 s2 s3 s4 s5
  have t0 := cells_at m6 0
  have t1 := cells_at m6 1
  have t2 := cells_at m6 2
  have t3 := cells_at m6 3
  have t4 := cells_at m6 4
  have t5 := cells_at m6 5
  simp at t0 t1 t2 t3 t4 t5
  have hzz := lt_of_heap m6
  have hww := lt_of_heap g6
  have HTD := hide (HTS.out w6.drew B6.drew)
  have HEQ := hide (fun (u1 u2 : Value) (qs' : List RP) W (hb : Below w6.drew.heap.size w6.drew W) (hf : fsts qs' = fsts ps) (hi : PkIn W u1 u2 x qs' W.heap.size) => eqPacket_any _ _ u1 u2 x qs qs' W (by rw [totP_same FQ.out]; exact HT.out) (YD.out.then hb) hi (FQ.out.trans hf.symm))
  clear HTS HIM YIN YD NEW OLD b6 B5 BN g6 m6
  go_wp2
  go_region_held3 (fun W => W.cell? ⟨w.heap.size, 0, none⟩ = some (.int .i64 x.kind) ∧ W.cell? ⟨w.heap.size, 1, none⟩ = some (.int .i64 x.src) ∧ W.cell? ⟨w.heap.size, 2, none⟩ = some (.int .i64 x.dst) ∧ W.cell? ⟨w.heap.size, 3, none⟩ = some (.int .i64 x.area) ∧ W.cell? ⟨w.heap.size, 4, none⟩ = some (.slice a1 x.heard.length a1c) ∧ W.cell? ⟨w.heap.size, 5, none⟩ = some (.slice a2 ps.length a2c) ∧ W.cell? ⟨z, 0, none⟩ = some (.int .i64 x.kind) ∧ W.cell? ⟨z, 1, none⟩ = some (.int .i64 x.src) ∧ W.cell? ⟨z, 2, none⟩ = some (.int .i64 x.dst) ∧ W.cell? ⟨z, 3, none⟩ = some (.int .i64 x.area) ∧ W.cell? ⟨z, 4, none⟩ = some (.slice y1 x.heard.length y1c) ∧ W.cell? ⟨z, 5, none⟩ = some (.slice y2 qs.length y2c)) (first | go_keep | (refine ⟨?_, ?_, ?_, ?_, ?_, ?_, ?_, ?_, ?_, ?_, ?_, ?_⟩ <;> (rw [b8.cell (Nat.lt_of_lt_of_le (by assumption) b7.size), b7.cell (by assumption)]; assumption)) | (refine ⟨?_, ?_, ?_, ?_, ?_, ?_, ?_, ?_, ?_, ?_, ?_, ?_⟩ <;> (rw [b7.cell (by assumption)]; assumption))) (first | (go_at_call 7; refine HTD.out.mono ?_; rintro e w7 ⟨q1, q2, qs', m, rfl, fq', o7, b7⟩) | (go_at_call 9; refine (HEQ.out _ _ qs' _ b7 fq' o7.in).mono ?_; rintro e w8 ⟨rfl, b8⟩))
  have B7 : Below w.heap.size w w7 := B6.drew.trans (b7.mono B6.size)
  have B8 : Below w.heap.size w w8 := B7.trans (b8.mono B7.size)
  go_wp2
  go_ret
  exact ⟨rfl, B8⟩
end Go.Proofs.YtnfockhbcneegaaDoor
namespace Go.Proofs.YtnfockhbcneegaaDoor
open Go.RowKit Go.ChangeShapes Go.WideShapes

section
variable {H : Type} {enc : TypeId × Value → H} {P : Program} {w : World} {base : Nat} {spare : Nat → Bool} {held : Bool}

theorem add_none {a : Addr} (h : a.spot = none) (j : Nat) : a.add j = ⟨a.block, a.off + j, none⟩ := by
  obtain ⟨b, o, s⟩ := a
  simp at h
  subst h
  simp only [Addr.add]
  split <;> simp_all

/-- two fields of one cell -/
theorem open_two {e : TypeId} {f0 f1 : Field} {fuel : Nat} {cs : List Value} {x : DataW H × List MemPlace} (he : P.underlying e = some (.struct #[f0, f1])) (ce : P.cellsOf e = 2)
    (o0 : f0.offset = 0) (o1 : f1.offset = 1) (c0 : P.cellsOf f0.type = 1) (c1 : P.cellsOf f1.type = 1)
    (h : DataW.trod enc P w base spare held fuel e cs = some x) :
    ∃ v0 v1 n y0 y1, cs = [v0, v1] ∧ DataW.trod enc P w base spare held n f0.type [v0] = some y0 ∧ DataW.trod enc P w base spare held n f1.type [v1] = some y1 := by
  obtain ⟨xs, k, hk, hxy, hcl, hxl, hf⟩ := DataW.trod_struct he h
  rw [ce] at hcl
  match xs, hxl, cs, hcl with
  | [y0, y1], _, [v0, v1], _ =>
    have g0 := hf 0 f0 rfl
    have g1 := hf 1 f1 rfl
    simp [o0, o1, c0, c1] at g0 g1
    exact ⟨v0, v1, k, y0, y1, rfl, g0, g1⟩

/-- a slice of such: each element by a reading of its two cells -/
theorem open_structs2 {α : Type} [Inhabited α] {encE : α → List Value} (hsz : ∀ a, (encE a).length = 2) {t e : TypeId} {fuel : Nat} {cs : List Value} {x : DataW H × List MemPlace} (ht : P.underlying t = some (.slice e)) (ce : P.cellsOf e = 2)
    (hel : ∀ fuel cs x, DataW.trod enc P w base spare held fuel e cs = some x → ∃ a : α, cs = encE a) (h : DataW.trod enc P w base spare held fuel t cs = some x) :
    ∃ v xs, cs = [v] ∧ StructsAt encE 2 w v xs w.heap.size ∧ xs.length ≤ maxLen := by
  rcases Go.Deep.open_slice ht h with ⟨h0, _⟩ | ⟨a, len, cap, m, n, D, Pl, rfl, hb, hlc, hcm, hmm, _, hx⟩
  · exact ⟨_, [], h0, ⟨none, 0, rfl, .inl rfl⟩, by simp⟩
  · have hlm : len ≤ m := by rw [hmm]; split <;> omega
    have each : ∀ i, i < len → ∃ q : α, ∀ r u, (encE q)[r]? = some u → w.cell? (a.add (i * 2 + r)) = some u := by
      intro i hi
      obtain ⟨cs', h1, h2⟩ := hx i (by omega)
      rw [ce] at h1
      obtain ⟨_, hlen, hcell⟩ := World.cells?_some h1
      obtain ⟨q, rfl⟩ := hel _ _ _ h2
      refine ⟨q, fun r u hu => ?_⟩
      have hr : r < 2 := by have := (List.getElem?_eq_some_iff.1 hu).1; rw [hsz] at this; exact this
      rw [← Go.Deep.add_add, hcell r hr, hu]
    obtain ⟨q, hq⟩ := Go.Deep.choose_lt each
    refine ⟨_, (List.range len).map q, rfl, ?_, by simp; omega⟩
    have hl : ((List.range len).map q).length = len := by simp
    unfold StructsAt RowAt
    rw [hl]
    refine ⟨_, cap, rfl, ?_⟩
    by_cases hl0 : len = 0
    · exact .inl hl0
    · right
      have hsp : a.spot = none := by
        have hu : (encE (q 0))[0]? = some ((encE (q 0))[0]'(by rw [hsz]; omega)) := List.getElem?_eq_getElem _
        have := World.cell?_spot (hq 0 (by omega) 0 _ hu)
        simpa [Addr.add] using this
      have hblk : a.block < w.heap.size := by
        have hu : (encE (q 0))[0]? = some ((encE (q 0))[0]'(by rw [hsz]; omega)) := List.getElem?_eq_getElem _
        have := World.block_lt_of_cell? w _ (hq 0 (by omega) 0 _ hu)
        simpa [Addr.add] using this
      refine ⟨a.block, a.off, by obtain ⟨b, o, s⟩ := a; simp at hsp; rw [hsp], hblk, fun j hj => ?_⟩
      have e : j = j / 2 * 2 + j % 2 := by omega
      have hd : j / 2 < len := by omega
      have hm4 : j % 2 < 2 := by omega
      have hg := flat_get hsz ((List.range len).map q) (j / 2) (j % 2) (q (j / 2)) (by simp [hd]) hm4
      have hu : (encE (q (j / 2)))[j % 2]? = some ((encE (q (j / 2)))[j % 2]'(by rw [hsz]; exact hm4)) := List.getElem?_eq_getElem _
      have := hq (j / 2) hd (j % 2) _ hu
      rw [← e, add_none hsp] at this
      rw [this]
      rw [← e] at hg
      simp only [List.getD_eq_getElem?_getD, hg, hu]
      rfl
end
end Go.Proofs.YtnfockhbcneegaaDoor
namespace Go.Proofs.YtnfockhbcneegaaDoor
open Go.RowKit Go.ChangeShapes Go.WideShapes

section
variable {H : Type} {enc : TypeId × Value → H} {w : World} {base : Nat} {spare : Nat → Bool} {held : Bool}

theorem open_near {fuel : Nat} {cs : List Value} {x : DataW H × List MemPlace} (h : DataW.trod enc Tryd.prog w base spare held fuel 125 cs = some x) : ∃ l : Nr, cs = nrE l := by
  obtain ⟨v0, v1, n, y0, y1, rfl, h0, h1⟩ := open_two Tryd.underlying125 (by kernel_rfl) rfl rfl (by kernel_rfl) (by kernel_rfl) h
  obtain ⟨a, ha, _⟩ := DataW.trod_int Tryd.underlying3 h0
  obtain ⟨b, hb, _⟩ := DataW.trod_int Tryd.underlying3 h1
  exact ⟨⟨a, b⟩, by cases ha; cases hb; rfl⟩

end
end Go.Proofs.YtnfockhbcneegaaDoor
namespace Go.Proofs.YtnfockhbcneegaaDoor
open Go.RowKit Go.ChangeShapes Go.WideShapes

section
variable {H : Type} {enc : TypeId × Value → H} {P : Program} {w : World} {base : Nat} {spare : Nat → Bool} {held : Bool}

/-- a slice of structs of sz cells: each element by a reading of its cells -/
theorem open_structsN {α : Type} [Inhabited α] {encE : α → List Value} {sz : Nat} (hpos : 0 < sz) {R : α → Prop} (hsz : ∀ a, (encE a).length = sz) {t e : TypeId} {fuel : Nat} {cs : List Value} {x : DataW H × List MemPlace} (ht : P.underlying t = some (.slice e)) (ce : P.cellsOf e = sz)
    (hel : ∀ fuel cs x, DataW.trod enc P w base spare held fuel e cs = some x → ∃ a : α, cs = encE a ∧ R a) (h : DataW.trod enc P w base spare held fuel t cs = some x) :
    ∃ v xs, cs = [v] ∧ StructsAt encE sz w v xs w.heap.size ∧ xs.length ≤ maxLen ∧ ∀ a ∈ xs, R a := by
  rcases Go.Deep.open_slice ht h with ⟨h0, _⟩ | ⟨a, len, cap, m, n, D, Pl, rfl, hb, hlc, hcm, hmm, _, hx⟩
  · exact ⟨_, [], h0, ⟨none, 0, rfl, .inl rfl⟩, by simp, by simp⟩
  · have hlm : len ≤ m := by rw [hmm]; split <;> omega
    have each : ∀ i, i < len → ∃ q : α, R q ∧ ∀ r u, (encE q)[r]? = some u → w.cell? (a.add (i * sz + r)) = some u := by
      intro i hi
      obtain ⟨cs', h1, h2⟩ := hx i (by omega)
      rw [ce] at h1
      obtain ⟨_, hlen, hcell⟩ := World.cells?_some h1
      obtain ⟨q, rfl, hR⟩ := hel _ _ _ h2
      refine ⟨q, hR, fun r u hu => ?_⟩
      have hr : r < sz := by have := (List.getElem?_eq_some_iff.1 hu).1; rw [hsz] at this; exact this
      rw [← Go.Deep.add_add, hcell r hr, hu]
    obtain ⟨q, hq⟩ := Go.Deep.choose_lt each
    refine ⟨_, (List.range len).map q, rfl, ?_, by simp; omega, fun a ha => by obtain ⟨i, hi, rfl⟩ := List.mem_map.1 ha; exact (hq i (by simpa using hi)).1⟩
    have hl : ((List.range len).map q).length = len := by simp
    unfold StructsAt RowAt
    rw [hl]
    refine ⟨_, cap, rfl, ?_⟩
    by_cases hl0 : len = 0
    · exact .inl hl0
    · right
      have hsp : a.spot = none := by
        have hu : (encE (q 0))[0]? = some ((encE (q 0))[0]'(by rw [hsz]; exact hpos)) := List.getElem?_eq_getElem _
        have := World.cell?_spot ((hq 0 (by omega)).2 0 _ hu)
        simpa [Addr.add] using this
      have hblk : a.block < w.heap.size := by
        have hu : (encE (q 0))[0]? = some ((encE (q 0))[0]'(by rw [hsz]; exact hpos)) := List.getElem?_eq_getElem _
        have := World.block_lt_of_cell? w _ ((hq 0 (by omega)).2 0 _ hu)
        simpa [Addr.add] using this
      refine ⟨a.block, a.off, by obtain ⟨b, o, s⟩ := a; simp at hsp; rw [hsp], hblk, fun j hj => ?_⟩
      have e : j = j / sz * sz + j % sz := by rw [Nat.mul_comm]; exact (Nat.div_add_mod j sz).symm
      have hd : j / sz < len := Nat.div_lt_of_lt_mul (by rw [Nat.mul_comm]; exact hj)
      have hm4 : j % sz < sz := Nat.mod_lt _ hpos
      have hg := flat_get hsz ((List.range len).map q) (j / sz) (j % sz) (q (j / sz)) (by simp [hd]) hm4
      have hu : (encE (q (j / sz)))[j % sz]? = some ((encE (q (j / sz)))[j % sz]'(by rw [hsz]; exact hm4)) := List.getElem?_eq_getElem _
      have := (hq (j / sz) hd).2 (j % sz) _ hu
      rw [← e, add_none hsp] at this
      rw [this]
      rw [← e] at hg
      simp only [List.getD_eq_getElem?_getD, hg, hu]
      rfl
end
end Go.Proofs.YtnfockhbcneegaaDoor
