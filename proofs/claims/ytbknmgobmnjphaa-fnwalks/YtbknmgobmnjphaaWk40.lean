/-
  The law FnWalks, walked.
-/
import Derived.Test.YtbknmgobmnjphaaWk29
import Derived.Test.YtbknmgobmnjphaaWk30
import Derived.Test.YtbknmgobmnjphaaWk33
import Derived.Test.YtbknmgobmnjphaaWk34
import Derived.Test.YtbknmgobmnjphaaWk24
import Derived.Test.YtbknmgobmnjphaaWk35
import Derived.Test.YtbknmgobmnjphaaWk39
namespace Go.Proofs.Ytbknmgobmnjphaa
open Go.RowKit

set_option linter.unusedSimpArgs false

theorem exec_load_row {P : Program} {o : Oper} {ev : Operand → Value} {w : World} (ty : TypeId) (x : Operand) (ho : o.op = .load ty x)
    (g : Nat) (hx : ev x = .pointer (some ⟨g, 0, none⟩)) (t : TypeId) (cs : Array Value) (fr : Nat × Nat) (d : TypeDesc) (hg : w.heap[g]? = some (.cells cs t fr))
    (hu : P.underlying ty = some d) (hd : (match d with | .struct _ | .array _ _ => true | _ => false) = true) (hi : (P.info? ty).map (·.size) = some cs.size) : (execOp ev o).run P w = .ok (.value (.agg cs)) w := by
  unfold execOp
  simp only [ho, hx, Instr.loadAt, Instr.sureAddr, Sem.run_bind, Sem.run_pure, Result.andThen_ok, run_loadVar_row w g t ty cs fr d hg hu hd hi]

theorem wp_append_oneW {α : Type} {enc : α → List Value} {sz bytes : Nat} (hlen : ∀ a, (enc a).length = sz) (hpos : 0 < sz) (hbb : bytes ≤ 100) {P : Program} (w : World) {o : Oper} {a : Act} {K : Act → World → Prop} {Q : Exit → Act → World → Prop} (s x : Operand) (t : TypeId)
    (ho : o.op = .call { callee := .builtin .append, args := #[s, x], argTypes := #[t, t] }) (base : Nat) (e : TypeId) (ht : P.underlying t = some (.slice e)) (zv : Value) (hzv : zv.cells.size = sz)
    (hinfo : (P.info? e).map (fun i => (i.zero, i.size, i.bytes)) = some (some zv, sz, bytes))
    (v : Value) (l : List α) (y : α) (hone : ∀ u ∈ enc y, u.oneCell' = true) (hs : a.eval s = v) (hown : w.ownsRow base e sz v l.length (flat enc l))
    (ad : Addr) (c : Nat) (hx : a.eval x = .slice (some ad) 1 c) (hnews : ∀ j u, (enc y)[j]? = some u → w.cell? (ad.add j) = some u)
    (hl : l.length + 1 ≤ 1000000000) (hbase : base ≤ w.heap.size)
    (h : ∀ v' w', w'.ownsRow base e sz v' (l ++ [y]).length (flat enc (l ++ [y])) → w.grownBy w' v.ownBlock → K (a.put o.dst v') w') : o.wp P a w K Q := by
  obtain ⟨i0, hi, hz0, hz1, hz2⟩ := info_parts hinfo
  refine wp_append_own w s x t ho base e i0 zv sz bytes ht hi hz0 hz1 hz2 hzv hpos v l.length (flat enc l) hs hown ad 1 c (enc y) hx (by rw [hlen]; omega) hnews hone (by unfold maxLen; omega) ?_ hbase ?_
  · have : (l.length + 1) * bytes ≤ 1000000000 * 100 := Nat.mul_le_mul hl hbb
    omega
  · intro v' w' h1 h2 _
    have e1 : flat enc l ++ enc y = flat enc (l ++ [y]) := by rw [flat_append]; simp [flat]
    rw [e1] at h1
    exact h v' w' (by simpa using h1) h2

theorem netOkI_thW {x : NetD} (h : netOkI x = true) : ∀ t ∈ x.ts, 1 ≤ t.o ∧ t.o ≤ x.n := by
  simp only [netOkI, Bool.and_eq_true] at h
  intro t ht
  have := okT_of h.2 t ht
  simp only [thOkB, inB, Bool.and_eq_true, decide_eq_true_eq] at this
  omega

/-- the tables of the nodes below v -/
structure TabsN (ls : List Lk) (xs : List RecD) (D : List (List LnD)) (v : Nat) : Prop where
  len : D.length + 1 = v
  tab : ∀ k : Nat, 1 ≤ k → k < v → ∃ l, IsRoutes xs (areasL ls (k : Int)) (bordB ls (k : Int)) (k : Int) l ∧ D[k - 1]? = some (tabD (l.map lnR))

theorem TabsN.push {ls : List Lk} {xs : List RecD} {D : List (List LnD)} {k : Nat} {l : List RtD} {y : List LnD} (h : TabsN ls xs D k) (hl : IsRoutes xs (areasL ls (k : Int)) (bordB ls (k : Int)) (k : Int) l) (hy : y = tabD (l.map lnR)) : TabsN ls xs (D ++ [y]) (k + 1) where
  len := by have := h.len; simp; omega
  tab := fun j h1 h2 => by
    have hlen := h.len
    by_cases e : j = k
    · subst e
      exact ⟨l, hl, by rw [List.getElem?_append_right (by omega), hy, show j - 1 - D.length = 0 by omega]; rfl⟩
    · obtain ⟨l', h3, h4⟩ := h.tab j h1 (by omega)
      exact ⟨l', h3, by rw [List.getElem?_append_left (by omega)]; exact h4⟩

theorem TabsN.all {ls : List Lk} {xs : List RecD} {D : List (List LnD)} {N : Nat} (h : TabsN ls xs D (N + 1)) : Tabs ls N xs D := ⟨by have := h.len; omega, fun v h1 h2 => h.tab v h1 (by omega)⟩

theorem tabs_tot {ls : List Lk} {xs : List RecD} {tb : List LLP} {v : Nat} (h : TabsN ls xs (datLL tb) v) (hs : storeB xs = true) : totLL tb ≤ 148 * tb.length := by
  have h1 : ∀ x ∈ datLL tb, totJD x ≤ 147 := fun x hx => by
    obtain ⟨i, hi, e⟩ := List.getElem_of_mem hx
    have hlen := h.len
    obtain ⟨l, h3, h4⟩ := h.tab (i + 1) (by omega) (by omega)
    rw [Nat.add_sub_cancel, List.getElem?_eq_getElem hi, e] at h4
    cases h4
    have h5 := tabD_tot (l.map lnR)
    have h6 : totJD (l.map lnR) = totQD l := by unfold totJD totQD; rw [List.map_map]; rfl
    have h7 := routes_tot h3 hs
    omega
  rw [totLL_D, ← datLL_len]
  generalize datLL tb = D at h1
  induction D with
  | nil => simp
  | cons y D ih =>
    have h2 := ih (fun x hx => h1 x (by simp [hx]))
    have h3 := h1 y (by simp)
    simp only [List.map_cons, List.sum_cons, List.length_cons]
    omega

theorem walk_self (D : List (List LnD)) (a : Int) (ps : List Int) : walkO D a a ps = some [a] := by simp [walkO, walkF]

theorem walk_none (a z : Int) (ps : List Int) (h : a ≠ z) : walkO [] a z ps = none := by
  have h1 : hopsD [] a z = [] := hopsD_off (by simp; omega)
  simp [walkO, walkF, h, h1]

set_option maxRecDepth 100000 in
set_option maxHeartbeats 16000000 in
theorem fnWalks_walk (a : Option Addr) (len cap : Nat) (w : World) (hw : len ≤ 1048576 → Code w a len w.heap.size) :
    Calls Try.prog 3 #[.slice a len cap] w fun e w' => e = .returned (.bool true) ∧ Below w.heap.size w w' := by
  have HW := hide hw
  clear hw
  by_cases hlen : len ≤ 1048576
  case neg =>
    have HBIG := hide (big_any a len cap)
    rw [decide_eq_true (show (1048576 : Int) < (len : Int) by omega)] at HBIG
    go_enter Try.func3, Try.ntmps3
    go_wp2_with fail
    refine (HBIG.out _).mono ?_
    rintro e w1 ⟨rfl, rfl⟩
    go_wp2
    go_ret
    exact ⟨rfl, Below.refl _ _⟩
  have HBIG := hide (big_any a len cap)
  rw [decide_eq_false (show ¬ (1048576 : Int) < (len : Int) by omega)] at HBIG
  have HCODE := hide (HW.out hlen)
  clear HW
  go_enter Try.func3, Try.ntmps3
  go_wp2_with fail
  refine (HBIG.out _).mono ?_
  rintro e w1 ⟨rfl, rfl⟩
  go_wp2_with fail
  refine (drawRB_any a len cap _ HCODE.out).mono ?_
  rintro e w1 ⟨x, v, y, z, ys, zs, rfl, hok, hnet, hbl, b1⟩
  obtain ⟨hy, hz, hyl, hzl⟩ := hbl.out
  have hth := netOkI_thW hok
  have hn6 := netOkI_n hok
  have hl12 := netOkI_l hok
  obtain ⟨n, ls, ts⟩ := x
  obtain ⟨v1, v2, rfl, h1, h2⟩ := hnet
  simp only [] at hth hn6 hl12 h1 h2 hyl hzl
  obtain ⟨N, rfl⟩ : ∃ N : Nat, n = (N : Int) := ⟨n.toNat, by omega⟩
  have BA : Below w1.heap.size w1 (w1.alloc (.cells #[.int .i64 (N : Int), v1, v2] 27)) := (Below.refl _ _).alloc (Nat.le_refl _) _
  have HST := hide (ideal_store (bs := ys) (zs := zs) hok)
  have HID := hide (sideal_any v1 v2 y z N ls ts ys zs (w1.alloc (.cells #[.int .i64 (N : Int), v1, v2] 27)) hok (by omega) (by omega) hl12.1 hl12.2 hth (RowAt.then h1 BA) (RowAt.then h2 BA) (RowAt.then hy BA) (RowAt.then hz BA) hyl (by omega))
  obtain ⟨a1, c1, rfl⟩ := h1.shape
  obtain ⟨a2, c2, rfl⟩ := h2.shape
  obtain ⟨a3, c3, rfl⟩ := hy.shape
  obtain ⟨a4, c4, rfl⟩ := hz.shape
  have hx1 : (w1.alloc (.cells #[.int .i64 (N : Int), .slice a1 ls.length c1, .slice a2 ts.length c2] 27)).heap[w1.heap.size]? = some (.cells #[.int .i64 (N : Int), .slice a1 ls.length c1, .slice a2 ts.length c2] 27) := heap_alloc_new w1 _
  have HX1 := hide hx1
  have HB1 := hide (b1.trans (BA.mono b1.size))
  have hN1 : 1 ≤ N := by omega
  have hN6 : N ≤ 6 := by omega
  have HLK := hide (fun W (hb : Below (w1.alloc (.cells #[.int .i64 (N : Int), .slice a1 ls.length c1, .slice a2 ts.length c2] 27)).heap.size (w1.alloc (.cells #[.int .i64 (N : Int), .slice a1 ls.length c1, .slice a2 ts.length c2] 27)) W) => (RowAt.then (RowAt.then h1 BA) hb))
  have hl12a := hl12.1
  clear hx1 hok h1 h2 hy hz hyl hzl hth hl12 hbl b1 BA HBIG hn6
  go_wp2_with fail
  refine HID.out.mono ?_
  rintro e w3 ⟨o, qs, rfl, hqs, htq, ho, b3⟩
  obtain ⟨oa, oc, rfl⟩ := owns_lenS ho.row
  have hx3 := (b3.block _ (lt_of_heap HX1.out)).trans HX1.out
  have B3 : Below w.heap.size w w3 := HB1.out.trans (b3.mono HB1.out.size)
  obtain ⟨xs, hxs⟩ : ∃ xs, xs = fsts qs := ⟨_, rfl⟩
  have hst : storeB xs = true := by rw [hxs, hqs]; exact HST.out
  have HHM := hide (show Home ls N xs by rw [hxs, hqs]; exact home_ideal ls ts ys zs N)
  have HAR := hide (fun (f : Int) W (hb : Below w3.heap.size w3 W) => sareas_any (.int .i64 (N : Int)) (.slice a1 ls.length c1) (.slice a2 ts.length c2) ls f W (by omega) (HLK.out W (b3.trans (hb.mono b3.size))))
  have HBO := hide (fun (f : Int) W (hb : Below w3.heap.size w3 W) => sborder_any (.int .i64 (N : Int)) (.slice a1 ls.length c1) (.slice a2 ts.length c2) ls f W (by omega) (HLK.out W (b3.trans (hb.mono b3.size))))
  have HRS := hide (fun u al hi bo (f : Int) W (hb : Below w3.heap.size w3 W) (ha : HopsAt W u al hi) (h3 : w3.heap.size ≤ hi) (hh : hi ≤ W.heap.size) (hal : al.length ≤ 1048576) => sroutes_any (.slice oa qs.length oc) u qs al hi bo f W ((ho.in.below hb (Nat.le_refl _)).wide h3) ha hh (by omega) hal (by rw [← hxs]; exact hst))
  rw [← hxs] at HRS
  have HSTO := hide hst
  have HX3 := hide hx3
  have HB3 := hide B3
  clear hqs htq ho b3 hst hx3 B3 HST HID HX1 HB1 hxs HLK
  go_wp2
  have LT0 := LTs.start w3
  have bT := (Below.refl w3.heap.size w3).alloc (Nat.le_refl _) (.cells #[] 35)
  generalize w3.alloc (.cells #[] 35) = WT at *
  have HLT0 := hide LT0
  clear LT0
  go_loopw [8, 9] (fun s i wr => ∃ (v : Nat) (tb : List LLP) (ta : Option Addr) (tc : Nat), 1 ≤ v ∧ v ≤ N + 1 ∧ i = .int .i64 (v : Int) ∧ s = .slice ta tb.length tc ∧ Hid (LTs wr w3.heap.size wr.heap.size (.slice ta tb.length tc) tb) ∧ Hid (TabsN ls xs (datLL tb) v) ∧ Below w3.heap.size w3 wr) (fun _ i _ => 8 - (intOf i).toNat)
  case atStart => exact ⟨1, [], _, 0, by omega, by omega, rfl, rfl, HLT0, hide ⟨rfl, fun k h1 h2 => by omega⟩, bT⟩
  case round =>
    obtain ⟨v, tb, ta, tc, hv1, hvN, rfl, rfl, HTB, HTN, ba⟩ := hrel
    have hxa := (ba.block _ (lt_of_heap HX3.out)).trans HX3.out
    have n0 := cells_at hxa 0
    simp only [List.getElem?_toArray, List.getElem?_cons_succ, List.getElem?_cons_zero] at n0
    have hba := ba.size
    have htl : tb.length ≤ 6 := by have := HTN.out.len; rw [datLL_len] at this; omega
    have HXA := hide hxa
    have BA := hide (show Below w3.heap.size w3 wr.drew from ba.drew)
    clear hxa
    by_cases hlv : v ≤ N
    · have hlv' : (v : Int) ≤ (N : Int) := by omega
      go_wp2
      refine wp_region_noPanic ?_
      refine wp_region_start (S := (fun W => W.heap[w1.heap.size]? = some (.cells #[.int .i64 (N : Int), .slice a1 ls.length c1, .slice a2 ts.length c2] 27))) (by kernel_rfl) 14 rfl HXA.out (fun ops hops HSW => ?_)
      refine take_do 0 (oi := ?_) (v := ?_) ?_ (by rw [hops.out]; kernel_rfl) ?_ ?_ ?_ HSW ?_
      rotate_left 2
      · rw [hops.out]; simp only [List.getElem?_toArray, List.getElem?_cons_succ, List.getElem?_cons_zero]; rfl
      · rw [hops.out]; kernel_rfl
      · intro W hW; (try dsimp only at hW); go_simp <;> with_reducible rfl
      · exact fun _ _ _ h => h
      try simp only [Act.put, List.setIfInBounds_toArray, List.set_cons_zero, List.set_cons_succ]
      refine take_do 1 (oi := ?_) (v := ?_) ?_ (by rw [hops.out]; kernel_rfl) ?_ ?_ ?_ HSW ?_
      rotate_left 2
      · rw [hops.out]; simp only [List.getElem?_toArray, List.getElem?_cons_succ, List.getElem?_cons_zero]; rfl
      · rw [hops.out]; kernel_rfl
      · intro W hW; (try dsimp only at hW); go_simp <;> with_reducible rfl
      · exact fun _ _ _ h => h
      try simp only [Act.put, List.setIfInBounds_toArray, List.set_cons_zero, List.set_cons_succ]
      refine take_do 2 (oi := ?_) (v := ?_) ?_ (by rw [hops.out]; kernel_rfl) ?_ ?_ ?_ HSW ?_
      rotate_left 2
      · rw [hops.out]; simp only [List.getElem?_toArray, List.getElem?_cons_succ, List.getElem?_cons_zero]; rfl
      · rw [hops.out]; kernel_rfl
      · intro W hW; refine exec_load_row 27 (.tmp 3) ?_ w1.heap.size ?_ 27 _ (0, 0) _ hW Try.underlying27 rfl (by kernel_rfl) <;> rfl
      · exact fun _ _ _ h => h
      try simp only [Act.put, List.setIfInBounds_toArray, List.set_cons_zero, List.set_cons_succ]
      refine take_do 3 (oi := ?_) (v := ?_) ?_ (by rw [hops.out]; kernel_rfl) ?_ ?_ ?_ HSW ?_
      rotate_left 2
      · rw [hops.out]; simp only [List.getElem?_toArray, List.getElem?_cons_succ, List.getElem?_cons_zero]; rfl
      · rw [hops.out]; kernel_rfl
      · intro W hW; (try dsimp only at hW); go_simp <;> with_reducible rfl
      · exact fun _ _ _ h => h
      try simp only [Act.put, List.setIfInBounds_toArray, List.set_cons_zero, List.set_cons_succ]
      refine take_do 5 (oi := ?_) (v := ?_) ?_ (by rw [hops.out]; kernel_rfl) ?_ ?_ ?_ HSW ?_
      rotate_left 2
      · rw [hops.out]; simp only [List.getElem?_toArray, List.getElem?_cons_succ, List.getElem?_cons_zero]; rfl
      · rw [hops.out]; kernel_rfl
      · intro W hW; refine exec_load_row 27 (.tmp 3) ?_ w1.heap.size ?_ 27 _ (0, 0) _ hW Try.underlying27 rfl (by kernel_rfl) <;> rfl
      · exact fun _ _ _ h => h
      try simp only [Act.put, List.setIfInBounds_toArray, List.set_cons_zero, List.set_cons_succ]
      refine take_do 6 (oi := ?_) (v := ?_) ?_ (by rw [hops.out]; kernel_rfl) ?_ ?_ ?_ HSW ?_
      rotate_left 2
      · rw [hops.out]; simp only [List.getElem?_toArray, List.getElem?_cons_succ, List.getElem?_cons_zero]; rfl
      · rw [hops.out]; kernel_rfl
      · intro W hW; (try dsimp only at hW); go_simp <;> with_reducible rfl
      · exact fun _ _ _ h => h
      try simp only [Act.put, List.setIfInBounds_toArray, List.set_cons_zero, List.set_cons_succ]
      refine take_do 8 (oi := ?_) (v := ?_) ?_ (by rw [hops.out]; kernel_rfl) ?_ ?_ ?_ HSW ?_
      rotate_left 2
      · rw [hops.out]; simp only [List.getElem?_toArray, List.getElem?_cons_succ, List.getElem?_cons_zero]; rfl
      · rw [hops.out]; kernel_rfl
      · intro W hW; (try dsimp only at hW); go_simp <;> with_reducible rfl
      · exact fun _ _ _ h => h
      try simp only [Act.put, List.setIfInBounds_toArray, List.set_cons_zero, List.set_cons_succ]
      refine take_call 4 (oi := ?_) ?_ (by rw [hops.out]; kernel_rfl) ?_ ?_
      rotate_left 1
      · rw [hops.out]; simp only [List.getElem?_toArray, List.getElem?_cons_succ, List.getElem?_cons_zero]; rfl
      · rw [hops.out]; kernel_rfl
      intro K hK
      go_simp
      refine (HAR.out (v : Int) wr.drew BA.out).mono ?_
      rintro e w4 ⟨u, rfl, hu, b4⟩
      obtain ⟨al, HAL⟩ : ∃ al, Hid (al = areasL ls (v : Int)) := ⟨_, hide rfl⟩
      rw [← HAL.out] at hu
      have hal3 : al.length ≤ 3 := by rw [HAL.out]; exact areasL_len ls _
      obtain ⟨ua, uc, rfl⟩ := owns_lenS hu
      rw [← flat_int] at hu
      have hb4 := b4.size
      have HS4 := (b4.block _ (lt_of_heap HXA.out)).trans HXA.out
      have B4 := BA.out.trans (b4.mono BA.out.size)
      have HU4 := hide (hops_of hu)
      have hs4 := B4.size
      refine hK.out _ _ HS4 (fun _ => ?_)
      clear hK hu
      try simp only [Act.put, List.setIfInBounds_toArray, List.set_cons_zero, List.set_cons_succ]
      refine take_call 7 (oi := ?_) ?_ (by rw [hops.out]; kernel_rfl) ?_ ?_
      rotate_left 1
      · rw [hops.out]; simp only [List.getElem?_toArray, List.getElem?_cons_succ, List.getElem?_cons_zero]; rfl
      · rw [hops.out]; kernel_rfl
      intro K hK
      go_simp
      refine (HBO.out (v : Int) w4 B4).mono ?_
      rintro e w5 ⟨rfl, b5⟩
      obtain ⟨bo, HBD⟩ : ∃ bo, Hid (bo = bordB ls (v : Int)) := ⟨_, hide rfl⟩
      rw [← HBD.out]
      have hb5 := b5.size
      have HS5 := (b5.block _ (lt_of_heap HS4)).trans HS4
      have B5 := B4.trans (b5.mono hs4)
      have HU5 := hide (RowAt.later HU4.out b5 (Nat.le_refl _))
      have hs5 := B5.size
      refine hK.out _ _ HS5 (fun _ => ?_)
      clear hK
      try simp only [Act.put, List.setIfInBounds_toArray, List.set_cons_zero, List.set_cons_succ]
      refine take_call 9 (oi := ?_) ?_ (by rw [hops.out]; kernel_rfl) ?_ ?_
      rotate_left 1
      · rw [hops.out]; simp only [List.getElem?_toArray, List.getElem?_cons_succ, List.getElem?_cons_zero]; rfl
      · rw [hops.out]; kernel_rfl
      intro K hK
      go_simp
      refine (HRS.out _ al w4.heap.size bo (v : Int) w5 B5 HU5.out hs4 hb5 (by omega)).mono ?_
      rintro e w6 ⟨vl, ql, rfl, hir, hol, b6⟩
      rw [HAL.out, HBD.out] at hir
      obtain ⟨qla, qlc, rfl⟩ := owns_lenS hol.row
      have hb6 := b6.size
      have HS6 := (b6.block _ (lt_of_heap HS5)).trans HS5
      have B6 := B5.trans (b6.mono hs5)
      have hs6 := B6.size
      have hqt : totQ ql ≤ 1048576 := by rw [totQ_D]; exact Nat.le_trans (routes_tot hir HSTO.out) (by omega)
      have HIR := hide hir
      have HOL := hide hol
      clear hir hol
      refine hK.out _ _ HS6 (fun _ => ?_)
      clear hK
      try simp only [Act.put, List.setIfInBounds_toArray, List.set_cons_zero, List.set_cons_succ]
      refine take_call 10 (oi := ?_) ?_ (by rw [hops.out]; kernel_rfl) ?_ ?_
      rotate_left 1
      · rw [hops.out]; simp only [List.getElem?_toArray, List.getElem?_cons_succ, List.getElem?_cons_zero]; rfl
      · rw [hops.out]; kernel_rfl
      intro K hK
      go_simp
      refine (itable_any (.slice qla ql.length qlc) ql w5.heap.size w6.heap.size w6 HOL.out (Nat.le_refl _) hqt).mono ?_
      rintro e w7 ⟨vt, yt, rfl, hyt, hot, b7⟩
      obtain ⟨yta, ytc, rfl⟩ := owns_lenS hot.row
      have hb7 := b7.size
      have HS7 := (b7.block _ (lt_of_heap HS6)).trans HS6
      have B7 := B6.trans (b7.mono hs6)
      have hs7 := B7.size
      have HYT := hide hyt
      have HOT := hide hot
      clear hyt hot
      refine hK.out _ _ HS7 (fun _ => ?_)
      clear hK
      try simp only [Act.put, List.setIfInBounds_toArray, List.set_cons_zero, List.set_cons_succ]
      refine take_call 11 (oi := ?_) ?_ (by rw [hops.out]; kernel_rfl) ?_ ?_
      rotate_left 1
      · rw [hops.out]; simp only [List.getElem?_toArray, List.getElem?_cons_succ, List.getElem?_cons_zero]; rfl
      · rw [hops.out]; kernel_rfl
      intro K hK
      go_simp
      refine hK.out _ _ ((Below.heap_alloc _ _ _ (lt_of_heap HS7)).trans HS7) (fun _ => ?_)
      clear hK
      try simp only [Act.put, List.setIfInBounds_toArray, List.set_cons_zero, List.set_cons_succ]
      refine take_call 12 (oi := ?_) ?_ (by rw [hops.out]; kernel_rfl) ?_ ?_
      rotate_left 1
      · rw [hops.out]; simp only [List.getElem?_toArray, List.getElem?_cons_succ, List.getElem?_cons_zero]; rfl
      · rw [hops.out]; kernel_rfl
      intro K hK
      have bt : Below wr.heap.size wr w7 := (Below.refl wr.heap.size wr).drew.trans (b4.trans ((b5.trans ((b6.trans (b7.mono hb6)).mono hb5)).mono hb4))
      have btA := bt.alloc bt.size (.cells #[.slice yta yt.length ytc] 35)
      have hrow7 := (owns_below HTB.out.row bt (Nat.le_refl _)).alloc (.cells #[.slice yta yt.length ytc] 35)
      refine wp_append_oneW encLL_len (by omega) (by omega) _ _ _ 34 rfl w3.heap.size 35 Try.underlying34 (.slice none 0 0) rfl Try.infoLines _ tb (.slice yta yt.length ytc, yt) (encLL_one _ _ _ _) rfl hrow7 ⟨w7.heap.size, 0, none⟩ 1 rfl ?_ (by omega) (by simp; omega) ?_
      · exact news_struct (cs := encLL (.slice yta yt.length ytc, yt))
      intro v' w9 ho9 gr9
      have LT9 := HTB.out.push (p := (.slice yta yt.length ytc, yt)) btA ((LnsOwn.keep HOT.out (fun j _ _ h3 => Below.heap_alloc _ _ _ h3)).wide (by omega) (by simp)) (by simpa using ho9) gr9
      have B9 : Below w3.heap.size w3 w9 := (B7.alloc hs7 _).grown gr9 (by simp; omega) (fun k hk => (HTB.out.row.lt k hk).1)
      have TN9 := HTN.out.push (k := v) HIR.out (show fstsJ yt = tabD ((fstsQ ql).map lnR) by rw [HYT.out, map_fsts])
      obtain ⟨va, vc, hve⟩ := owns_lenS LT9.row
      have hl9 : (tb ++ [(Value.slice yta yt.length ytc, yt)]).length = tb.length + 1 := by simp
      rw [hl9] at hve
      subst hve
      refine hK.out _ _ (by have h9 := gr9.block w1.heap.size (by have := lt_of_heap HS7; simp; omega) (fun e9 => by have h8 := (hrow7.lt _ e9.symm).1; have := lt_of_heap HX3.out; omega); rw [h9]; exact (Below.heap_alloc _ _ _ (lt_of_heap HS7)).trans HS7) (fun HS9 => ?_)
      clear hK
      try simp only [Act.put, List.setIfInBounds_toArray, List.set_cons_zero, List.set_cons_succ]
      refine take_do 13 (oi := ?_) (v := ?_) ?_ (by rw [hops.out]; kernel_rfl) ?_ ?_ ?_ HS9 ?_
      rotate_left 2
      · rw [hops.out]; simp only [List.getElem?_toArray, List.getElem?_cons_succ, List.getElem?_cons_zero]; rfl
      · rw [hops.out]; kernel_rfl
      · intro W hW; (try dsimp only at hW); go_simp <;> with_reducible rfl
      · exact fun _ _ _ h => h
      try simp only [Act.put, List.setIfInBounds_toArray, List.set_cons_zero, List.set_cons_succ]
      refine wpAnyH_done (by rw [hops.out]; kernel_rfl) (NoPanic.normal ?_) _
      clear hops ops
      have LT := hide (show LTs w9 w3.heap.size w9.heap.size (.slice va (tb ++ [(Value.slice yta yt.length ytc, yt)]).length vc) (tb ++ [(Value.slice yta yt.length ytc, yt)]) by rw [hl9]; exact LT9)
      have HRF := hide (show Value.slice va (tb.length + 1) vc = .slice va (tb ++ [(Value.slice yta yt.length ytc, yt)]).length vc by rw [hl9])
      have HT9 := hide TN9
      clear LT9 TN9 ho9 gr9 hrow7 btA bt hl9 HS9 HS7 HS6 HS5 HS4 HSW HOT HYT HOL HIR
      go_wp2
      go_roundw
      case rel => exact ⟨v + 1, tb ++ [(.slice yta yt.length ytc, yt)], va, vc, by omega, by omega, by go_num, HRF.out, LT, by rw [show datLL (tb ++ [(Value.slice yta yt.length ytc, yt)]) = datLL tb ++ [fstsJ yt] by simp [datLL]]; exact HT9, B9⟩
      case measure => simp [intOf]; omega
    · have hvn : v = N + 1 := by omega
      have hlv' : ¬ (v : Int) ≤ (N : Int) := by omega
      have HTA := hide (show Tabs ls N xs (datLL tb) by have h := HTN.out; rw [hvn] at h; exact h.all)
      clear hvn
      have bwr : Below w.heap.size w wr := HB3.out.trans (ba.mono HB3.out.size)
      have HBW := hide bwr
      clear bwr
      go_wp2_with fail
      refine (drawPlaces_any a len cap _ (code_later HCODE.out HBW.out)).mono ?_
      rintro e wp ⟨vp, pk, rfl, hpl, hpz, hpo, bp⟩
      have hpo2 : wp.ownsRow wr.heap.size 3 1 vp pk.length (flat intE pk) := by rw [flat_int, hpl]; exact hpo
      obtain ⟨pa, pc, rfl⟩ := owns_lenS hpo2
      have HPK := hide (fun W (hb : Below wp.heap.size wp W) => (hops_of hpo2).then hb)
      have hbp := bp.size
      have bw3p : Below w3.heap.size w3 wp := ba.trans (bp.mono hba)
      have HTP := hide (HTB.out.below bp (Nat.le_refl _))
      have HBWP := hide (HBW.out.trans (bp.mono HBW.out.size))
      have hw3p := bw3p.size
      have hltot : totLL tb ≤ 1048576 := Nat.le_trans (tabs_tot HTN.out HSTO.out) (by omega)
      have HWK := hide (fun (f z : Int) W (hb : Below wp.heap.size wp W) => iwalk_any (.slice ta tb.length tc) (.slice pa pk.length pc) tb f z pk W ((HTP.out.below hb hbp).at.more (by have := hb.size; omega)) hltot (HPK.out W hb))
      clear hpl hpz hpo hpo2 HTN HTB bp BA HXA n0 ba HBW hlv hlv' hltot HTP
      go_wp2
      go_loopw [11] (fun i wr => ∃ v : Nat, 1 ≤ v ∧ v ≤ N + 1 ∧ i = .int .i64 (v : Int) ∧ Below wp.heap.size wp wr) (fun i _ => 8 - (intOf i).toNat)
      case atStart => exact ⟨1, by omega, by omega, rfl, Below.refl _ _⟩
      case round =>
        clear hv1 hvN
        obtain ⟨v, hv1, hvN, rfl, bq⟩ := hrel
        have ba : Below w3.heap.size w3 wr := bw3p.trans (bq.mono hw3p)
        have hxa := (ba.block _ (lt_of_heap HX3.out)).trans HX3.out
        have n0 := cells_at hxa 0
        simp only [List.getElem?_toArray, List.getElem?_cons_succ, List.getElem?_cons_zero] at n0
        have hba := ba.size
        have hbq := bq.size
        have HXA := hide hxa
        have BA := hide (show Below w3.heap.size w3 wr.drew from ba.drew)
        clear hxa
        by_cases hlv : v ≤ N
        · have hlv' : (v : Int) ≤ (N : Int) := by omega
          go_wp2
          refine wp_region_noPanic ?_
          refine wp_region_start (S := (fun W => W.heap[w1.heap.size]? = some (.cells #[.int .i64 (N : Int), .slice a1 ls.length c1, .slice a2 ts.length c2] 27))) (by kernel_rfl) 10 rfl HXA.out (fun ops hops HSW => ?_)
          refine take_do 0 (oi := ?_) (v := ?_) ?_ (by rw [hops.out]; kernel_rfl) ?_ ?_ ?_ HSW ?_
          rotate_left 2
          · rw [hops.out]; simp only [List.getElem?_toArray, List.getElem?_cons_succ, List.getElem?_cons_zero]; rfl
          · rw [hops.out]; kernel_rfl
          · intro W hW; (try dsimp only at hW); go_simp <;> with_reducible rfl
          · exact fun _ _ _ h => h
          try simp only [Act.put, List.setIfInBounds_toArray, List.set_cons_zero, List.set_cons_succ]
          refine take_do 1 (oi := ?_) (v := ?_) ?_ (by rw [hops.out]; kernel_rfl) ?_ ?_ ?_ HSW ?_
          rotate_left 2
          · rw [hops.out]; simp only [List.getElem?_toArray, List.getElem?_cons_succ, List.getElem?_cons_zero]; rfl
          · rw [hops.out]; kernel_rfl
          · intro W hW; refine exec_load_row 27 (.tmp 3) ?_ w1.heap.size ?_ 27 _ (0, 0) _ hW Try.underlying27 rfl (by kernel_rfl) <;> rfl
          · exact fun _ _ _ h => h
          try simp only [Act.put, List.setIfInBounds_toArray, List.set_cons_zero, List.set_cons_succ]
          refine take_do 2 (oi := ?_) (v := ?_) ?_ (by rw [hops.out]; kernel_rfl) ?_ ?_ ?_ HSW ?_
          rotate_left 2
          · rw [hops.out]; simp only [List.getElem?_toArray, List.getElem?_cons_succ, List.getElem?_cons_zero]; rfl
          · rw [hops.out]; kernel_rfl
          · intro W hW; (try dsimp only at hW); go_simp <;> with_reducible rfl
          · exact fun _ _ _ h => h
          try simp only [Act.put, List.setIfInBounds_toArray, List.set_cons_zero, List.set_cons_succ]
          refine take_do 4 (oi := ?_) (v := ?_) ?_ (by rw [hops.out]; kernel_rfl) ?_ ?_ ?_ HSW ?_
          rotate_left 2
          · rw [hops.out]; simp only [List.getElem?_toArray, List.getElem?_cons_succ, List.getElem?_cons_zero]; rfl
          · rw [hops.out]; kernel_rfl
          · intro W hW; refine exec_load_row 27 (.tmp 3) ?_ w1.heap.size ?_ 27 _ (0, 0) _ hW Try.underlying27 rfl (by kernel_rfl) <;> rfl
          · exact fun _ _ _ h => h
          try simp only [Act.put, List.setIfInBounds_toArray, List.set_cons_zero, List.set_cons_succ]
          refine take_do 5 (oi := ?_) (v := ?_) ?_ (by rw [hops.out]; kernel_rfl) ?_ ?_ ?_ HSW ?_
          rotate_left 2
          · rw [hops.out]; simp only [List.getElem?_toArray, List.getElem?_cons_succ, List.getElem?_cons_zero]; rfl
          · rw [hops.out]; kernel_rfl
          · intro W hW; (try dsimp only at hW); go_simp <;> with_reducible rfl
          · exact fun _ _ _ h => h
          try simp only [Act.put, List.setIfInBounds_toArray, List.set_cons_zero, List.set_cons_succ]
          refine take_do 7 (oi := ?_) (v := ?_) ?_ (by rw [hops.out]; kernel_rfl) ?_ ?_ ?_ HSW ?_
          rotate_left 2
          · rw [hops.out]; simp only [List.getElem?_toArray, List.getElem?_cons_succ, List.getElem?_cons_zero]; rfl
          · rw [hops.out]; kernel_rfl
          · intro W hW; (try dsimp only at hW); go_simp <;> with_reducible rfl
          · exact fun _ _ _ h => h
          try simp only [Act.put, List.setIfInBounds_toArray, List.set_cons_zero, List.set_cons_succ]
          refine take_call 3 (oi := ?_) ?_ (by rw [hops.out]; kernel_rfl) ?_ ?_
          rotate_left 1
          · rw [hops.out]; simp only [List.getElem?_toArray, List.getElem?_cons_succ, List.getElem?_cons_zero]; rfl
          · rw [hops.out]; kernel_rfl
          intro K hK
          go_simp
          refine (HAR.out (v : Int) wr.drew BA.out).mono ?_
          rintro e w4 ⟨u, rfl, hu, b4⟩
          obtain ⟨al, HAL⟩ : ∃ al, Hid (al = areasL ls (v : Int)) := ⟨_, hide rfl⟩
          rw [← HAL.out] at hu
          have hal3 : al.length ≤ 3 := by rw [HAL.out]; exact areasL_len ls _
          obtain ⟨ua, uc, rfl⟩ := owns_lenS hu
          rw [← flat_int] at hu
          have hb4 := b4.size
          have HS4 := (b4.block _ (lt_of_heap HXA.out)).trans HXA.out
          have B4 := BA.out.trans (b4.mono BA.out.size)
          have HU4 := hide (hops_of hu)
          have hs4 := B4.size
          refine hK.out _ _ HS4 (fun _ => ?_)
          clear hK hu
          try simp only [Act.put, List.setIfInBounds_toArray, List.set_cons_zero, List.set_cons_succ]
          refine take_call 6 (oi := ?_) ?_ (by rw [hops.out]; kernel_rfl) ?_ ?_
          rotate_left 1
          · rw [hops.out]; simp only [List.getElem?_toArray, List.getElem?_cons_succ, List.getElem?_cons_zero]; rfl
          · rw [hops.out]; kernel_rfl
          intro K hK
          go_simp
          refine (HBO.out (v : Int) w4 B4).mono ?_
          rintro e w5 ⟨rfl, b5⟩
          obtain ⟨bo, HBD⟩ : ∃ bo, Hid (bo = bordB ls (v : Int)) := ⟨_, hide rfl⟩
          rw [← HBD.out]
          have hb5 := b5.size
          have HS5 := (b5.block _ (lt_of_heap HS4)).trans HS4
          have B5 := B4.trans (b5.mono hs4)
          have HU5 := hide (RowAt.later HU4.out b5 (Nat.le_refl _))
          have hs5 := B5.size
          refine hK.out _ _ HS5 (fun _ => ?_)
          clear hK
          try simp only [Act.put, List.setIfInBounds_toArray, List.set_cons_zero, List.set_cons_succ]
          refine take_call 8 (oi := ?_) ?_ (by rw [hops.out]; kernel_rfl) ?_ ?_
          rotate_left 1
          · rw [hops.out]; simp only [List.getElem?_toArray, List.getElem?_cons_succ, List.getElem?_cons_zero]; rfl
          · rw [hops.out]; kernel_rfl
          intro K hK
          go_simp
          refine (HRS.out _ al w4.heap.size bo (v : Int) w5 B5 HU5.out hs4 hb5 (by omega)).mono ?_
          rintro e w6 ⟨vl, ql, rfl, hir, hol, b6⟩
          rw [HAL.out, HBD.out] at hir
          obtain ⟨qla, qlc, rfl⟩ := owns_lenS hol.row
          have hb6 := b6.size
          have HS6 := (b6.block _ (lt_of_heap HS5)).trans HS5
          have B6 := B5.trans (b6.mono hs5)
          have hs6 := B6.size
          have hqt : totQ ql ≤ 1048576 := by rw [totQ_D]; exact Nat.le_trans (routes_tot hir HSTO.out) (by omega)
          have HIR := hide hir
          have HOL := hide hol
          clear hir hol
          refine hK.out _ _ HS6 (fun _ => ?_)
          clear hK
          try simp only [Act.put, List.setIfInBounds_toArray, List.set_cons_zero, List.set_cons_succ]
          refine take_do 9 (oi := ?_) (v := ?_) ?_ (by rw [hops.out]; kernel_rfl) ?_ ?_ ?_ HS6 ?_
          rotate_left 2
          · rw [hops.out]; simp only [List.getElem?_toArray, List.getElem?_cons_succ, List.getElem?_cons_zero]; rfl
          · rw [hops.out]; kernel_rfl
          · intro W hW; (try dsimp only at hW); go_simp <;> with_reducible rfl
          · exact fun _ _ _ h => h
          try simp only [Act.put, List.setIfInBounds_toArray, List.set_cons_zero, List.set_cons_succ]
          refine wpAnyH_done (by rw [hops.out]; kernel_rfl) (NoPanic.normal ?_) _
          clear hops ops
          have HOL6 := hide HOL.out
          have hqll := totQ_len ql
          have bq6 : Below wp.heap.size wp w6 := bq.trans (((Below.refl wr.heap.size wr).drew.trans (b4.trans ((b5.trans (b6.mono hb5)).mono hb4))).mono hbq)
          have hbq6 := bq6.size
          clear HU4 HU5 B4 B5 B6 b4 b5 b6 HS4 HS5 HS6 HSW HXA BA n0 HAL HBD
          go_wp2
          go_loopw [13] (fun i wr2 => ∃ k : Nat, k ≤ ql.length ∧ i = .int .i64 (k : Int) ∧ Below w6.heap.size w6 wr2) (fun i _ => ql.length - (intOf i).toNat)
          case atStart => exact ⟨0, by omega, rfl, Below.refl _ _⟩
          case round =>
            obtain ⟨k, hk, rfl, bk⟩ := hrel
            rename World => wk
            have hbk := bk.size
            by_cases hlt : k < ql.length
            · obtain ⟨p, hp⟩ : ∃ p, ql[k]? = some p := ⟨ql[k], List.getElem?_eq_getElem hlt⟩
              obtain ⟨b, off, cp, hve, hbb, d0, d1, d2, d3, d4, d5, _⟩ := HOL6.out.at.cells k p hp
              cases hve
              rw [← bk.cell (p := ⟨b, off + k * 6 + 1, none⟩) hbb] at d1
              rw [← bk.cell (p := ⟨b, off + k * 6 + 2, none⟩) hbb] at d2
              have hki : (0 : Int) ≤ (k : Int) := by omega
              have hkj : (k : Int) < (ql.length : Int) := by omega
              have hpm : p.1 ∈ fstsQ ql := List.mem_of_getElem? (fstsQ_at hp)
              clear d0 d3 d4 d5 hp
              by_cases hk1 : p.1.kind = 1
              · have hd : (p.1.kind != 1) = false := by rw [hk1]; rfl
                obtain ⟨hwb, rest, hrn, hwd, hrl⟩ := walks_ok HTA.out HSTO.out HHM.out hN6 pk hv1 hlv HIR.out hpm hk1
                have hrlen : 0 < rest.length := List.length_pos_iff.2 hrn
                have hr13 := walkD_len (datLL tb) (v : Int) p.1.to pk
                rw [hwd] at hr13
                simp only [List.length_cons] at hr13
                have HW1 := HWK.out (v : Int) p.1.to wk (bq6.trans (bk.mono hbq6))
                unfold WalkRes at HW1
                rw [hwb, hwd] at HW1
                have HW2 := hide HW1
                have HRL := hide hrl
                clear HW1 hwb hwd hrn hrl hpm hk1
                go_wp2_with fail
                refine HW2.out.mono ?_
                rintro e w7 ⟨ug, rfl, hog, b7⟩
                obtain ⟨g, gc, rfl, hg1, hgl⟩ := owns_shapeS hog.row (by simp)
                have e0 := hog.row.cellAt 0 (by simp)
                have e1 := hog.row.cellAt rest.length (by simp)
                rw [flat_int] at e0 e1
                have hl1 : (intsOf ((v : Int) :: rest))[rest.length]? = some (.int .i64 p.1.to) := by
                  have h9 := HRL.out
                  rw [List.getLast?_eq_getElem?] at h9
                  obtain ⟨m, hm⟩ : ∃ m, rest.length = m + 1 := ⟨rest.length - 1, by omega⟩
                  rw [hm] at h9 ⊢
                  simp only [intsOf, List.map_cons, List.getElem?_cons_succ, List.getElem?_map]
                  rw [show m + 1 - 1 = m by omega] at h9
                  rw [h9]
                  rfl
                rw [hl1] at e1
                have e0' : w7.cell? ⟨g, 0, none⟩ = some (.int .i64 (v : Int)) := e0
                rw [← b7.cell (p := ⟨b, off + k * 6 + 1, none⟩) (by show b < wk.heap.size; omega)] at d1
                have hln : (List.cons (v : Int) rest).length = rest.length + 1 := rfl
                have hb7 := b7.size
                have q1 : ¬ ((rest.length : Int) + 1 < 2) := by omega
                have q2 : ((v : Int) != (v : Int)) = false := by simp
                have q3 : (p.1.to != p.1.to) = false := by simp
                have q4 : (0 : Int) ≤ (rest.length : Int) := by omega
                have q5 : (rest.length : Int) < (rest.length : Int) + 1 := by omega
                have q6 : IntKind.i64.wrap (rest.length : Int) = (rest.length : Int) := wrap_fit _ (by omega) (by omega)
                have q7 : IntKind.i64.wrap ((rest.length : Int) + 1 - 1) = (rest.length : Int) := by rw [Int.add_sub_cancel]; exact q6
                have BK7 := hide (bk.trans (b7.mono hbk))
                clear e0 hl1 hog HW2 HRL b7 d2
                simp only [List.length_cons]
                go_wp2
                go_quiet (fail)
                go_wp2
                go_roundw
                case rel => exact ⟨k + 1, by omega, by go_num, below_drewN BK7.out _⟩
                case measure => simp [intOf]; omega
              · have hd : (p.1.kind != 1) = true := by simpa using hk1
                clear hk1 hpm
                go_wp2
                go_roundw
                case rel => exact ⟨k + 1, by omega, by go_num, bk⟩
                case measure => simp [intOf]; omega
            · have hkn : ¬ (k : Int) < (ql.length : Int) := by omega
              go_wp2
              go_roundw
              case rel => exact ⟨v + 1, by omega, by omega, by go_num, bq6.trans (bk.mono hbq6)⟩
              case measure => simp [intOf]; omega
        · have hlv' : ¬ (v : Int) ≤ (N : Int) := by omega
          clear BA
          have HW1 := HWK.out 1 1 wr bq
          unfold WalkRes walkB walkD at HW1
          rw [walk_self] at HW1
          simp only [Option.getD_some, Option.isSome_some] at HW1
          have HW2 := hide HW1
          clear HW1
          go_wp2_with fail
          refine HW2.out.mono ?_
          rintro e w7 ⟨ug, rfl, hog, b7⟩
          obtain ⟨g, gc, rfl⟩ := owns_lenS hog.row
          have hb7 := b7.size
          have bq7 := bq.trans (b7.mono hbq)
          have hq7 := bq7.size
          have HG7 := hide hog
          clear hog
          have bE := (Below.refl w7.heap.size w7).alloc (Nat.le_refl _) (.cells #[] 35)
          have LTE := LTs.start w7
          have HNO := iwalk_any (.slice (some ⟨w7.heap.size, 0, none⟩) 0 0) (.slice pa pk.length pc) [] 1 2 pk (w7.alloc (.cells #[] 35)) LTE.at (by simp [totLL]) (HPK.out _ (bq7.trans (bE.mono hq7)))
          unfold WalkRes walkB walkD at HNO
          rw [show datLL [] = [] from rfl, walk_none 1 2 pk (by omega)] at HNO
          simp only [Option.getD_none, Option.isSome_none] at HNO
          have HN2 := hide HNO
          clear HNO LTE
          obtain ⟨WE, hWE⟩ : ∃ WE, WE = w7.alloc (.cells #[] 35) := ⟨_, rfl⟩
          rw [← hWE] at bE HN2
          have HWE := hide hWE
          clear hWE
          go_wp2_with fail
          rw [← HWE.out]
          refine HN2.out.mono ?_
          rintro e w8 ⟨un, rfl, hon, b8⟩
          obtain ⟨n8, n8c, rfl⟩ := owns_lenS hon.row
          have b78 : Below w7.heap.size w7 w8 := bE.trans (b8.mono bE.size)
          have HG8 := hide (HG7.out.below b78 (Nat.le_refl _))
          have hb8 := b78.size
          clear hon
          go_wp2_with fail
          have b9 := (Below.refl w8.heap.size w8).alloc (Nat.le_refl _) (.cells #[.int .i64 1] 3)
          have o9 := walk_row1 w8 w8.heap.size 1 (Nat.le_refl _)
          refine (sameI_any _ _ [1] [1] _ ?_ ?_ (by simp)).mono ?_
          · exact HopsAt.ints (RowAt.more (HG8.out.below b9 (by omega)).at (by have := b9.size; omega))
          · exact ints_of_owns o9
          rw [decide_eq_true rfl]
          rintro e w10 ⟨rfl, b10⟩
          have BFIN := hide (HBWP.out.trans ((bq7.trans ((b78.trans ((b9.trans (b10.mono b9.size)).mono hb8)).mono hq7)).mono HBWP.out.size))
          clear b9 o9 b10 HG8 HG7 bE b8 HN2 HW2
          go_wp2
          go_ret
          exact ⟨rfl, BFIN.out⟩
end Go.Proofs.Ytbknmgobmnjphaa
