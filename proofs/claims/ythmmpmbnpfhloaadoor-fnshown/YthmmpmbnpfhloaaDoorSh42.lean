/-
  spec.l11Routes: routes of a drawn net.
  spec.DrawShowRoute: some route of a drawn net, or a fixed one.
-/
import Derived.Test.YthmmpmbnpfhloaaDoorSh41
namespace Go.Proofs.YthmmpmbnpfhloaaDoor
open Go.RowKit
set_option linter.unusedSimpArgs false
set_option linter.unusedVariables false

theorem netOkI_thL {x : NetD} (h : netOkI x = true) : ∀ t ∈ x.ts, 1 ≤ t.o ∧ t.o ≤ x.n := by
  simp only [netOkI, Bool.and_eq_true] at h
  intro t ht
  have := okT_of h.2 t ht
  simp only [thOkB, inB, Bool.and_eq_true, decide_eq_true_eq] at this
  omega

/-- a draw under way: V was, the blocks below z stay, but the cursor's -/
structure LSt (w V W : World) (p z : Nat) (a : Option Addr) (len cap : Nat) : Prop where
  cur : Cur W p a len cap
  bel : Below p w W
  kept : ∀ b, b < z → b ≠ p → W.heap[b]? = V.heap[b]?
  size : z ≤ W.heap.size
  lt : p < w.heap.size

theorem LSt.grown {w V W W' : World} {p z : Nat} {a : Option Addr} {len cap : Nat} (h : LSt w V W p z a len cap) (hc : Cur W' p a len cap) (hg : W.grownBy W' (some p)) : LSt w V W' p z a len cap where
  cur := hc
  bel := h.bel.grown hg (by have := h.bel.size; have := h.lt; omega) (fun k hk => by simp at hk; omega)
  kept := fun b hb hbp => by rw [hg.block b (by have := h.size; omega) (by simp; exact hbp)]; exact h.kept b hb hbp
  size := Nat.le_trans h.size hg.size
  lt := h.lt

theorem LSt.drew {w V W : World} {p z : Nat} {a : Option Addr} {len cap : Nat} (h : LSt w V W p z a len cap) : LSt w V W.drew p z a len cap :=
  ⟨h.cur, h.bel.drew, h.kept, h.size, h.lt⟩

theorem LSt.set {w V W : World} {p z : Nat} {a : Option Addr} {len cap : Nat} (h : LSt w V W p z a len cap) (g i : Nat) (v : Value) (hz : z ≤ g) (hp : p < z) : LSt w V (W.setCell ⟨g, i, none⟩ v) p z a len cap where
  cur := h.cur.grown (grown_set W g i v) (fun b hb => by simp; omega)
  bel := h.bel.grown (grown_set W g i v) (by have := h.bel.size; have := h.lt; omega) (fun k hk => by simp at hk; omega)
  kept := fun b hb hbp => by rw [(grown_set W g i v).block b (by have := h.size; omega) (by simp; omega)]; exact h.kept b hb hbp
  size := by have := h.size; simp; omega
  lt := h.lt

theorem LSt.below {w V W W' : World} {p z : Nat} {a : Option Addr} {len cap : Nat} (h : LSt w V W p z a len cap) (hb : Below W.heap.size W W') : LSt w V W' p z a len cap where
  cur := h.cur.grown (row := none) ⟨hb.os, hb.tape, hb.output, hb.size, fun k hk _ => hb.block k hk⟩ (fun b hb => by simp)
  bel := h.bel.trans (hb.mono (by have := h.bel.size; have := h.lt; omega))
  kept := fun b hb' hbp => by rw [hb.block b (by have := h.size; omega)]; exact h.kept b hb' hbp
  size := Nat.le_trans h.size hb.size
  lt := h.lt

/-- rows of routes, each of small numbers, their hops in blocks from lo on -/
structure RtsG (W : World) (lo : Nat) (v : Value) (qs : List QP) : Prop where
  row : StructsAt encQ 6 W v qs W.heap.size
  nears : ∀ q ∈ qs, RHopOwn W lo W.heap.size q
  off : ∀ k, v.ownBlock = some k → lo ≤ k
  len : qs.length ≤ 1000
  wf : ∀ q ∈ qs, RtWf q.1 ∧ q.1.hops.length ≤ 6

theorem rowA_bools {W : World} {z n : Nat} {f : Nat → Bool} (h : W.heap[z]? = some (.cells (rowA (fun j => .bool (f j)) n) 4)) : BoolsAt W (.slice (some ⟨z, 0, none⟩) n n) ((List.range n).map f) W.heap.size := by
  have hn : ((List.range n).map f).length = n := by simp
  unfold BoolsAt StructsAt RowAt
  rw [hn]
  refine ⟨_, n, rfl, ?_⟩
  by_cases h0 : n = 0
  · exact .inl h0
  · refine .inr ⟨z, 0, rfl, lt_of_heap h, fun j hj => ?_⟩
    have hj' : j < n := by omega
    rw [Nat.zero_add, rowA_cell h hj']
    have hd : (flat blE ((List.range n).map f))[j]? = some (.bool (f j)) := by
      have := flat_get (enc := blE) (sz := 1) blE_len ((List.range n).map f) j 0 (f j) (by simp [hj']) (by omega)
      simpa [blE] using this
    simp [List.getD_eq_getElem?_getD, hd]

set_option maxRecDepth 100000 in
set_option maxHeartbeats 8000000 in
theorem l11_any (p : Nat) (a : Option Addr) (len cap : Nat) (w : World) (hc : Cur w p a len cap) :
    Calls Tryd.prog 10 #[.pointer (some ⟨p, 0, none⟩)] w fun e w' => ∃ x qs, e = .returned x ∧ RtsG w' w.heap.size x qs ∧ Cur w' p a len cap ∧ Below p w w' := by
  have HC := hide hc
  have hpw := lt_of_cur hc
  clear hc
  go_enter Tryd.func10, Tryd.ntmps10
  go_wp2_with fail
  refine (net_fine p a len cap _ HC.out).mono ?_
  rintro e w1 ⟨x, v1, v2, rfl, hok, o1, o2, hc1, b1, g1⟩
  obtain ⟨a1, c1, rfl⟩ := LinksAt.shape (owns_rowAt o1)
  obtain ⟨a2, c2, rfl⟩ := ThingsAt.shape (owns_rowAt o2)
  have hth := netOkI_thL hok
  have hn6 := netOkI_n hok
  have hl12 := netOkI_l hok
  obtain ⟨n, ls, ts⟩ := x
  simp only [] at hth hn6 hl12 o1 o2 hok ⊢
  obtain ⟨N, rfl⟩ : ∃ N : Nat, n = (N : Int) := ⟨n.toNat, by omega⟩
  obtain ⟨hl12, ht4⟩ := hl12
  have hs1 := b1.size
  have hsw := g1.size
  obtain ⟨zn, hzn⟩ : ∃ zn, zn = w1.heap.size := ⟨_, rfl⟩
  obtain ⟨W4, hW4⟩ : ∃ W4, W4 = ((w1.alloc (.cells #[.int .i64 (N : Int), .slice a1 ls.length c1, .slice a2 ts.length c2] 45)).alloc (.cells (rowA (fun _ => .bool false) ls.length) 4)).alloc (.cells (rowA (fun _ => .bool false) N) 4) := ⟨_, rfl⟩
  have hx0 := heap3_0 w1 (.cells #[.int .i64 (N : Int), .slice a1 ls.length c1, .slice a2 ts.length c2] 45) (.cells (rowA (fun _ => .bool false) ls.length) 4) (.cells (rowA (fun _ => .bool false) N) 4)
  have hx1 := heap3_1 w1 (.cells #[.int .i64 (N : Int), .slice a1 ls.length c1, .slice a2 ts.length c2] 45) (.cells (rowA (fun _ => .bool false) ls.length) 4) (.cells (rowA (fun _ => .bool false) N) 4)
  have hx2 := heap3_2 w1 (.cells #[.int .i64 (N : Int), .slice a1 ls.length c1, .slice a2 ts.length c2] 45) (.cells (rowA (fun _ => .bool false) ls.length) 4) (.cells (rowA (fun _ => .bool false) N) 4)
  have hsz : W4.heap.size = w1.heap.size + 3 := by rw [hW4]; simp
  rw [← hW4, ← hzn] at hx0 hx1 hx2
  have st0 : LSt w w1 W4 p zn a len cap := by
    rw [hW4]
    refine ⟨cur_alloc (cur_alloc (cur_alloc hc1 _) _) _, (((b1.alloc (by omega) _).alloc (by simp; omega) _).alloc (by simp; omega) _), fun b hb hbp => ?_, by simp; omega, hpw⟩
    rw [Below.heap_alloc _ _ _ (by simp; omega), Below.heap_alloc _ _ _ (by simp; omega), Below.heap_alloc _ _ _ (by omega)]
  have NET0 := hide hx0
  have ROW1 := hide hx1
  have ROW2 := hide hx2
  have ST0 := hide st0
  have O1 := hide o1
  have O2 := hide o2
  have HOK := hide hok
  have HTH := hide hth
  have HW4 := hide hW4
  have HZN := hide hzn
  have hzs : zn + 3 = W4.heap.size := by omega
  have HZS := hide hzs
  have hpz : p < zn := by omega
  have hwz : w.heap.size ≤ zn := by omega
  have hpz1 : ¬ p = zn := by omega
  have hpz2 : ¬ p = zn + 1 := by omega
  have hpz3 : ¬ p = zn + 1 + 1 := by omega
  clear hx0 hx1 hx2 st0 o1 o2 hok hth hc1 b1 g1 hs1 hsw hsz
  clear hW4 hzn hzs
  go_wp2_with (first | (at_make; first | refine wpList_make_rowA _ rfl _ _ 47 rfl 4 (.bool false) 1 Tryd.underlying47 Tryd.infoBl rfl ls.length rfl rfl (by omega) (by omega) ?_ | refine wpList_make_rowA _ rfl _ _ 47 rfl 4 (.bool false) 1 Tryd.underlying47 Tryd.infoBl rfl N rfl rfl (by omega) (by omega) ?_))
  rw [← HW4.out, ← HZN.out]
  go_loopw [6] (fun i wr => ∃ (k : Nat) (f : Nat → Bool), k ≤ ls.length ∧ i = .int .i64 k ∧ wr.heap[zn + 1]? = some (.cells (rowA (fun j => .bool (f j)) ls.length) 4) ∧ wr.heap[zn + 1 + 1]? = some (.cells (rowA (fun _ => .bool false) N) 4) ∧ wr.heap[zn]? = some (.cells #[.int .i64 (N : Int), .slice a1 ls.length c1, .slice a2 ts.length c2] 45) ∧ LSt w w1 wr p zn a len cap) (fun i _ => ls.length - (intOf i).toNat)
  case atStart => exact ⟨0, fun _ => false, by omega, rfl, ROW1.out, ROW2.out, NET0.out, ST0.out⟩
  case round =>
    obtain ⟨k, f, hk, rfl, r1, r2, rn, st⟩ := hrel
    by_cases hlt : k < ls.length
    · have hki : (0 : Int) ≤ (k : Int) := by omega
      have hkj : (k : Int) < (ls.length : Int) := by omega
      have R1 := hide r1
      have R2 := hide r2
      have RN := hide rn
      have ST := hide st
      clear r1 r2 rn st
      go_wp2_with fail
      refine (once_any p a len cap 8 _ ST.out.cur (by omega) (by omega)).mono ?_
      rintro e w5 ⟨b, rfl, hc5, g5⟩
      have r15 := (g5.block (zn + 1) (lt_of_heap R1.out) (by simp; omega)).trans R1.out
      have cc15 := rowA_cell r15 hlt
      have h15 := lt_of_heap r15
      have f15 := frozen_at r15
      have R15 := hide r15
      have R25 := hide ((g5.block (zn + 1 + 1) (lt_of_heap R2.out) (by simp; omega)).trans R2.out)
      have RN5 := hide ((g5.block zn (lt_of_heap RN.out) (by simp; omega)).trans RN.out)
      have ST5 := hide (ST.out.grown hc5 g5)
      clear r15 hc5 g5 R1 R2 RN ST
      go_wp2
      have R16 := hide (show (w5.setCell ⟨zn + 1, k, none⟩ (.bool (!b))).heap[zn + 1]? = some (.cells (rowA (fun j => .bool (if j = k then !b else f j)) ls.length) 4) by
        have h := rowA_put R15.out (i := k) (.bool (!b))
        have e : (fun j => if j = k then Value.bool (!b) else .bool (f j)) = fun j => Value.bool (if j = k then !b else f j) := by funext j; split <;> rfl
        rw [e] at h
        exact h)
      have R26 := hide (((grown_set w5 (zn + 1) k (.bool (!b))).block (zn + 1 + 1) (lt_of_heap R25.out) (by simp)).trans R25.out)
      have RN6 := hide (((grown_set w5 (zn + 1) k (.bool (!b))).block zn (lt_of_heap RN5.out) (by simp; try omega)).trans RN5.out)
      have ST6 := hide (ST5.out.set (zn + 1) k (.bool (!b)) (by omega) hpz)
      go_roundw
      case rel => exact ⟨k + 1, _, by omega, by go_num, R16.out, R26.out, RN6.out, ST6.out⟩
      case measure => simp [intOf]; omega
    · have hkn : ¬ (k : Int) < (ls.length : Int) := by omega
      have R1 := hide r1
      have R2 := hide r2
      have RN := hide rn
      have ST := hide st
      clear r1 r2 rn st
      go_wp2
      go_loopw [7] (fun i wr => ∃ (k : Nat), k ≤ N ∧ i = .int .i64 k ∧ wr.heap[zn + 1]? = some (.cells (rowA (fun j => .bool (f j)) ls.length) 4) ∧ wr.heap[zn + 1 + 1]? = some (.cells (rowA (fun j => .bool (decide (j < k))) N) 4) ∧ wr.heap[zn]? = some (.cells #[.int .i64 (N : Int), .slice a1 ls.length c1, .slice a2 ts.length c2] 45) ∧ LSt w w1 wr p zn a len cap) (fun i _ => N - (intOf i).toNat)
      case atStart => exact ⟨0, by omega, rfl, R1.out, by simpa using R2.out, RN.out, ST.out⟩
      case round =>
        clear R1 R2 RN ST
        obtain ⟨k, hk, rfl, r1, r2, rn, st⟩ := hrel
        by_cases hlt : k < N
        · have hki : (0 : Int) ≤ (k : Int) := by omega
          have hkj : (k : Int) < (N : Int) := by omega
          have cc2 := rowA_cell r2 hlt
          have h2 := lt_of_heap r2
          have f2 := frozen_at r2
          have R1 := hide r1
          have R2 := hide r2
          have RN := hide rn
          have ST := hide st
          clear r1 r2 rn st
          go_wp2
          have R26 := hide (show (wr.setCell ⟨zn + 1 + 1, k, none⟩ (.bool true)).heap[zn + 1 + 1]? = some (.cells (rowA (fun j => .bool (decide (j < k + 1))) N) 4) by
            have h := rowA_put R2.out (i := k) (.bool true)
            have e : (fun j => if j = k then Value.bool true else .bool (decide (j < k))) = fun j => Value.bool (decide (j < k + 1)) := by
              funext j
              split
              · rename_i h; subst h; simp
              · rename_i h; congr 1; simp; omega
            rw [e] at h
            exact h)
          have R16 := hide (((grown_set wr (zn + 1 + 1) k (.bool true)).block (zn + 1) (lt_of_heap R1.out) (by simp)).trans R1.out)
          have RN6 := hide (((grown_set wr (zn + 1 + 1) k (.bool true)).block zn (lt_of_heap RN.out) (by simp; try omega)).trans RN.out)
          have ST6 := hide (ST.out.set (zn + 1 + 1) k (.bool true) (by omega) hpz)
          go_roundw
          case rel => exact ⟨k + 1, by omega, by go_num, R16.out, R26.out, RN6.out, ST6.out⟩
          case measure => simp [intOf]; omega
        · have hkn : ¬ (k : Int) < (N : Int) := by omega
          have r2' : wr.heap[zn + 1 + 1]? = some (.cells (rowA (fun _ => .bool true) N) 4) := by
            rw [r2]
            congr 2
            exact rowA_congr (fun i hi => by simp; omega)
          have R1R := hide r1
          have R2R := hide r2'
          have STR := hide st
          have s0 := cells_at rn 0
          have s1 := cells_at rn 1
          have s2 := cells_at rn 2
          simp only [List.getElem?_toArray, List.getElem?_cons_succ, List.getElem?_cons_zero] at s0 s1 s2
          have RN := hide rn
          have HCD := hide (show Cur wr.drew p a len cap from st.cur)
          obtain ⟨bs, hbs⟩ : ∃ bs, bs = (List.range ls.length).map f := ⟨_, rfl⟩
          have hbl : bs.length = ls.length := by rw [hbs]; simp
          have HTR := hide (fun W (st : LSt w w1 W p zn a len cap) (r1 : W.heap[zn + 1]? = some (.cells (rowA (fun j => .bool (f j)) ls.length) 4)) (r2 : W.heap[zn + 1 + 1]? = some (.cells (rowA (fun _ => .bool true) N) 4)) m (hm : m < N) => strue_any (.slice a1 ls.length c1) (.slice a2 ts.length c2) (.slice (some ⟨zn + 1, 0, none⟩) ls.length ls.length) (.slice (some ⟨zn + 1 + 1, 0, none⟩) N N) N m ls ts bs (List.replicate N true) W HOK.out (by omega) (by omega) hl12 ht4 HTH.out
            (by
              have h := O1.out
              exact owns_rowAt (owns_keepB h (fun k hk => st.kept k (by rw [HZN.out]; exact (h.lt k hk).2) (by have := (h.lt k hk).1; omega))))
            (by
              have h := O2.out
              exact owns_rowAt (owns_keepB h (fun k hk => st.kept k (by rw [HZN.out]; exact (h.lt k hk).2) (by have := (h.lt k hk).1; omega))))
            (by have h := rowA_bools r1; rw [← hbs] at h; exact h)
            (by have h := rowA_bools (f := fun _ => true) r2; rw [List.map_const', List.length_range] at h; exact h)
            hbl (by simp) hm (by rw [List.getElem?_replicate, if_pos hm]))
          have HBS := hide hbs
          have hznr := STR.out.size
          have hznl : zn < wr.heap.size := lt_of_heap rn
          clear r1 r2 r2' rn st hbs hlt
          go_wp2
          refine wp_region_start (S := (fun (W : World) => W.cell? ⟨zn, 0, none⟩ = some (.int .i64 (N : Int)) ∧ W.cell? ⟨zn, 1, none⟩ = some (.slice a1 ls.length c1) ∧ W.cell? ⟨zn, 2, none⟩ = some (.slice a2 ts.length c2))) (by kernel_rfl) 10 rfl ⟨s0, s1, s2⟩ (fun ops hops hHeld => ?_)
          refine take_do 0 (oi := ?_) (v := ?_) ?_ (by rw [hops.out]; kernel_rfl) ?_ ?_ ?_ (by assumption) ?_
          rotate_left 2
          · rw [hops.out]; simp only [List.getElem?_toArray, List.getElem?_cons_succ, List.getElem?_cons_zero]; rfl
          · rw [hops.out]; kernel_rfl
          · intro W hW; (try dsimp only at hW); go_simp <;> with_reducible rfl
          · exact fun _ _ _ h => h
          try simp only [Act.put, List.setIfInBounds_toArray, List.set_cons_zero, List.set_cons_succ]
          refine take_do 1 (oi := ?_) (v := ?_) ?_ (by rw [hops.out]; kernel_rfl) ?_ ?_ ?_ (by assumption) ?_
          rotate_left 2
          · rw [hops.out]; simp only [List.getElem?_toArray, List.getElem?_cons_succ, List.getElem?_cons_zero]; rfl
          · rw [hops.out]; kernel_rfl
          · intro W hW; (try dsimp only at hW); go_simp <;> with_reducible rfl
          · exact fun _ _ _ h => h
          try simp only [Act.put, List.setIfInBounds_toArray, List.set_cons_zero, List.set_cons_succ]
          refine take_do 2 (oi := ?_) (v := ?_) ?_ (by rw [hops.out]; kernel_rfl) ?_ ?_ ?_ (by assumption) ?_
          rotate_left 2
          · rw [hops.out]; simp only [List.getElem?_toArray, List.getElem?_cons_succ, List.getElem?_cons_zero]; rfl
          · rw [hops.out]; kernel_rfl
          · intro W hW; (try dsimp only at hW); go_simp <;> with_reducible rfl
          · exact fun _ _ _ h => h
          try simp only [Act.put, List.setIfInBounds_toArray, List.set_cons_zero, List.set_cons_succ]
          refine take_do 3 (oi := ?_) (v := ?_) ?_ (by rw [hops.out]; kernel_rfl) ?_ ?_ ?_ (by assumption) ?_
          rotate_left 2
          · rw [hops.out]; simp only [List.getElem?_toArray, List.getElem?_cons_succ, List.getElem?_cons_zero]; rfl
          · rw [hops.out]; kernel_rfl
          · intro W hW; (try dsimp only at hW); go_simp <;> with_reducible rfl
          · exact fun _ _ _ h => h
          try simp only [Act.put, List.setIfInBounds_toArray, List.set_cons_zero, List.set_cons_succ]
          refine take_do 4 (oi := ?_) (v := ?_) ?_ (by rw [hops.out]; kernel_rfl) ?_ ?_ ?_ (by assumption) ?_
          rotate_left 2
          · rw [hops.out]; simp only [List.getElem?_toArray, List.getElem?_cons_succ, List.getElem?_cons_zero]; rfl
          · rw [hops.out]; kernel_rfl
          · intro W hW; (try dsimp only at hW); go_simp <;> with_reducible rfl
          · exact fun _ _ _ h => h
          try simp only [Act.put, List.setIfInBounds_toArray, List.set_cons_zero, List.set_cons_succ]
          refine take_do 5 (oi := ?_) (v := ?_) ?_ (by rw [hops.out]; kernel_rfl) ?_ ?_ ?_ (by assumption) ?_
          rotate_left 2
          · rw [hops.out]; simp only [List.getElem?_toArray, List.getElem?_cons_succ, List.getElem?_cons_zero]; rfl
          · rw [hops.out]; kernel_rfl
          · intro W hW; (try dsimp only at hW); go_simp <;> with_reducible rfl
          · exact fun _ _ _ h => h
          try simp only [Act.put, List.setIfInBounds_toArray, List.set_cons_zero, List.set_cons_succ]
          refine take_call 6 (oi := ?_) ?_ (by rw [hops.out]; kernel_rfl) ?_ ?_
          rotate_left 1
          · rw [hops.out]; simp only [List.getElem?_toArray, List.getElem?_cons_succ, List.getElem?_cons_zero]; rfl
          · rw [hops.out]; kernel_rfl
          intro K hK
          go_simp
          refine (below_any p a len cap (N : Int) _ HCD.out (by omega) (by omega)).mono ?_
          rintro e wa ⟨r, rfl, hr0, hr1, hca, ga⟩
          obtain ⟨m, hm⟩ : ∃ m : Nat, r = (m : Int) := ⟨r.toNat, by omega⟩
          subst hm
          refine hK.out _ _ ?_ (fun hHeld => ?_)
          · obtain ⟨m0, m1, m2⟩ := hHeld
            exact ⟨(ga.cell m0 (by simp; omega)), (ga.cell m1 (by simp; omega)), (ga.cell m2 (by simp; omega))⟩
          clear hK K
          try simp only [Act.put, List.setIfInBounds_toArray, List.set_cons_zero, List.set_cons_succ]
          have hmN : m < N := by omega
          have hwr : IntKind.i64.wrap ((m : Int) + 1) = (m : Int) + 1 := by rw [IntKind.wrap_i64]; omega
          have hzna : zn < wa.heap.size := Nat.lt_of_lt_of_le hznl ga.size
          have STA := hide ((STR.out.drew).grown hca ga)
          have R1A := hide ((ga.block (zn + 1) (lt_of_heap R1R.out) (by simp; omega)).trans R1R.out)
          have R2A := hide ((ga.block (zn + 1 + 1) (lt_of_heap R2R.out) (by simp; omega)).trans R2R.out)
          refine take_do 7 (oi := ?_) (v := .int .i64 ((m : Int) + 1)) ?_ (by rw [hops.out]; kernel_rfl) ?_ ?_ ?_ (by assumption) ?_
          rotate_left 1
          · rw [hops.out]; simp only [List.getElem?_toArray, List.getElem?_cons_succ, List.getElem?_cons_zero]; rfl
          · rw [hops.out]; kernel_rfl
          · intro W hW; (try dsimp only at hW); go_simp <;> (first | with_reducible rfl | (rw [Int.add_comm]; exact hwr))
          · exact fun _ _ _ h => h
          try simp only [Act.put, List.setIfInBounds_toArray, List.set_cons_zero, List.set_cons_succ]
          refine take_call 8 (oi := ?_) ?_ (by rw [hops.out]; kernel_rfl) ?_ ?_
          rotate_left 1
          · rw [hops.out]; simp only [List.getElem?_toArray, List.getElem?_cons_succ, List.getElem?_cons_zero]; rfl
          · rw [hops.out]; kernel_rfl
          intro K hK
          go_simp
          refine (HTR.out _ STA.out R1A.out R2A.out m hmN).mono ?_
          rintro e wb ⟨v8, qs, rfl, hir, hrs, bb⟩
          obtain ⟨va, vc, rfl⟩ := owns_lenS hrs.row
          have hzb := STA.out.size
          have HIR := hide hir
          have HRS := hide hrs
          clear hir hrs
          refine hK.out _ _ ?_ (fun hHeld => ?_)
          · obtain ⟨m0, m1, m2⟩ := hHeld
            exact ⟨((bb.cell (by show zn < _; exact hzna)).trans m0), ((bb.cell (by show zn < _; exact hzna)).trans m1), ((bb.cell (by show zn < _; exact hzna)).trans m2)⟩
          clear hK K
          try simp only [Act.put, List.setIfInBounds_toArray, List.set_cons_zero, List.set_cons_succ]
          refine take_do 9 (oi := ?_) (v := ?_) ?_ (by rw [hops.out]; kernel_rfl) ?_ ?_ ?_ (by assumption) ?_
          rotate_left 2
          · rw [hops.out]; simp only [List.getElem?_toArray, List.getElem?_cons_succ, List.getElem?_cons_zero]; rfl
          · rw [hops.out]; kernel_rfl
          · intro W hW; (try dsimp only at hW); go_simp <;> with_reducible rfl
          · exact fun _ _ _ h => h
          try simp only [Act.put, List.setIfInBounds_toArray, List.set_cons_zero, List.set_cons_succ]
          refine wpAnyH_done (by rw [hops.out]; kernel_rfl) ?_ _
          clear hops ops
          have STB := hide (STA.out.below bb)
          have HWF := hide (routes_wf HIR.out (ideal_store HOK.out))
          have htot := routes_tot HIR.out (ideal_store HOK.out)
          rw [← totQ_D] at htot
          have hql := totQ_len qs
          have hq147 : qs.length ≤ 147 := by omega
          clear hql
          have hlo : w.heap.size ≤ wa.heap.size := by have := STA.out.size; omega
          have HRW := hide (show ∀ q ∈ qs, RtWf q.1 ∧ q.1.hops.length ≤ 6 from fun q hq => HWF.out q.1 (List.mem_map_of_mem hq))
          clear s0 s1 s2 hHeld bb HWF htot HIR HTR R1A R2A R1R R2R STR STA RN HCD hca ga
          by_cases h0 : qs.length = 0
          · have h00 : ¬ (0 : Int) < (qs.length : Int) := by omega
            clear h0
            go_wp2
            go_ret
            exact ⟨_, rfl, ⟨qs, HRS.out.at.1, fun q hq => (HRS.out.nears q hq).wide hlo (Nat.le_refl _), fun k hk => Nat.le_trans hlo (HRS.out.row.lt k hk).1, by omega, HRW.out⟩, STB.out.cur, STB.out.bel⟩
          · have h00 : (0 : Int) < (qs.length : Int) := by omega
            go_wp2_with fail
            refine (once_any p a len cap 6 _ STB.out.cur (by omega) (by omega)).mono ?_
            rintro e wd ⟨o, rfl, hcd, gd⟩
            have STD := hide (STB.out.grown hcd gd)
            have ROD := hide ((HRS.out.keep (fun k h1 h2 h3 => gd.block k h3 (by simp; omega))).wide hlo gd.size)
            clear hcd gd STB HRS
            cases o
            · go_wp2
              go_ret
              exact ⟨_, qs, rfl, ⟨ROD.out.at.1, fun q hq => ROD.out.nears q hq, fun k hk => (ROD.out.row.lt k hk).1, by omega, HRW.out⟩, STD.out.cur, STD.out.bel⟩
            · obtain ⟨q, hq⟩ : ∃ q, qs[0]? = some q := ⟨qs[0]'(by omega), List.getElem?_eq_getElem _⟩
              have hqm := List.mem_of_getElem? hq
              obtain ⟨rb, ro, rc, hrv, hrb, e0, e1, e2, e3, e4, e5, _⟩ := ROD.out.at.cells 0 q hq
              cases hrv
              obtain ⟨qa, qc, hqv⟩ := owns_lenS (ROD.out.nears q hqm).1
              obtain ⟨qd, qv⟩ := q
              simp only at hqv e0 e1 e2 e3 e4 e5
              subst hqv
              simp only [Nat.zero_mul, Nat.add_zero] at e0 e1 e2 e3 e4 e5
              have OW := hide (ROD.out.row.alloc (.cells (encQ (qd, .slice qa qd.hops.length qc)).toArray 26))
              have HQM := hide hqm
              clear hq hqm
              go_wp2_with (first
                | (at_builtin; refine append_struct6 encQ_len (by omega) (by omega) _ rfl _ _ 33 rfl w.heap.size 26 Tryd.underlying33 (.agg (rtC zeroQD (.slice none 0 0))) rfl Tryd.infoRoute _ qs (qd, .slice qa qd.hops.length qc) (encQ_one _ _ _ _) rfl OW.out ⟨wd.heap.size, 0, none⟩ 1 rfl (news_struct (cs := encQ (qd, .slice qa qd.hops.length qc))) (by omega) (by have := STD.out.size; simp; omega) ?_))
              intro v' w' hown' hgrow hblk
              obtain ⟨va', vc', rfl⟩ := owns_lenS hown'
              have hsd := STD.out.size
              have hal : ∀ k, k < wd.heap.size → (wd.alloc (.cells (encQ (qd, .slice qa qd.hops.length qc)).toArray 26)).heap[k]? = wd.heap[k]? := fun k hk => Below.heap_alloc _ _ _ hk
              have TY := TyK.grown OW.out hgrow
              have CUR9 := hide ((cur_alloc STD.out.cur (.cells (encQ (qd, .slice qa qd.hops.length qc)).toArray 26)).grown hgrow (fun b hb he => by have := (OW.out.lt b he.symm).1; omega))
              have BEL9 := hide ((STD.out.bel.alloc (by omega) (.cells (encQ (qd, .slice qa qd.hops.length qc)).toArray 26)).grown hgrow (by simp; omega) (fun k hk => by have := (OW.out.lt k hk).1; omega))
              have NR9 := hide (fun q (h : q ∈ qs) => (TY.hop ((ROD.out.nears q h).keep (fun k _ h2 h3 => hal k h3))).wide (Nat.le_refl _) (show wd.heap.size ≤ w'.heap.size by have := hgrow.size; simp at this; omega))
              have OF9 := hide (fun k hk => (hown'.lt k hk).1)
              have OW9 := hide (show StructsAt encQ 6 w' (.slice va' (qs.length + 1) vc') (qs ++ [(qd, .slice qa qd.hops.length qc)]) w'.heap.size from by
                have h := hown'
                try simp only [List.length_append, List.length_cons, List.length_nil, Nat.zero_add] at h
                have e : qs.length + 1 = (qs ++ [(qd, Value.slice qa qd.hops.length qc)]).length := by simp
                rw [e] at h ⊢
                exact owns_rowAt h)
              clear hown' hgrow hblk TY hal
              go_wp2
              go_ret
              refine ⟨.slice va' (qs.length + 1) vc', qs ++ [(qd, Value.slice qa qd.hops.length qc)], rfl, ⟨OW9.out, fun q hq => ?_, OF9.out, by simp; omega, fun q hq => ?_⟩, CUR9.out, BEL9.out⟩
              · rcases List.mem_append.1 hq with h | h
                · exact NR9.out q h
                · rw [List.mem_singleton] at h; subst h; exact NR9.out _ HQM.out
              · rcases List.mem_append.1 hq with h | h
                · exact HRW.out q h
                · rw [List.mem_singleton] at h; subst h; exact HRW.out _ HQM.out
end Go.Proofs.YthmmpmbnpfhloaaDoor
namespace Go.Proofs.YthmmpmbnpfhloaaDoor
open Go.RowKit
set_option linter.unusedSimpArgs false
set_option linter.unusedVariables false

set_option maxRecDepth 100000 in
set_option maxHeartbeats 4000000 in
theorem drawSh_any (a : Option Addr) (len cap : Nat) (w : World) (hc : Code w a len w.heap.size) :
    Calls Tryd.prog 5 #[.slice a len cap] w fun e w' => ∃ (x : RtD) (v : Value), e = .returned (.agg (rtC x v)) ∧ RtWf x ∧ x.hops.length ≤ 6 ∧ HopsAt w' v x.hops w'.heap.size ∧ Below w.heap.size w w' := by
  have HC := hide hc
  clear hc
  go_enter Tryd.func5, Tryd.ntmps5
  go_wp2_with fail
  refine (new_at (w.heap.size + 1) a len cap _ (by simp) (code_later HC.out ((Below.refl _ _).alloc (Nat.le_refl _) _))).mono ?_
  rintro e w1 ⟨rfl, hc1, hb1⟩
  have hr1 : w1.heap[w.heap.size]? = some (.cells (rtC zeroQD (.slice none 0 0)) 26) := by rw [hb1.block _ (by omega)]; exact heap_alloc_new w _
  have B1 : Below w.heap.size w w1 := ((Below.refl _ _).alloc (Nat.le_refl _) _).trans (hb1.mono (by omega))
  obtain ⟨p, hp⟩ : ∃ p, p = w.heap.size + 1 := ⟨_, rfl⟩
  rw [← hp] at hc1 hb1 ⊢
  have hp1 : w.heap.size < p := by omega
  clear hp
  have hpw := lt_of_cur hc1
  have HCC := hide hc1
  have HR1 := hide hr1
  clear hb1 hc1 hr1
  go_wp2_with fail
  refine (l11_any p a len cap _ HCC.out).mono ?_
  rintro e w2 ⟨x, qs, rfl, hg, hc2, b2⟩
  obtain ⟨xa, xc, rfl⟩ : ∃ a c, x = .slice a qs.length c := by obtain ⟨a, c, h, _⟩ := hg.row; exact ⟨a, c, h⟩
  have HR2 := hide ((b2.block _ hp1).trans HR1.out)
  have B2 := hide (B1.trans (b2.mono (Nat.le_of_lt hp1)))
  have HCD := hide hc2
  have HG := hide hg
  have hpw2 := lt_of_cur hc2
  have hql := hg.len
  have hp1w : w.heap.size < w1.heap.size := by omega
  clear hg hc2 b2 HR1 HCC B1
  have hx2 := lt_of_heap HR2.out
  have fx2 := frozen_at HR2.out
  have o0 := cells_at HR2.out 0
  have o1 := cells_at HR2.out 1
  have o2 := cells_at HR2.out 2
  have o3 := cells_at HR2.out 3
  have o4 := cells_at HR2.out 4
  have o5 := cells_at HR2.out 5
  simp only [rtC, zeroQD, List.getElem?_toArray, List.getElem?_cons_succ, List.getElem?_cons_zero] at o0 o1 o2 o3 o4 o5
  by_cases h0 : qs.length = 0
  · have h00 : (qs.length : Int) = 0 := by omega
    have F := rt_end 0 (⟨true, 3, 4, 0, 4, []⟩ : RtD) (.slice none 0 0) HR2.out (World.ownsRow_nil _ _ _ _)
    have FF := hide F
    clear F
    go_wp2
    have F := FF.out
    try simp only [Exit.inBlock, Exit.then]
    refine bodyPost_ret (results_cell_row rfl _ _ w.heap.size 26 (rtC ⟨true, 3, 4, 0, 4, []⟩ (.slice none 0 0)) (0, 0) _ rfl F.1 Tryd.underlying26 rfl (by kernel_rfl)) rfl ?_
    exact ⟨⟨true, 3, 4, 0, 4, []⟩, _, rfl, ⟨⟨by decide, by decide⟩, ⟨by decide, by decide⟩, ⟨by decide, by decide⟩, fun x hx => by cases hx⟩, by decide, hops_of F.2.1, B2.out.trans F.2.2⟩
  · have h00 : ¬ (qs.length : Int) = 0 := by omega
    clear h0
    go_wp2_with fail
    refine (below_any p a len cap (qs.length : Int) _ HCD.out (by omega) (by omega)).mono ?_
    rintro e w3 ⟨j, rfl, hj0, hj1, hc3, g3⟩
    obtain ⟨k, rfl⟩ : ∃ k : Nat, j = (k : Int) := ⟨j.toNat, by omega⟩
    have hk : k < qs.length := by omega
    obtain ⟨q, hq⟩ : ∃ q, qs[k]? = some q := ⟨qs[k], List.getElem?_eq_getElem hk⟩
    have hqm := List.mem_of_getElem? hq
    have hr3 := (g3.block _ hx2 (by simp; omega)).trans HR2.out
    obtain ⟨rb, ro, rc, hrv, hrb, hcs⟩ := StructsAt.cell HG.out.row encQ_len k q hq
    obtain ⟨rfl, rfl⟩ : xa = some ⟨rb, ro, none⟩ ∧ xc = rc := by cases hrv; exact ⟨rfl, rfl⟩
    have hrp : w1.heap.size ≤ rb := HG.out.off rb rfl
    have hn := HG.out.nears q hqm
    obtain ⟨qa, qc, hqv⟩ := owns_lenS hn.1
    obtain ⟨hwf, hl6⟩ := HG.out.wf q hqm
    obtain ⟨qd, qv⟩ := q
    simp only at hqv hwf hl6
    subst hqv
    have e0 := g3.cell (hcs 0 _ rfl) (by simp; omega)
    have e1 := g3.cell (hcs 1 _ rfl) (by simp; omega)
    have e2 := g3.cell (hcs 2 _ rfl) (by simp; omega)
    have e3 := g3.cell (hcs 3 _ rfl) (by simp; omega)
    have e4 := g3.cell (hcs 4 _ rfl) (by simp; omega)
    have e5 := g3.cell (hcs 5 _ rfl) (by simp; omega)
    simp only [Nat.add_zero] at e0 e1 e2 e3 e4 e5
    have ho3 := owns_keepB hn.1 (fun k2 hk2 => g3.block k2 (hn.1.lt k2 hk2).2 (by have := (hn.1.lt k2 hk2).1; simp; omega))
    have F := rt_end w1.heap.size qd (.slice qa qd.hops.length qc) hr3 ho3
    have FF := hide F
    have HWF := hide hwf
    have B3 := hide (B2.out.grown g3 (by have := B2.out.size; omega) (fun k2 hk2 => by simp at hk2; omega))
    have hx3 := lt_of_heap hr3
    have fx3 := frozen_at hr3
    clear o0 o1 o2 o3 o4 o5 fx2 hx2
    have o0 := cells_at hr3 0
    have o1 := cells_at hr3 1
    have o2 := cells_at hr3 2
    have o3 := cells_at hr3 3
    have o4 := cells_at hr3 4
    have o5 := cells_at hr3 5
    simp only [rtC, zeroQD, List.getElem?_toArray, List.getElem?_cons_succ, List.getElem?_cons_zero] at o0 o1 o2 o3 o4 o5
    have hki : (0 : Int) ≤ (k : Int) := by omega
    have hkj : (k : Int) < (qs.length : Int) := by omega
    clear F hwf hr3 hcs hn ho3 hq hqm hc3 g3 hrv hj0 hj1
    go_wp2
    have F := FF.out
    try simp only [Exit.inBlock, Exit.then]
    refine bodyPost_ret (results_cell_row rfl _ _ w.heap.size 26 (rtC qd (.slice qa qd.hops.length qc)) (0, 0) _ rfl F.1 Tryd.underlying26 rfl (by kernel_rfl)) rfl ?_
    exact ⟨qd, _, rfl, HWF.out, hl6, hops_of F.2.1, B3.out.trans F.2.2⟩
end Go.Proofs.YthmmpmbnpfhloaaDoor
