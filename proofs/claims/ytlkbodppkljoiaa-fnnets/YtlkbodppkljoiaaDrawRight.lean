/-
  spec.DrawRightNet: some right net.
-/
import Derived.Test.YtlkbodppkljoiaaDrawNet
import Derived.Maps.AppendAt
namespace Go.Proofs.Ytlkbodppkljoiaa
open Go.RowKit

def blE (b : Bool) : List Value := [.bool b]

theorem blE_len (b : Bool) : (blE b).length = 1 := rfl

theorem blE_one (b : Bool) : ∀ u ∈ blE b, u.oneCell' = true := by
  intro u hu
  simp only [blE, List.mem_cons, List.not_mem_nil, or_false] at hu
  rw [hu]; rfl

theorem Try.infoB : (Try.prog.info? 4).map (fun i => (i.zero, i.size, i.bytes)) = some (some (.bool false), 1, 1) := by kernel_rfl

/-- what an append to a row above p leaves of the cursor -/
theorem Cur.appended {w w' : World} {p : Nat} {a : Option Addr} {len cap : Nat} {v : Value} {base : Nat} {e : TypeId} {n : Nat} {xs : List Value} (o : Obj) (h : Cur w p a len cap) (hown : w.ownsRow base e 1 v n xs) (hb : p < base) (hg : (w.alloc o).grownBy w' v.ownBlock) : Cur w' p a len cap := by
  have h1 : Cur (w.alloc o) p a len cap := h.grown (row := none) ⟨rfl, rfl, rfl, by simp, fun k hk _ => Below.heap_alloc _ _ _ hk⟩ (fun b _ => by simp)
  refine h1.grown hg (fun b hbp he => ?_)
  have := (hown.lt b he.symm).1
  omega

theorem new_at (p : Nat) (a : Option Addr) (len cap : Nat) (w : World) (hp : w.heap.size = p) (hc : Code w a len w.heap.size) :
    Calls Try.prog 23 #[.slice a len cap] w fun e w' => e = .returned (.pointer (some ⟨p, 0, none⟩)) ∧ Cur w' p a len cap ∧ Below p w w' := by
  subst hp
  exact new_any a len cap w hc

/-- 'append(out, y)' of one bool -/
theorem wpList_append_bool {P : Program} (w : World) {ops : Array Oper} {rest : List Oper} {o : Oper} {a : Act} {Q : Exit → Act → World → Prop} (hgd : o.guard = none) (s x : Operand) (t : TypeId)
    (ho : o.op = .call { callee := .builtin .append, args := #[s, x], argTypes := #[t, t] }) (base : Nat) (e : TypeId) (ht : P.underlying t = some (.slice e))
    (hinfo : (P.info? e).map (fun i => (i.zero, i.size, i.bytes)) = some (some (.bool false), 1, 1))
    (v : Value) (l : List Bool) (y : Bool) (hs : a.eval s = v) (hown : w.ownsRow base e 1 v l.length (flat blE l))
    (ad : Addr) (c : Nat) (hx : a.eval x = .slice (some ad) 1 c) (hnews : ∀ j u, (blE y)[j]? = some u → w.cell? (ad.add j) = some u)
    (hl : l.length + 1 ≤ 1000000000) (hbase : base ≤ w.heap.size)
    (h : ∀ v' w' l', Hid (l' = l ++ [y]) → w'.ownsRow base e 1 v' l'.length (flat blE l') → w.grownBy w' v.ownBlock → (v'.ownBlock = v.ownBlock ∨ v'.ownBlock = some w.heap.size) → wpList P ops Q rest (a.put o.dst v') w') : wpList P ops Q (o :: rest) a w := by
  obtain ⟨i0, hi, hz0, hz1, hz2⟩ := info_parts hinfo
  refine wpList_append_own_at w hgd s x t ho base e i0 (.bool false) 1 1 ht hi hz0 hz1 hz2 rfl (by decide) v l.length (flat blE l) hs hown ad 1 c (blE y) hx rfl hnews (blE_one y) (by unfold maxLen; omega) (by omega) hbase ?_
  intro v' w' h1 h2 _ h4
  have e1 : flat blE l ++ blE y = flat blE (l ++ [y]) := by rw [flat_append]; simp [flat]
  rw [e1] at h1
  exact h v' w' (l ++ [y]) rfl (by simpa using h1) h2 h4

/-- a row all of whose cells lie in blocks that stay -/
theorem owns_moved {w w' : World} {base size z p : Nat} {e : TypeId} {v : Value} {n : Nat} {xs : List Value} (h : w.ownsRow base e size v n xs) (hz : w.heap.size ≤ z) (hp : p < base) (hk : ∀ b, b < z → b ≠ p → w'.heap[b]? = w.heap[b]?) : w'.ownsRow base e size v n xs := by
  refine ⟨h.1, ?_⟩
  rcases h.2 with h2 | ⟨g, cap, cur, hv, hg, hh, r⟩
  · exact .inl h2
  · have := lt_of_heap hh
    exact .inr ⟨g, cap, cur, hv, hg, by rw [hk g (by omega) (by omega)]; exact hh, r⟩

theorem netOkI_n {x : NetD} (h : netOkI x = true) : 1 ≤ x.n ∧ x.n ≤ 6 := by
  simp [netOkI, inB] at h
  omega

theorem netOkI_l {x : NetD} (h : netOkI x = true) : x.ls.length ≤ 12 ∧ x.ts.length ≤ 4 := by
  simp [netOkI, linksB, thingsB] at h
  omega

structure DSt (w w5 wr : World) (p z : Nat) (a : Option Addr) (len cap : Nat) : Prop where
  cur : Cur wr p a len cap
  bel : Below w.heap.size w wr
  kept : ∀ b, b < z + 1 → b ≠ p → wr.heap[b]? = w5.heap[b]?
  size : z + 1 ≤ wr.heap.size

theorem DSt.grown {w w5 wr w' : World} {p z : Nat} {a : Option Addr} {len cap : Nat} (h : DSt w w5 wr p z a len cap) (hc : Cur w' p a len cap) (hg : wr.grownBy w' (some p)) (hp : w.heap.size ≤ p) : DSt w w5 w' p z a len cap where
  cur := hc
  bel := h.bel.grown hg h.bel.size (fun k hk => by simp at hk; omega)
  kept := fun b hb hbp => by rw [hg.block b (by have := h.size; omega) (by simp; exact hbp)]; exact h.kept b hb hbp
  size := Nat.le_trans h.size hg.size

theorem DSt.alloc {w w5 wr : World} {p z : Nat} {a : Option Addr} {len cap : Nat} (h : DSt w w5 wr p z a len cap) (o : Obj) : DSt w w5 (wr.alloc o) p z a len cap where
  cur := cur_alloc h.cur o
  bel := h.bel.alloc h.bel.size o
  kept := fun b hb hbp => by rw [Below.heap_alloc _ _ _ (by have := h.size; omega)]; exact h.kept b hb hbp
  size := by have := h.size; simp; omega

theorem DSt.appended {w w5 wr w' : World} {p z : Nat} {a : Option Addr} {len cap : Nat} {v : Value} {e : TypeId} {n : Nat} {xs : List Value} (o : Obj) (h : DSt w w5 wr p z a len cap) (hown : wr.ownsRow (z + 1) e 1 v n xs) (hp : p < z) (hw : w.heap.size ≤ z) (hg : (wr.alloc o).grownBy w' v.ownBlock) : DSt w w5 w' p z a len cap :=
  have h1 := h.alloc o
  { cur := h.cur.appended o hown (by omega) hg
    bel := h1.bel.grown hg h1.bel.size (fun k hk => by have := (hown.lt k hk).1; omega)
    kept := fun b hb hbp => by
      rw [hg.block b (by have := h1.size; omega) (fun he => by have := (hown.lt b he.symm).1; omega)]
      exact h1.kept b hb hbp
    size := Nat.le_trans h1.size hg.size }

set_option maxRecDepth 100000 in
set_option maxHeartbeats 2000000 in
theorem drawRight_any (a : Option Addr) (len cap : Nat) (w : World) (hc : Code w a len w.heap.size) :
    Calls Try.prog 8 #[.slice a len cap] w fun e w' => ∃ (x : NetD) (v y z : Value), e = .returned (.tuple #[v, y, z]) ∧ netOkI x = true ∧ NetAt w' v x w'.heap.size ∧ Below w.heap.size w w' := by
  have HC := hide hc
  clear hc
  go_enter Try.func8, Try.ntmps8
  go_wp2_with fail
  refine (new_at (w.heap.size + 1) a len cap _ (by simp) (code_later HC.out ((Below.refl _ _).alloc (Nat.le_refl _) _))).mono ?_
  rintro e w1 ⟨rfl, hc1, hb1⟩
  have hr1 : w1.heap[w.heap.size]? = some (.cells #[.int .i64 0, .slice none 0 0, .slice none 0 0] 27) := by rw [hb1.block _ (by omega)]; exact heap_alloc_new w _
  have B1 : Below w.heap.size w w1 := ((Below.refl _ _).alloc (Nat.le_refl _) _).trans (hb1.mono (by omega))
  obtain ⟨p, hp⟩ : ∃ p, p = w.heap.size + 1 := ⟨_, rfl⟩
  rw [← hp] at hc1 hb1 ⊢
  have hp1 : w.heap.size < p := by omega
  clear hp
  have hpw := lt_of_cur hc1
  have HCC := hide hc1
  have HR1 := hide hr1
  clear hb1 hc1 hr1
  go_wp2_with fail
  refine (net_any p a len cap _ HCC.out).mono ?_
  rintro e w2 ⟨x, v1, v2, rfl, hok, o1, o2, hc2, hb2⟩
  obtain ⟨b1, c1, rfl⟩ := LinksAt.shape (owns_rowAt o1)
  obtain ⟨b2, c2, rfl⟩ := ThingsAt.shape (owns_rowAt o2)
  have hz2 : w1.heap.size ≤ w2.heap.size := hb2.size
  have hr2 : w2.heap[w.heap.size]? = some (.cells #[.int .i64 0, .slice none 0 0, .slice none 0 0] 27) := by rw [hb2.block _ (by omega)]; exact HR1.out
  have B2 : Below w.heap.size w w2 := B1.trans (hb2.mono (by omega))
  have HOK := hide hok
  have O1 := hide o1
  have O2 := hide o2
  have HC2 := hide hc2
  have HR2 := hide hr2
  clear hok o1 o2 hc2 hr2 hb2 HR1 HCC B1 HC
  obtain ⟨w5, hw5⟩ : ∃ w5, w5 = w2.alloc (.cells #[.int .i64 x.n, .slice b1 x.ls.length c1, .slice b2 x.ts.length c2] 27) := ⟨_, rfl⟩
  have st5 : DSt w w5 (((w2.alloc (.cells #[.int .i64 x.n, .slice b1 x.ls.length c1, .slice b2 x.ts.length c2] 27)).alloc (.cells #[] 4)).alloc (.cells #[] 4)) p w2.heap.size a len cap := by
    rw [← hw5]
    refine DSt.alloc (DSt.alloc ⟨?_, ?_, fun _ _ _ => rfl, ?_⟩ _) _
    · rw [hw5]; exact cur_alloc HC2.out _
    · rw [hw5]; exact B2.alloc B2.size _
    · rw [hw5]; simp
  have ST5 := hide st5
  have hbx : w5.heap[w2.heap.size]? = some (.cells #[.int .i64 x.n, .slice b1 x.ls.length c1, .slice b2 x.ts.length c2] 27) := by rw [hw5]; exact heap_alloc_new w2 _
  have HBX := hide hbx
  have HW5 := hide hw5
  clear st5 hbx hw5
  obtain ⟨z, hz⟩ : ∃ z, z = w2.heap.size := ⟨_, rfl⟩
  have hzz : p < z := by omega
  have hzw : w.heap.size ≤ z := by omega
  have OB : (((w2.alloc (.cells #[.int .i64 x.n, .slice b1 x.ls.length c1, .slice b2 x.ts.length c2] 27)).alloc (.cells #[] 4)).alloc (.cells #[] 4)).ownsRow (z + 1) 4 1 (.slice (some ⟨z + 1, 0, none⟩) 0 0) 0 [] ∧ (((w2.alloc (.cells #[.int .i64 x.n, .slice b1 x.ls.length c1, .slice b2 x.ts.length c2] 27)).alloc (.cells #[] 4)).alloc (.cells #[] 4)).heap[z + 2]? = some (.cells #[] 4) := by
    refine ⟨?_, ?_⟩
    · have h := (World.ownsRow_lit (base := z + 1) (e := 4) (size := 1) (w2.alloc (.cells #[.int .i64 x.n, .slice b1 x.ls.length c1, .slice b2 x.ts.length c2] 27)) #[] 0 (by simp; omega) (by decide) rfl).alloc (.cells #[] 4)
      simpa [hz] using h
    · have h := heap_alloc_new ((w2.alloc (.cells #[.int .i64 x.n, .slice b1 x.ls.length c1, .slice b2 x.ts.length c2] 27)).alloc (.cells #[] 4)) (.cells #[] 4)
      simpa [hz] using h
  obtain ⟨ob1, ob2⟩ := OB
  have OB1 := hide ob1
  have OB2 := hide ob2
  clear ob1 ob2
  have HZ := hide hz
  go_wp2
  rw [← HZ.out]
  rw [← HZ.out] at ST5 HBX
  clear hz
  go_loopw [7, 9] (fun u i wr => ∃ (k : Nat) (l : List Bool), k ≤ x.ls.length ∧ i = .int .i64 k ∧ l.length = k ∧ DSt w w5 wr p z a len cap ∧ wr.ownsRow (z + 1) 4 1 u l.length (flat blE l) ∧ wr.heap[z + 2]? = some (.cells #[] 4) ∧ u.ownBlock ≠ some (z + 2)) (fun _ i _ => x.ls.length - (intOf i).toNat)
  case atStart => exact ⟨0, [], by omega, rfl, rfl, ST5.out, OB1.out, OB2.out, by simp [Value.ownBlock]⟩
  case round =>
    clear ST5 OB1 OB2
    obtain ⟨k, l, hk, rfl, hlk, st, hown, hz3, hne⟩ := hrel
    have hbx : wr.heap[z]? = some (.cells #[.int .i64 x.n, .slice b1 x.ls.length c1, .slice b2 x.ts.length c2] 27) := by rw [st.kept z (by omega) (by omega)]; exact HBX.out
    have g1 := cells_at hbx 1
    simp at g1
    have hzs := lt_of_heap hz3
    have hll : l.length ≤ k := by omega
    have HLK := hide hlk
    have HZ3 := hide hz3
    have HNE := hide hne
    have OW := hide hown
    have ST := hide st
    clear hlk hz3 hne hown st hbx
    have hl12 := (netOkI_l HOK.out).1
    by_cases hlt : k < x.ls.length
    · have hlt' : (k : Int) < (x.ls.length : Int) := by omega
      go_wp2_with fail
      refine (once_any p a len cap 6 _ ST.out.cur (by omega) (by omega)).mono ?_
      rintro e w6 ⟨q, rfl, hc6, hg6⟩
      have st6 := ST.out.grown hc6 hg6 (by omega)
      have o6 := kept_other OW.out hg6 (by omega)
      have h63 : w6.heap[z + 2]? = some (.cells #[] 4) := by rw [hg6.block _ hzs (by simp; omega)]; exact HZ3.out
      have hs6 := lt_of_heap h63
      have ST6 := hide st6
      have OW6 := hide o6
      have H63 := hide h63
      clear hc6 hg6 st6 o6 h63 ST OW HZ3
      go_wp2_with (first
        | (at_builtin; refine wpList_append_bool _ rfl _ _ 28 rfl (z + 1) 4 Try.underlying28 Try.infoB u7 l (!q) rfl (OW6.out.alloc _) ⟨w6.heap.size, 0, none⟩ 1 rfl (news_struct (cs := blE (!q))) (by omega) (by simp; omega) ?_))
      intro v' w7 l' hl' hown' hgrow hblk
      have st7 := ST6.out.appended _ OW6.out hzz hzw hgrow
      have h73 : w7.heap[z + 2]? = some (.cells #[] 4) := by rw [hgrow.block _ (by simp; omega) (fun h => HNE.out h.symm), Below.heap_alloc _ _ _ hs6]; exact H63.out
      have hne' : v'.ownBlock ≠ some (z + 2) := by
        rcases hblk with h | h
        · rw [h]; exact HNE.out
        · rw [h]; simp; omega
      have ST7 := hide st7
      have H73 := hide h73
      have HNE7 := hide hne'
      have OW7 := hide hown'
      clear st7 h73 hne' hown' hgrow hblk ST6 OW6 H63
      go_wp2
      go_roundw
      case rel => exact ⟨k + 1, l', by omega, by go_num, by rw [hl'.out]; simp [HLK.out], ST7.out, OW7.out, H73.out, HNE7.out⟩
      case measure => simp [intOf]; omega
    · have hlt' : ¬ (k : Int) < (x.ls.length : Int) := by omega
      obtain ⟨wo, rfl⟩ : ∃ wo : World, wo = wr := ⟨_, rfl⟩
      go_wp2
      have ow8 : wo.ownsRow (z + 1) 4 1 (.slice (some ⟨z + 2, 0, none⟩) 0 0) 0 [] := ⟨rfl, .inr ⟨z + 2, 0, #[], rfl, by omega, HZ3.out, Nat.le_refl _, by decide, rfl, rfl⟩⟩
      have OW8 := hide ow8
      clear ow8 hlt hlt' hk g1 hll HLK OW HNE
      go_loopw [8, 10] (fun u i wr => ∃ (k : Nat) (l : List Bool), (k : Int) ≤ 6 ∧ i = .int .i64 k ∧ l.length = k ∧ DSt w w5 wr p z a len cap ∧ wr.ownsRow (z + 1) 4 1 u l.length (flat blE l)) (fun _ i _ => 7 - (intOf i).toNat)
      case atStart => exact ⟨0, [], by omega, rfl, rfl, ST.out, OW8.out⟩
      case round =>
        clear ST OW8 HZ3 hzs
        obtain ⟨k, l, hk, rfl, hlk, st, hown⟩ := hrel
        have hbx : wr.heap[z]? = some (.cells #[.int .i64 x.n, .slice b1 x.ls.length c1, .slice b2 x.ts.length c2] 27) := by rw [st.kept z (by omega) (by omega)]; exact HBX.out
        have g0 := cells_at hbx 0
        have g1 := cells_at hbx 1
        have g2 := cells_at hbx 2
        simp at g0 g1 g2
        have hll : l.length ≤ k := by omega
        have HLK := hide hlk
        have OW := hide hown
        have ST := hide st
        clear hlk hown st hbx
        have hn6 := netOkI_n HOK.out
        by_cases hlt : (k : Int) < x.n
        · go_wp2_with fail
          refine (once_any p a len cap 8 _ ST.out.cur (by omega) (by omega)).mono ?_
          rintro e w6 ⟨q, rfl, hc6, hg6⟩
          have st6 := ST.out.grown hc6 hg6 (by omega)
          have o6 := kept_other OW.out hg6 (by omega)
          have hs6 := st6.size
          have ST6 := hide st6
          have OW6 := hide o6
          clear hc6 hg6 st6 o6 ST OW
          go_wp2_with (first
            | (at_builtin; refine wpList_append_bool _ rfl _ _ 28 rfl (z + 1) 4 Try.underlying28 Try.infoB u8 l (!q) rfl (OW6.out.alloc _) ⟨w6.heap.size, 0, none⟩ 1 rfl (news_struct (cs := blE (!q))) (by omega) (by simp; omega) ?_))
          intro v' w7 l' hl' hown' hgrow hblk
          have st7 := ST6.out.appended _ OW6.out hzz hzw hgrow
          have ST7 := hide st7
          have OW7 := hide hown'
          clear st7 hown' hgrow hblk ST6 OW6
          go_wp2
          go_roundw
          case rel => exact ⟨k + 1, l', by omega, by go_num, by rw [hl'.out]; simp [HLK.out], ST7.out, OW7.out⟩
          case measure => simp [intOf]; omega
        · have hr : wr.heap[w.heap.size]? = some (.cells #[.int .i64 0, .slice none 0 0, .slice none 0 0] 27) := by
            rw [ST.out.kept _ (by omega) (by omega), HW5.out, Below.heap_alloc _ _ _ (lt_of_heap HR2.out)]; exact HR2.out
          have r0 := cells_at hr 0
          have r1 := cells_at hr 1
          have r2 := cells_at hr 2
          have f0 := frozen_at hr 0
          have f1 := frozen_at hr 1
          have f2 := frozen_at hr 2
          simp at r0 r1 r2
          have HR := hide hr
          clear hr
          go_wp2
          obtain ⟨W, hW⟩ : ∃ W, W = (((wr.setCell ⟨w.heap.size, 0, none⟩ (.int .i64 x.n)).setCell ⟨w.heap.size, 1, none⟩ (.slice b1 x.ls.length c1)).setCell ⟨w.heap.size, 2, none⟩ (.slice b2 x.ts.length c2)) := ⟨_, rfl⟩
          have hfin : W.heap[w.heap.size]? = some (.cells #[.int .i64 x.n, .slice b1 x.ls.length c1, .slice b2 x.ts.length c2] 27) := by
            have k1 := heap_setCell_same _ _ 0 _ _ (.int .i64 x.n) HR.out
            have k2 := heap_setCell_same _ _ 1 _ _ (.slice b1 x.ls.length c1) k1
            have k3 := heap_setCell_same _ _ 2 _ _ (.slice b2 x.ts.length c2) k2
            rw [hW]
            exact k3
          have hkw : ∀ b, b < z → b ≠ p → wr.heap[b]? = w2.heap[b]? := fun b hb hbp => by
            rw [ST.out.kept b (by omega) hbp, HW5.out, Below.heap_alloc _ _ _ (by rw [← HZ.out]; exact hb)]
          have p1 : W.ownsRow w1.heap.size 39 4 (.slice b1 x.ls.length c1) x.ls.length (flat lkE x.ls) := by
            rw [hW]; exact owns_set (owns_set (owns_set (owns_moved O1.out (by rw [← HZ.out]; exact Nat.le_refl _) hpw hkw) (by omega)) (by omega)) (by omega)
          have p2 : W.ownsRow w1.heap.size 68 4 (.slice b2 x.ts.length c2) x.ts.length (flat thE x.ts) := by
            rw [hW]; exact owns_set (owns_set (owns_set (owns_moved O2.out (by rw [← HZ.out]; exact Nat.le_refl _) hpw hkw) (by omega)) (by omega)) (by omega)
          have BW : Below w.heap.size w W := by
            rw [hW]
            exact ((ST.out.bel.setCell (by show w.heap.size ≤ w.heap.size; omega) _).setCell (by show w.heap.size ≤ w.heap.size; omega) _).setCell (by show w.heap.size ≤ w.heap.size; omega) _
          rw [← hW]
          have NT : NetAt W (.agg #[.int .i64 x.n, .slice b1 x.ls.length c1, .slice b2 x.ts.length c2]) x W.heap.size := ⟨_, _, rfl, owns_rowAt p1, owns_rowAt p2⟩
          have HNT := hide NT
          clear hW hkw p1 p2 NT r0 r1 r2 f0 f1 f2 HR
          have r0 := cells_at hfin 0
          have r1 := cells_at hfin 1
          have r2 := cells_at hfin 2
          simp at r0 r1 r2
          clear hfin
          (try simp only [Exit.inBlock, Exit.then])
          refine bodyPost_ret (v := .tuple #[.agg #[.int .i64 x.n, .slice b1 x.ls.length c1, .slice b2 x.ts.length c2], u7, u8]) (by simp [results, Try.results8, go_sem, r0, r1, r2]) rfl ?_
          exact ⟨x, _, ⟨_, _, rfl⟩, HOK.out, HNT.out, BW⟩
end Go.Proofs.Ytlkbodppkljoiaa
