/-
  spec.DrawRightNet: some right net, and which links and nodes are up.
  A heap in a row, as values: what sifting up and down makes of it.
  A search that keeps what is next in a heap of pointers, as values.
  The best offer of a thing, as the specification collects it.
-/
import Derived.Test.YtbknmgobmnjphaaWk33
import Derived.Test.YtbknmgobmnjphaaWk1
import Derived.Test.YtbknmgobmnjphaaWk9
import Derived.Test.YtbknmgobmnjphaaWk6
import Derived.Test.YtbknmgobmnjphaaWk24
namespace Go.Proofs.Ytbknmgobmnjphaa
open Go.RowKit

set_option maxRecDepth 100000 in
set_option maxHeartbeats 2000000 in
theorem drawRB_any (a : Option Addr) (len cap : Nat) (w : World) (hc : Code w a len w.heap.size) :
    Calls Try.prog 5 #[.slice a len cap] w fun e w' => ∃ (x : NetD) (v y z : Value) (ys zs : List Bool), e = .returned (.tuple #[v, y, z]) ∧ netOkI x = true ∧ NetAt w' v x w'.heap.size ∧ Hid (BoolsAt w' y ys w'.heap.size ∧ BoolsAt w' z zs w'.heap.size ∧ ys.length = x.ls.length ∧ (zs.length : Int) = x.n) ∧ Below w.heap.size w w' := by
  have HC := hide hc
  clear hc
  go_enter Try.func5, Try.ntmps5
  go_wp2_with fail
  refine (new_at (w.heap.size + 1) a len cap _ (by simp) (code_later HC.out ((Below.refl _ _).alloc (Nat.le_refl _) _))).mono ?_
  rintro e w1 ⟨rfl, hc1, hb1⟩
  have hr1 : w1.heap[w.heap.size]? = some (.cells #[.int .i64 0, .slice none 0 0, .slice none 0 0] 27) := by rw [hb1.block _ (by omega)]; exact heap_alloc_new w _
  have B1 : Below w.heap.size w w1 := ((Below.refl _ _).alloc (Nat.le_refl _) _).trans (hb1.mono (by omega))
  obtain ⟨p, hp⟩ : ∃ p, p = w.heap.size + 1 := ⟨_, rfl⟩
  rw [← hp] at hc1 hb1 ⊢
  have hp1 : w.heap.size < p := by omega
  clear hp
  have hpw := lt_of_cur hc1
  have HCC := hide hc1
  have HR1 := hide hr1
  clear hb1 hc1 hr1
  go_wp2_with fail
  refine (net_any p a len cap _ HCC.out).mono ?_
  rintro e w2 ⟨x, v1, v2, rfl, hok, o1, o2, hc2, hb2⟩
  obtain ⟨b1, c1, rfl⟩ := LinksAt.shape (owns_rowAt o1)
  obtain ⟨b2, c2, rfl⟩ := ThingsAt.shape (owns_rowAt o2)
  have hz2 : w1.heap.size ≤ w2.heap.size := hb2.size
  have hr2 : w2.heap[w.heap.size]? = some (.cells #[.int .i64 0, .slice none 0 0, .slice none 0 0] 27) := by rw [hb2.block _ (by omega)]; exact HR1.out
  have B2 : Below w.heap.size w w2 := B1.trans (hb2.mono (by omega))
  have HOK := hide hok
  have O1 := hide o1
  have O2 := hide o2
  have HC2 := hide hc2
  have HR2 := hide hr2
  clear hok o1 o2 hc2 hr2 hb2 HR1 HCC B1 HC
  obtain ⟨w5, hw5⟩ : ∃ w5, w5 = w2.alloc (.cells #[.int .i64 x.n, .slice b1 x.ls.length c1, .slice b2 x.ts.length c2] 27) := ⟨_, rfl⟩
  have st5 : DSt w w5 (((w2.alloc (.cells #[.int .i64 x.n, .slice b1 x.ls.length c1, .slice b2 x.ts.length c2] 27)).alloc (.cells #[] 4)).alloc (.cells #[] 4)) p w2.heap.size a len cap := by
    rw [← hw5]
    refine DSt.alloc (DSt.alloc ⟨?_, ?_, fun _ _ _ => rfl, ?_⟩ _) _
    · rw [hw5]; exact cur_alloc HC2.out _
    · rw [hw5]; exact B2.alloc B2.size _
    · rw [hw5]; simp
  have ST5 := hide st5
  have hbx : w5.heap[w2.heap.size]? = some (.cells #[.int .i64 x.n, .slice b1 x.ls.length c1, .slice b2 x.ts.length c2] 27) := by rw [hw5]; exact heap_alloc_new w2 _
  have HBX := hide hbx
  have HW5 := hide hw5
  clear st5 hbx hw5
  obtain ⟨z, hz⟩ : ∃ z, z = w2.heap.size := ⟨_, rfl⟩
  have hzz : p < z := by omega
  have hzw : w.heap.size ≤ z := by omega
  have OB : (((w2.alloc (.cells #[.int .i64 x.n, .slice b1 x.ls.length c1, .slice b2 x.ts.length c2] 27)).alloc (.cells #[] 4)).alloc (.cells #[] 4)).ownsRow (z + 1) 4 1 (.slice (some ⟨z + 1, 0, none⟩) 0 0) 0 [] ∧ (((w2.alloc (.cells #[.int .i64 x.n, .slice b1 x.ls.length c1, .slice b2 x.ts.length c2] 27)).alloc (.cells #[] 4)).alloc (.cells #[] 4)).heap[z + 2]? = some (.cells #[] 4) := by
    refine ⟨?_, ?_⟩
    · have h := (World.ownsRow_lit (base := z + 1) (e := 4) (size := 1) (w2.alloc (.cells #[.int .i64 x.n, .slice b1 x.ls.length c1, .slice b2 x.ts.length c2] 27)) #[] 0 (by simp; omega) (by decide) rfl).alloc (.cells #[] 4)
      simpa [hz] using h
    · have h := heap_alloc_new ((w2.alloc (.cells #[.int .i64 x.n, .slice b1 x.ls.length c1, .slice b2 x.ts.length c2] 27)).alloc (.cells #[] 4)) (.cells #[] 4)
      simpa [hz] using h
  obtain ⟨ob1, ob2⟩ := OB
  have OB1 := hide ob1
  have OB2 := hide ob2
  clear ob1 ob2
  have HZ := hide hz
  go_wp2
  rw [← HZ.out]
  rw [← HZ.out] at ST5 HBX
  clear hz
  go_loopw [7, 9] (fun u i wr => ∃ (k : Nat) (l : List Bool), k ≤ x.ls.length ∧ i = .int .i64 k ∧ l.length = k ∧ DSt w w5 wr p z a len cap ∧ wr.ownsRow (z + 1) 4 1 u l.length (flat blE l) ∧ wr.heap[z + 2]? = some (.cells #[] 4) ∧ u.ownBlock ≠ some (z + 2)) (fun _ i _ => x.ls.length - (intOf i).toNat)
  case atStart => exact ⟨0, [], by omega, rfl, rfl, ST5.out, OB1.out, OB2.out, by simp [Value.ownBlock]⟩
  case round =>
    clear ST5 OB1 OB2
    obtain ⟨k, l, hk, rfl, hlk, st, hown, hz3, hne⟩ := hrel
    have hbx : wr.heap[z]? = some (.cells #[.int .i64 x.n, .slice b1 x.ls.length c1, .slice b2 x.ts.length c2] 27) := by rw [st.kept z (by omega) (by omega)]; exact HBX.out
    have g1 := cells_at hbx 1
    simp at g1
    have hzs := lt_of_heap hz3
    have hll : l.length ≤ k := by omega
    have HLK := hide hlk
    have HZ3 := hide hz3
    have HNE := hide hne
    have OW := hide hown
    have ST := hide st
    clear hlk hz3 hne hown st hbx
    have hl12 := (netOkI_l HOK.out).1
    by_cases hlt : k < x.ls.length
    · have hlt' : (k : Int) < (x.ls.length : Int) := by omega
      go_wp2_with fail
      refine (once_any p a len cap 6 _ ST.out.cur (by omega) (by omega)).mono ?_
      rintro e w6 ⟨q, rfl, hc6, hg6⟩
      have st6 := ST.out.grown hc6 hg6 (by omega)
      have o6 := kept_otherN OW.out hg6 (by omega)
      have h63 : w6.heap[z + 2]? = some (.cells #[] 4) := by rw [hg6.block _ hzs (by simp; omega)]; exact HZ3.out
      have hs6 := lt_of_heap h63
      have ST6 := hide st6
      have OW6 := hide o6
      have H63 := hide h63
      clear hc6 hg6 st6 o6 h63 ST OW HZ3
      go_wp2_with (first
        | (at_builtin; refine wpList_append_bool _ rfl _ _ 28 rfl (z + 1) 4 Try.underlying28 Try.infoB u7 l (!q) rfl (OW6.out.alloc _) ⟨w6.heap.size, 0, none⟩ 1 rfl (news_struct (cs := blE (!q))) (by omega) (by simp; omega) ?_))
      intro v' w7 l' hl' hown' hgrow hblk
      have st7 := ST6.out.appended _ OW6.out hzz hzw hgrow
      have h73 : w7.heap[z + 2]? = some (.cells #[] 4) := by rw [hgrow.block _ (by simp; omega) (fun h => HNE.out h.symm), Below.heap_alloc _ _ _ hs6]; exact H63.out
      have hne' : v'.ownBlock ≠ some (z + 2) := by
        rcases hblk with h | h
        · rw [h]; exact HNE.out
        · rw [h]; simp; omega
      have ST7 := hide st7
      have H73 := hide h73
      have HNE7 := hide hne'
      have OW7 := hide hown'
      clear st7 h73 hne' hown' hgrow hblk ST6 OW6 H63
      go_wp2
      go_roundw
      case rel => exact ⟨k + 1, l', by omega, by go_num, by rw [hl'.out]; simp [HLK.out], ST7.out, OW7.out, H73.out, HNE7.out⟩
      case measure => simp [intOf]; omega
    · have hlt' : ¬ (k : Int) < (x.ls.length : Int) := by omega
      obtain ⟨wo, rfl⟩ : ∃ wo : World, wo = wr := ⟨_, rfl⟩
      go_wp2
      have ow8 : wo.ownsRow (z + 1) 4 1 (.slice (some ⟨z + 2, 0, none⟩) 0 0) 0 [] := ⟨rfl, .inr ⟨z + 2, 0, #[], rfl, by omega, HZ3.out, Nat.le_refl _, by decide, rfl, rfl⟩⟩
      have OW8 := hide ow8
      have HLL := hide (show l.length = x.ls.length by have := HLK.out; omega)
      have OWL := hide OW.out
      have HAP := hide (show ∀ b, u7.ownBlock = some b → (Value.slice (some ⟨z + 2, 0, none⟩) 0 0).ownBlock ≠ some b from fun b hb he => by simp [Value.ownBlock] at he; subst he; exact HNE.out hb)
      obtain ⟨lsb, hlsb⟩ : ∃ m, m = l := ⟨_, rfl⟩
      rw [← hlsb] at HLL OWL
      clear ow8 hlt hlt' hk g1 hll HLK OW HNE hlsb
      go_loopw [8, 10] (fun u i wr => ∃ (k : Nat) (l : List Bool), (k : Int) ≤ x.n ∧ i = .int .i64 k ∧ l.length = k ∧ DSt w w5 wr p z a len cap ∧ wr.ownsRow (z + 1) 4 1 u l.length (flat blE l) ∧ wr.ownsRow (z + 1) 4 1 u7 lsb.length (flat blE lsb) ∧ (∀ b, u7.ownBlock = some b → u.ownBlock ≠ some b)) (fun _ i _ => 7 - (intOf i).toNat)
      case atStart => exact ⟨0, [], by have := netOkI_n HOK.out; omega, rfl, rfl, ST.out, OW8.out, OWL.out, HAP.out⟩
      case round =>
        clear ST OW8 HZ3 hzs
        clear OWL HAP
        obtain ⟨k, l, hk, rfl, hlk, st, hown, hownl, hap⟩ := hrel
        have OWL := hide hownl
        have HAP := hide hap
        clear hownl hap
        have hbx : wr.heap[z]? = some (.cells #[.int .i64 x.n, .slice b1 x.ls.length c1, .slice b2 x.ts.length c2] 27) := by rw [st.kept z (by omega) (by omega)]; exact HBX.out
        have g0 := cells_at hbx 0
        have g1 := cells_at hbx 1
        have g2 := cells_at hbx 2
        simp at g0 g1 g2
        have hll : l.length ≤ k := by omega
        have HLK := hide hlk
        have OW := hide hown
        have ST := hide st
        clear hlk hown st hbx
        have hn6 := netOkI_n HOK.out
        by_cases hlt : (k : Int) < x.n
        · go_wp2_with fail
          refine (once_any p a len cap 8 _ ST.out.cur (by omega) (by omega)).mono ?_
          rintro e w6 ⟨q, rfl, hc6, hg6⟩
          have st6 := ST.out.grown hc6 hg6 (by omega)
          have o6 := kept_otherN OW.out hg6 (by omega)
          have ol6 := kept_otherN OWL.out hg6 (by omega)
          have OL6 := hide ol6
          clear ol6 OWL
          have hs6 := st6.size
          have ST6 := hide st6
          have OW6 := hide o6
          clear hc6 hg6 st6 o6 ST OW
          go_wp2_with (first
            | (at_builtin; refine wpList_append_bool _ rfl _ _ 28 rfl (z + 1) 4 Try.underlying28 Try.infoB u8 l (!q) rfl (OW6.out.alloc _) ⟨w6.heap.size, 0, none⟩ 1 rfl (news_struct (cs := blE (!q))) (by omega) (by simp; omega) ?_))
          intro v' w7 l' hl' hown' hgrow hblk
          have st7 := ST6.out.appended _ OW6.out hzz hzw hgrow
          have OL7 := hide (owns_keepB (OL6.out.alloc _) (fun j hj => hgrow.block j ((OL6.out.alloc _).lt j hj).2 (fun e => HAP.out j hj e.symm)))
          have HAP7 := hide (show ∀ b, u7.ownBlock = some b → v'.ownBlock ≠ some b from fun b hb he => by
            rcases hblk with h | h
            · rw [h] at he; exact HAP.out b hb he
            · rw [h] at he
              have := (OL6.out.lt b hb).2
              simp at he
              omega)
          clear HAP OL6
          have ST7 := hide st7
          have OW7 := hide hown'
          clear st7 hown' hgrow hblk ST6 OW6
          go_wp2
          go_roundw
          case rel => exact ⟨k + 1, l', by omega, by go_num, by rw [hl'.out]; simp [HLK.out], ST7.out, OW7.out, OL7.out, HAP7.out⟩
          case measure => simp [intOf]; omega
        · have hr : wr.heap[w.heap.size]? = some (.cells #[.int .i64 0, .slice none 0 0, .slice none 0 0] 27) := by
            rw [ST.out.kept _ (by omega) (by omega), HW5.out, Below.heap_alloc _ _ _ (lt_of_heap HR2.out)]; exact HR2.out
          have r0 := cells_at hr 0
          have r1 := cells_at hr 1
          have r2 := cells_at hr 2
          have f0 := frozen_at hr 0
          have f1 := frozen_at hr 1
          have f2 := frozen_at hr 2
          simp at r0 r1 r2
          have HR := hide hr
          clear hr
          go_wp2
          obtain ⟨W, hW⟩ : ∃ W, W = (((wr.setCell ⟨w.heap.size, 0, none⟩ (.int .i64 x.n)).setCell ⟨w.heap.size, 1, none⟩ (.slice b1 x.ls.length c1)).setCell ⟨w.heap.size, 2, none⟩ (.slice b2 x.ts.length c2)) := ⟨_, rfl⟩
          have hfin : W.heap[w.heap.size]? = some (.cells #[.int .i64 x.n, .slice b1 x.ls.length c1, .slice b2 x.ts.length c2] 27) := by
            have k1 := heap_setCell_same _ _ 0 _ _ (.int .i64 x.n) HR.out
            have k2 := heap_setCell_same _ _ 1 _ _ (.slice b1 x.ls.length c1) k1
            have k3 := heap_setCell_same _ _ 2 _ _ (.slice b2 x.ts.length c2) k2
            rw [hW]
            exact k3
          have hkw : ∀ b, b < z → b ≠ p → wr.heap[b]? = w2.heap[b]? := fun b hb hbp => by
            rw [ST.out.kept b (by omega) hbp, HW5.out, Below.heap_alloc _ _ _ (by rw [← HZ.out]; exact hb)]
          have p1 : W.ownsRow w1.heap.size 91 4 (.slice b1 x.ls.length c1) x.ls.length (flat lkE x.ls) := by
            rw [hW]; exact owns_set (owns_set (owns_set (owns_moved O1.out (by rw [← HZ.out]; exact Nat.le_refl _) hpw hkw) (by omega)) (by omega)) (by omega)
          have p2 : W.ownsRow w1.heap.size 61 4 (.slice b2 x.ts.length c2) x.ts.length (flat thE x.ts) := by
            rw [hW]; exact owns_set (owns_set (owns_set (owns_moved O2.out (by rw [← HZ.out]; exact Nat.le_refl _) hpw hkw) (by omega)) (by omega)) (by omega)
          have BW : Below w.heap.size w W := by
            rw [hW]
            exact ((ST.out.bel.setCell (by show w.heap.size ≤ w.heap.size; omega) _).setCell (by show w.heap.size ≤ w.heap.size; omega) _).setCell (by show w.heap.size ≤ w.heap.size; omega) _
          rw [← hW]
          have NT : NetAt W (.agg #[.int .i64 x.n, .slice b1 x.ls.length c1, .slice b2 x.ts.length c2]) x W.heap.size := ⟨_, _, rfl, owns_rowAt p1, owns_rowAt p2⟩
          have HNT := hide NT
          have HBL := hide (show BoolsAt W u7 lsb W.heap.size ∧ BoolsAt W u8 l W.heap.size ∧ lsb.length = x.ls.length ∧ (l.length : Int) = x.n from ⟨owns_rowAt (by rw [hW]; exact owns_set (owns_set (owns_set OWL.out (by omega)) (by omega)) (by omega)), owns_rowAt (by rw [hW]; exact owns_set (owns_set (owns_set OW.out (by omega)) (by omega)) (by omega)), HLL.out, by have := HLK.out; omega⟩)
          clear hW hkw p1 p2 NT r0 r1 r2 f0 f1 f2 HR
          have r0 := cells_at hfin 0
          have r1 := cells_at hfin 1
          have r2 := cells_at hfin 2
          simp at r0 r1 r2
          clear hfin
          (try simp only [Exit.inBlock, Exit.then])
          refine bodyPost_ret (v := .tuple #[.agg #[.int .i64 x.n, .slice b1 x.ls.length c1, .slice b2 x.ts.length c2], u7, u8]) (by simp [results, Try.results5, go_sem, r0, r1, r2]) rfl ?_
          exact ⟨x, _, _, _, rfl, HOK.out, HNT.out, ⟨lsb, l, HBL⟩, BW⟩
end Go.Proofs.Ytbknmgobmnjphaa
namespace Go.Proofs.Ytbknmgobmnjphaa

/-- the same things in the first n places, in another order; behind them nothing is turned -/
structure Shuf (q q' : Nat → Nat) (n : Nat) : Prop where
  into : ∀ i, i < n → ∃ j, j < n ∧ q' i = q j
  onto : ∀ j, j < n → ∃ i, i < n ∧ q' i = q j
  inj : (∀ i j, i < n → j < n → q i = q j → i = j) → (∀ i j, i < n → j < n → q' i = q' j → i = j)
  rest : ∀ x, n ≤ x → q' x = q x

theorem Shuf.refl (q : Nat → Nat) (n : Nat) : Shuf q q n := ⟨fun i h => ⟨i, h, rfl⟩, fun j h => ⟨j, h, rfl⟩, fun h => h, fun _ _ => rfl⟩

theorem Shuf.trans {q q' q'' : Nat → Nat} {n : Nat} (a : Shuf q q' n) (b : Shuf q' q'' n) : Shuf q q'' n := by
  refine ⟨fun i h => ?_, fun j h => ?_, fun h => b.inj (a.inj h), fun x hx => (b.rest x hx).trans (a.rest x hx)⟩
  · obtain ⟨j, hj, e⟩ := b.into i h
    obtain ⟨k, hk, e2⟩ := a.into j hj
    exact ⟨k, hk, e.trans e2⟩
  · obtain ⟨i, hi, e⟩ := a.onto j h
    obtain ⟨k, hk, e2⟩ := b.onto i hi
    exact ⟨k, hk, e2.trans e⟩

theorem Shuf.more {q q' : Nat → Nat} {n m : Nat} (a : Shuf q q' n) (h : n ≤ m) : Shuf q q' m := by
  refine ⟨fun i hi => ?_, fun j hj => ?_, fun hinj x y hx hy e => ?_, fun x hx => a.rest x (by omega)⟩
  · by_cases e : i < n
    · obtain ⟨j, hj, e2⟩ := a.into i e; exact ⟨j, by omega, e2⟩
    · exact ⟨i, hi, a.rest i (by omega)⟩
  · by_cases e : j < n
    · obtain ⟨i, hi, e2⟩ := a.onto j e; exact ⟨i, by omega, e2⟩
    · exact ⟨j, hj, a.rest j (by omega)⟩
  · by_cases e1 : x < n <;> by_cases e2 : y < n
    · exact a.inj (fun i j hi hj => hinj i j (by omega) (by omega)) x y e1 e2 e
    · obtain ⟨j, hj, e3⟩ := a.into x e1
      rw [e3, a.rest y (by omega)] at e
      have := hinj j y (by omega) hy e; omega
    · obtain ⟨j, hj, e3⟩ := a.into y e2
      rw [e3, a.rest x (by omega)] at e
      have := hinj x j hx (by omega) e; omega
    · rw [a.rest x (by omega), a.rest y (by omega)] at e
      exact hinj x y hx hy e

end Go.Proofs.Ytbknmgobmnjphaa
namespace Go.Proofs.Ytbknmgobmnjphaa

def cOf (bp : Nat → Option Nat) (wd : Nat → WayD) (v : Nat) : Int := match bp v with
  | some k => (wd k).cost
  | none => -1

def hOf (bp : Nat → Option Nat) (wd : Nat → WayD) (v : Nat) : List Int := match bp v with
  | some k => (wd k).hops
  | none => []

theorem cOf_some {bp : Nat → Option Nat} {wd : Nat → WayD} {v k : Nat} (h : bp v = some k) : cOf bp wd v = (wd k).cost := by unfold cOf; rw [h]

theorem hOf_some {bp : Nat → Option Nat} {wd : Nat → WayD} {v k : Nat} (h : bp v = some k) : hOf bp wd v = (wd k).hops := by unfold hOf; rw [h]

/-- the best ways bp (by node) and the row q of n that are next, over the ways wd -/
structure GI (F : Nat → Bool) (c : Nat → Int) (h : Nat → List Int) (n : Nat) (q : Nat → Nat) (bp : Nat → Option Nat) (wd : Nat → WayD) : Prop where
  cc : ∀ v, cOf bp wd v = c v
  hh : ∀ v, hOf bp wd v = h v
  to : ∀ v k, bp v = some k → (wd k).to = (v : Int)
  ent : ∀ i, i < n → ∃ v kb : Nat, (wd (q i)).to = (v : Int) ∧ bp v = some kb ∧ ((q i = kb ∧ F v = false) ∨ (wd kb).cost < (wd (q i)).cost)
  live : ∀ v k, bp v = some k → F v = false → ∃ i, i < n ∧ q i = k
  inj : ∀ i j, i < n → j < n → q i = q j → i = j
  nn : ∀ v k, bp v = some k → 0 ≤ (wd k).cost

theorem GI.push {F : Nat → Bool} {c : Nat → Int} {h : Nat → List Int} {n : Nat} {q q' : Nat → Nat} {bp : Nat → Option Nat} {wd : Nat → WayD} (g : GI F c h n q bp wd) {t k : Nat} {x : WayD} (hF : F t = false) (hx : x.to = (t : Int)) (hc : c t < 0 ∨ x.cost < c t)
    (hk1 : ∀ i, i < n → q i ≠ k) (hk2 : ∀ v, bp v ≠ some k) (hs : Shuf (fun y => if y = n then k else q y) q' (n + 1)) (hx0 : 0 ≤ x.cost) : GI F (upd c t x.cost) (upd h t x.hops) (n + 1) q' (upd bp t (some k)) (upd wd k x) := by
  have wk : ∀ i, i < n → upd wd k x (q i) = wd (q i) := fun i hi => upd_other _ _ (hk1 i hi)
  have wb : ∀ v k', bp v = some k' → upd wd k x k' = wd k' := fun v k' e => upd_other _ _ (fun e2 => hk2 v (by rw [e, e2]))
  have hin : ∀ i, i < n + 1 → q' i = k ∨ ∃ j, j < n ∧ q' i = q j := by
    intro i hi
    obtain ⟨j, hj, e⟩ := hs.into i hi
    by_cases e2 : j = n
    · left; rw [e]; exact if_pos e2
    · right
      refine ⟨j, by omega, ?_⟩
      rw [e]
      exact if_neg e2
  refine ⟨fun v => ?_, fun v => ?_, fun v k' e => ?_, fun i hi => ?_, fun v k' e hFv => ?_, ?_, fun v k' e => ?_⟩
  · by_cases e : v = t
    · subst e
      rw [cOf_some (k := k) (upd_same _ _ _), upd_same, upd_same]
    · rw [upd_other _ _ e, ← g.cc v]
      unfold cOf
      rw [upd_other _ _ e]
      cases e2 : bp v with
      | none => rfl
      | some k' => show (upd wd k x k').cost = (wd k').cost; rw [wb v k' e2]
  · by_cases e : v = t
    · subst e
      rw [hOf_some (k := k) (upd_same _ _ _), upd_same, upd_same]
    · rw [upd_other _ _ e, ← g.hh v]
      unfold hOf
      rw [upd_other _ _ e]
      cases e2 : bp v with
      | none => rfl
      | some k' => show (upd wd k x k').hops = (wd k').hops; rw [wb v k' e2]
  · by_cases e2 : v = t
    · subst e2
      rw [upd_same] at e
      cases e
      rw [upd_same]; exact hx
    · rw [upd_other _ _ e2] at e
      rw [wb v k' e]; exact g.to v k' e
  · rcases hin i hi with e | ⟨j, hj, e⟩
    · refine ⟨t, k, ?_, upd_same _ _ _, .inl ⟨e, hF⟩⟩
      rw [e, upd_same]; exact hx
    · obtain ⟨v, kb, h1, h2, h3⟩ := g.ent j hj
      rw [e, wk j hj]
      by_cases ev : v = t
      · subst ev
        refine ⟨v, k, h1, upd_same _ _ _, .inr ?_⟩
        rw [upd_same]
        have hcv := g.cc v
        rw [cOf_some h2] at hcv
        have h0 := g.nn v kb h2
        rcases h3 with ⟨h4, _⟩ | h4
        · rw [h4]; omega
        · omega
      · refine ⟨v, kb, h1, by rw [upd_other _ _ ev]; exact h2, ?_⟩
        rw [wb v kb h2]
        exact h3
  · by_cases e2 : v = t
    · subst e2
      rw [upd_same] at e
      cases e
      obtain ⟨i, hi, e3⟩ := hs.onto n (by omega)
      exact ⟨i, hi, by rw [e3]; exact if_pos rfl⟩
    · rw [upd_other _ _ e2] at e
      obtain ⟨j, hj, e3⟩ := g.live v k' e hFv
      obtain ⟨i, hi, e4⟩ := hs.onto j (by omega)
      refine ⟨i, hi, ?_⟩
      rw [e4, ← e3]
      exact if_neg (by omega)
  · refine hs.inj (fun i j hi hj e => ?_)
    by_cases ei : i = n <;> by_cases ej : j = n
    · omega
    · have e2 : k = q j := by simpa [ei, ej] using e
      exact absurd e2.symm (hk1 j (by omega))
    · have e2 : q i = k := by simpa [ei, ej] using e
      exact absurd e2 (hk1 i (by omega))
    · have e2 : q i = q j := by simpa [ei, ej] using e
      exact g.inj i j (by omega) (by omega) e2
  · by_cases e2 : v = t
    · subst e2
      rw [upd_same] at e
      cases e
      rw [upd_same]; exact hx0
    · rw [upd_other _ _ e2] at e
      rw [wb v k' e]; exact g.nn v k' e

theorem GI.join {F : Nat → Bool} {c : Nat → Int} {h : Nat → List Int} {n : Nat} {q : Nat → Nat} {bp : Nat → Option Nat} {wd : Nat → WayD} (g : GI F c h n q bp wd) {t k : Nat} {y : WayD} (hb : bp t = some k) (hc : y.cost = (wd k).cost) (ht : y.to = (wd k).to) : GI F c (upd h t y.hops) n q bp (upd wd k y) := by
  have hcost : ∀ k', (upd wd k y k').cost = (wd k').cost := by
    intro k'
    by_cases e : k' = k
    · rw [e, upd_same]; exact hc
    · rw [upd_other _ _ e]
  have hto : ∀ k', (upd wd k y k').to = (wd k').to := by
    intro k'
    by_cases e : k' = k
    · rw [e, upd_same]; exact ht
    · rw [upd_other _ _ e]
  refine ⟨fun v => ?_, fun v => ?_, fun v k' e => ?_, fun i hi => ?_, g.live, g.inj, fun v k' e => by rw [hcost]; exact g.nn v k' e⟩
  · rw [← g.cc v]
    unfold cOf
    cases bp v with
    | none => rfl
    | some k' => exact hcost k'
  · by_cases e : v = t
    · subst e
      rw [hOf_some hb, upd_same, upd_same]
    · rw [upd_other _ _ e, ← g.hh v]
      unfold hOf
      cases e2 : bp v with
      | none => rfl
      | some k' =>
        show (upd wd k y k').hops = (wd k').hops
        rw [upd_other]
        intro e3
        subst e3
        have h1 := g.to v k' e2
        have h2 := g.to t k' hb
        omega
  · rw [hto]; exact g.to v k' e
  · obtain ⟨v, kb, h1, h2, h3⟩ := g.ent i hi
    refine ⟨v, kb, by rw [hto]; exact h1, h2, ?_⟩
    rw [hcost, hcost]
    exact h3

theorem asc_addL {l a b : List Int} (hl : l.Pairwise (· < ·)) (hm : ∀ x, x ∈ l ↔ (x ∈ a ∨ x ∈ b)) (hr : ∀ x, x ∈ l → 1 ≤ x ∧ x ≤ 6) : l = addL a b := by
  refine asc_ext hl (addL_asc a b) (fun x => ?_)
  rw [addL_mem]
  constructor
  · intro hx
    have := hr x hx
    exact ⟨this.1, this.2, (hm x).1 hx⟩
  · rintro ⟨_, _, h3⟩
    exact (hm x).2 h3

end Go.Proofs.Ytbknmgobmnjphaa
namespace Go.Proofs.Ytbknmgobmnjphaa
open Go.RowKit

def rank2 (far : Bool) (f c : Int) : Int := if far then 4000000000000 + f * 1000000 + c else 3000000000000 + c

/-- what one counts of an offer: far, cost -/
def moreT (far : Bool) (c : Int) : Int := if far then c else 0
def costT (far : Bool) (c k : Int) : Int := if far then k else k + c

theorem rank2_F (far : Bool) (c k : Int) : rank2 far (moreT far c) (costT far c k) = rankF far c k := by
  unfold rank2 moreT costT rankF
  cases far
  · simp; omega
  · simp

structure ThIn (key : Int) (far : Bool) (q : RtD) : Prop where
  thing : q.thing = true
  to : q.to = key
  kind : q.kind = if far then 4 else 3
  cost : 0 ≤ q.cost ∧ q.cost ≤ 61000
  far : 0 ≤ q.far ∧ q.far ≤ 1000 ∧ (far = false → q.far = 0)

def zeroT (key : Int) : RtD := ⟨true, key, 3, 0, 0, []⟩

/-- the collecting under way: what is found (F), and the best so far -/
def ThSt (key : Int) (far : Bool) (F : Bool) (q : RtD) (S : WayD → Prop) : Prop :=
  if F then ThIn key far q ∧ BestOf key S (some ⟨key, rank2 far q.far q.cost, q.hops⟩) else q = zeroT key ∧ BestOf key S none

theorem ThIn.rt {key : Int} {far : Bool} {q : RtD} (h : ThIn key far q) : rtOf ⟨key, rank2 far q.far q.cost, q.hops⟩ = q := by
  obtain ⟨h1, h2, h3, h4, h5⟩ := h
  obtain ⟨th, to, kind, cost, fa, hops⟩ := q
  simp only at h1 h2 h3 h4 h5
  subst h1
  subst h2
  subst h3
  unfold rtOf rank2
  cases far
  · have h6 : fa = 0 := h5.2.2 rfl
    subst h6
    simp only [Bool.false_eq_true, if_false]
    rw [if_pos (by omega)]
    congr 1
    omega
  · simp only [if_true]
    rw [if_neg (by omega)]
    congr 1 <;> omega

theorem addL_nil {l : List Int} (ha : l.Pairwise (· < ·)) (h6 : Hop6 l) : addL [] l = l :=
  (asc_addL ha (fun x => by simp) h6).symm

theorem rank2_lt {far : Bool} {f c f' c' : Int} (h0 : 0 ≤ c) (h1 : c ≤ 61000) (h0' : 0 ≤ c') (h1' : c' ≤ 61000) (hf : far = false → f = 0) (hf' : far = false → f' = 0) : rank2 far f c < rank2 far f' c' ↔ f < f' ∨ (f = f' ∧ c < c') := by
  unfold rank2
  cases far
  · have := hf rfl
    have := hf' rfl
    simp only [Bool.false_eq_true, if_false]
    omega
  · simp only [if_true]
    omega

/-- an offer that is better than all so far, or the first -/
theorem ThSt.less {key : Int} {far F : Bool} {q : RtD} {S : WayD → Prop} {m c : Int} {l : List Int} (h : ThSt key far F q S) (hS : ∀ w, S w → Hop6 w.hops) (hl : F = true → m < q.far ∨ (m = q.far ∧ c < q.cost))
    (hm : 0 ≤ m ∧ m ≤ 1000 ∧ (far = false → m = 0)) (hc : 0 ≤ c ∧ c ≤ 61000) (ha : l.Pairwise (· < ·)) (h6 : Hop6 l) :
    ThSt key far true ⟨true, key, if far then 4 else 3, c, m, l⟩ (fun x => S x ∨ x = ⟨key, rank2 far m c, l⟩) := by
  unfold ThSt at h ⊢
  rw [if_pos rfl]
  refine ⟨⟨rfl, rfl, rfl, hc, hm⟩, ?_⟩
  cases F
  · rw [if_neg (by simp)] at h
    exact h.2.add togOk_D hS (w := ⟨key, rank2 far m c, l⟩) rfl ha h6
  · rw [if_pos rfl] at h
    obtain ⟨hq, hb⟩ := h
    have h1 := hb.add togOk_D hS (w := ⟨key, rank2 far m c, l⟩) rfl ha h6
    have h2 : rank2 far m c < rank2 far q.far q.cost := (rank2_lt hc.1 hc.2 hq.cost.1 hq.cost.2 hm.2.2 hq.far.2.2).2 (hl rfl)
    have e : togD ⟨key, rank2 far q.far q.cost, q.hops⟩ ⟨key, rank2 far m c, l⟩ = ⟨key, rank2 far m c, l⟩ := by
      unfold togD betterB
      rw [if_neg (by simp; omega), if_pos (by simpa using h2)]
    have h3 : moreW togD (some ⟨key, rank2 far q.far q.cost, q.hops⟩) (some ⟨key, rank2 far m c, l⟩) = some ⟨key, rank2 far m c, l⟩ := by unfold moreW; simp only []; rw [e]
    rw [h3] at h1
    exact h1

/-- an offer as good as the best -/
theorem ThSt.like {key : Int} {far : Bool} {q : RtD} {S : WayD → Prop} {l : List Int} (h : ThSt key far true q S) (hS : ∀ w, S w → Hop6 w.hops) (ha : l.Pairwise (· < ·)) (h6 : Hop6 l) :
    ThSt key far true ⟨true, key, if far then 4 else 3, q.cost, q.far, addL q.hops l⟩ (fun x => S x ∨ x = ⟨key, rank2 far q.far q.cost, l⟩) := by
  unfold ThSt at h ⊢
  rw [if_pos rfl] at h ⊢
  obtain ⟨hq, hb⟩ := h
  refine ⟨⟨rfl, rfl, rfl, hq.cost, hq.far⟩, ?_⟩
  have h1 := hb.add togOk_D hS (w := ⟨key, rank2 far q.far q.cost, l⟩) rfl ha h6
  have e : togD ⟨key, rank2 far q.far q.cost, q.hops⟩ ⟨key, rank2 far q.far q.cost, l⟩ = ⟨key, rank2 far q.far q.cost, addL q.hops l⟩ := by
    unfold togD betterB
    rw [if_neg (by simp), if_neg (by simp)]
  have h3 : moreW togD (some ⟨key, rank2 far q.far q.cost, q.hops⟩) (some ⟨key, rank2 far q.far q.cost, l⟩) = some ⟨key, rank2 far q.far q.cost, addL q.hops l⟩ := by unfold moreW; simp only []; rw [e]
  rw [h3] at h1
  exact h1

/-- an offer that is worse -/
theorem ThSt.worse {key : Int} {far : Bool} {q : RtD} {S : WayD → Prop} {m c : Int} {l : List Int} (h : ThSt key far true q S) (hS : ∀ w, S w → Hop6 w.hops) (hl : ¬ (m < q.far ∨ (m = q.far ∧ c < q.cost))) (hn : ¬ (m = q.far ∧ c = q.cost))
    (hm : 0 ≤ m ∧ m ≤ 1000 ∧ (far = false → m = 0)) (hc : 0 ≤ c ∧ c ≤ 61000) (ha : l.Pairwise (· < ·)) (h6 : Hop6 l) :
    ThSt key far true q (fun x => S x ∨ x = ⟨key, rank2 far m c, l⟩) := by
  unfold ThSt at h ⊢
  rw [if_pos rfl] at h ⊢
  obtain ⟨hq, hb⟩ := h
  refine ⟨hq, ?_⟩
  have h1 := hb.add togOk_D hS (w := ⟨key, rank2 far m c, l⟩) rfl ha h6
  have h2 : rank2 far q.far q.cost < rank2 far m c := (rank2_lt hq.cost.1 hq.cost.2 hc.1 hc.2 hq.far.2.2 hm.2.2).2 (by omega)
  have e : togD ⟨key, rank2 far q.far q.cost, q.hops⟩ ⟨key, rank2 far m c, l⟩ = ⟨key, rank2 far q.far q.cost, q.hops⟩ := by
    unfold togD betterB
    rw [if_pos (by simpa using h2)]
  have h3 : moreW togD (some ⟨key, rank2 far q.far q.cost, q.hops⟩) (some ⟨key, rank2 far m c, l⟩) = some ⟨key, rank2 far q.far q.cost, q.hops⟩ := by unfold moreW; simp only []; rw [e]
  rw [h3] at h1
  exact h1

theorem ThSt.congr {key : Int} {far F : Bool} {q : RtD} {S T : WayD → Prop} (h : ThSt key far F q S) (e : ∀ d, S d ↔ T d) : ThSt key far F q T := by
  have : S = T := funext fun w => propext (e w)
  rw [← this]
  exact h

/-- the offers of a thing by the first k records, near ones or far ones -/
def thK (xs : List RecD) (ds es : List WayD) (src key : Int) (far : Bool) (k : Nat) (d : WayD) : Prop := ∃ r ∈ xs.take k, r.key = key ∧ r.far = far ∧ offersOf ds es src r d

theorem thK_step {xs : List RecD} {ds es : List WayD} {src key : Int} {far : Bool} {k : Nat} {r : RecD} (h : xs[k]? = some r) (d : WayD) : thK xs ds es src key far (k + 1) d ↔ thK xs ds es src key far k d ∨ (r.key = key ∧ r.far = far ∧ offersOf ds es src r d) := by
  obtain ⟨hk, e⟩ := List.getElem?_eq_some_iff.1 h
  unfold thK
  rw [List.take_succ_eq_append_getElem hk, e]
  constructor
  · rintro ⟨x, hx, ht⟩
    rcases List.mem_append.1 hx with h1 | h1
    · exact .inl ⟨x, h1, ht⟩
    · have : x = r := by simpa using h1
      subst this
      exact .inr ht
  · rintro (⟨x, hx, ht⟩ | ht)
    · exact ⟨x, List.mem_append.2 (.inl hx), ht⟩
    · exact ⟨r, List.mem_append.2 (.inr (by simp)), ht⟩

theorem thK_quiet {xs : List RecD} {ds es : List WayD} {src key : Int} {far F : Bool} {k : Nat} {r : RecD} {q : RtD} (h : xs[k]? = some r) (hst : ThSt key far F q (thK xs ds es src key far k)) (hn : r.key = key → r.far = far → ∀ d, ¬ offersOf ds es src r d) : ThSt key far F q (thK xs ds es src key far (k + 1)) :=
  hst.congr (fun d => by
    rw [thK_step h]
    exact ⟨.inl, fun h' => by
      rcases h' with h1 | ⟨h1, h2, h3⟩
      · exact h1
      · exact absurd h3 (hn h1 h2 d)⟩)

theorem thK_more {xs : List RecD} {ds es : List WayD} {src key : Int} {far : Bool} {k : Nat} {r : RecD} {e : WayD} (h : xs[k]? = some r) (h1 : r.key = key) (h2 : r.far = far) (h3 : offersOf ds es src r e) (d : WayD) : (thK xs ds es src key far k d ∨ d = e) ↔ thK xs ds es src key far (k + 1) d := by
  rw [thK_step h]
  constructor
  · rintro (h' | rfl)
    · exact .inl h'
    · exact .inr ⟨h1, h2, h3⟩
  · rintro (h' | ⟨_, _, h'⟩)
    · exact .inl h'
    · exact .inr (offersOf_one h' h3)

theorem thK_hop {xs : List RecD} {ds es : List WayD} {src key : Int} {far : Bool} {k : Nat} (hs : storeB xs = true) (hd : GoodL ds) (he : GoodL es) : ∀ w, thK xs ds es src key far k w → Hop6 w.hops := by
  rintro w ⟨r, hr, _, _, h⟩
  exact (offersOf_good hs (List.mem_of_mem_take hr) hd he h).hop6

theorem thK_zero {xs : List RecD} {ds es : List WayD} {src key : Int} {far : Bool} : ThSt key far false (zeroT key) (thK xs ds es src key far 0) := by
  unfold ThSt
  rw [if_neg (by simp)]
  exact ⟨rfl, fun w ⟨r, hr, _⟩ => by simp at hr⟩

/-- near ones are ahead of far ones -/
theorem thing_near {xs : List RecD} {ds es : List WayD} {src key : Int} {q : RtD} (hs : storeB xs = true) (hd : GoodL ds) (he : GoodL es) (h : ThSt key false true q (thK xs ds es src key false xs.length)) : ThIn key false q ∧ BestOf key (thingS xs ds es src key) (some ⟨key, rank2 false q.far q.cost, q.hops⟩) := by
  unfold ThSt at h
  rw [if_pos rfl] at h
  obtain ⟨hq, h1, ⟨u, ⟨r, hr, hk, hf, ho⟩, hc⟩, h3, h4, h5⟩ := h
  rw [List.take_length] at hr
  have hto : ∀ (r : RecD) (w : WayD), offersOf ds es src r w → w.to = r.key := by rintro r w ⟨_, _, v, _, rfl⟩; rfl
  have hlow : rank2 false q.far q.cost ≤ 3000000061000 := by unfold rank2; simp; have := hq.cost; omega
  have hfar : ∀ (r : RecD) (w : WayD), r ∈ xs → r.far = true → offersOf ds es src r w → 4000000000000 ≤ w.cost := by
    rintro r w hr hf ho
    have hg := offersOf_good hs hr hd he ho
    obtain ⟨h1, h2, v, h3, rfl⟩ := ho
    have := ownerW_good hd he h3
    have := rec_thing hs hr h1 h2
    show 4000000000000 ≤ rankF r.far r.cost v.cost
    unfold rankF
    rw [if_pos hf]
    omega
  refine ⟨hq, h1, ⟨u, ⟨by rw [hto r u ho, hk], r, hr, ho⟩, hc⟩, ?_, h4, ?_⟩
  · rintro w ⟨e, r', hr', ho'⟩
    cases hf' : r'.far
    · exact h3 w ⟨r', by rw [List.take_length]; exact hr', by rw [← e, hto r' w ho'], hf', ho'⟩
    · have := hfar r' w hr' hf' ho'
      show rank2 false q.far q.cost ≤ w.cost
      omega
  · intro x
    rw [h5 x]
    constructor
    · rintro ⟨w, ⟨r', hr', hk', hf', ho'⟩, e, hx⟩
      rw [List.take_length] at hr'
      exact ⟨w, ⟨by rw [hto r' w ho', hk'], r', hr', ho'⟩, e, hx⟩
    · rintro ⟨w, ⟨e, r', hr', ho'⟩, ec, hx⟩
      cases hf' : r'.far
      · exact ⟨w, ⟨r', by rw [List.take_length]; exact hr', by rw [← e, hto r' w ho'], hf', ho'⟩, ec, hx⟩
      · have := hfar r' w hr' hf' ho'
        simp only at ec
        omega

/-- no near one: the far ones -/
theorem thing_far {xs : List RecD} {ds es : List WayD} {src key : Int} {F : Bool} {q q0 : RtD} (h0 : ThSt key false false q0 (thK xs ds es src key false xs.length)) (h : ThSt key true F q (thK xs ds es src key true xs.length)) : ThSt key true F q (thingS xs ds es src key) := by
  refine h.congr (fun d => ?_)
  unfold ThSt at h0
  rw [if_neg (by simp)] at h0
  have hto : ∀ (r : RecD) (w : WayD), offersOf ds es src r w → w.to = r.key := by rintro r w ⟨_, _, v, _, rfl⟩; rfl
  constructor
  · rintro ⟨r, hr, hk, _, ho⟩
    rw [List.take_length] at hr
    exact ⟨by rw [hto r d ho, hk], r, hr, ho⟩
  · rintro ⟨e, r, hr, ho⟩
    cases hf : r.far
    · exact absurd ⟨r, by rw [List.take_length]; exact hr, by rw [← e, hto r d ho], hf, ho⟩ (h0.2 d)
    · exact ⟨r, by rw [List.take_length]; exact hr, by rw [← e, hto r d ho], hf, ho⟩
end Go.Proofs.Ytbknmgobmnjphaa
