/-
  impl.otherEnds, impl.NextTo: their contracts.
-/
import Derived.Test.YtlkbodppkljoiaaICost
import Derived.Test.YtlkbodppkljoiaaILink
import Derived.Maps.AppendAt
import Derived.Test.YtlkbodppkljoiaaIntRow
import Derived.Test.YtlkbodppkljoiaaShelf
import Derived.Lib.OwnBridge
import Derived.Sort.OwnSortedInts
namespace Go.Proofs.Ytlkbodppkljoiaa
open Go.RowKit

theorem new_int (w : World) (o : Obj) (z : Int) (t : TypeId) : ((w.alloc o).alloc (.cells #[.int .i64 z] t)).cell? ((⟨w.heap.size + 1, 0, none⟩ : Addr).add 0) = some (.int .i64 z) := by
  have hs : (w.alloc o).heap.size = w.heap.size + 1 := by simp
  rw [add_zero', ← hs]
  exact cells_at (heap_alloc_new (w.alloc o) (.cells #[.int .i64 z] t)) 0

def hit1 (f r : Int) (l : Lk) : List Int := if l.a = f ∧ l.r = r then [l.b] else []

def hit2 (f r : Int) (l : Lk) : List Int := if l.b = f ∧ l.r = r then [l.a] else []

def hits (f r : Int) (l : Lk) : List Int := hit1 f r l ++ hit2 f r l

def gath (ls : List Lk) (f r : Int) (k : Nat) : List Int := (ls.take k).flatMap (hits f r)

theorem gath_succ {ls : List Lk} {f r : Int} {k : Nat} {l : Lk} (h : ls[k]? = some l) : gath ls f r (k + 1) = gath ls f r k ++ hit1 f r l ++ hit2 f r l := by
  obtain ⟨hk, e⟩ := List.getElem?_eq_some_iff.1 h
  unfold gath
  rw [List.take_succ_eq_append_getElem hk, List.flatMap_append, e]
  simp [hits]

theorem hits_len (f r : Int) (l : Lk) : (hits f r l).length ≤ 2 := by
  unfold hits hit1 hit2
  split <;> split <;> simp

theorem gath_len (ls : List Lk) (f r : Int) (k : Nat) : (gath ls f r k).length ≤ 2 * k := by
  induction k with
  | zero => simp [gath]
  | succ k ih =>
    by_cases hk : k < ls.length
    · have h1 := hits_len f r ls[k]
      rw [gath_succ (List.getElem?_eq_getElem hk)]
      unfold hits at h1
      simp only [List.length_append] at h1 ⊢
      omega
    · have e : gath ls f r (k + 1) = gath ls f r k := by unfold gath; rw [List.take_of_length_le (by omega), List.take_of_length_le (by omega)]
      rw [e]; omega

def nextI (ls : List Lk) (f r : Int) : List Int := Lib.compact ((gath ls f r ls.length).mergeSort fun x y => decide (x ≤ y))

open Go.Sort Go.Lib in
/-- slices.Sort of a row of the call's own -/
theorem sort_own (base : Nat) (u : Value) (zs : List Int) (w : World) (hown : w.ownsRow base 3 1 u zs.length (intsOf zs)) (hz : zs.length ≤ 1000000000) :
    Calls Try.prog 30 #[u] w fun e w' => e = .returned (.tuple #[]) ∧ w'.ownsRow base 3 1 u (zs.mergeSort fun x y => decide (x ≤ y)).length (intsOf (zs.mergeSort fun x y => decide (x ≤ y))) ∧ (∀ B w0, B ≤ base → Below B w0 w → Below B w0 w') := by
  by_cases h0 : zs = []
  · subst h0
    obtain ⟨a, cap, rfl⟩ := owns_len hown
    refine (Try.slices_Sort_int_none a cap w).mono ?_
    rintro e w' ⟨rfl, rfl⟩
    exact ⟨rfl, by simpa using hown, fun _ _ _ h => h⟩
  · have hne : 0 < zs.length := List.length_pos_iff.2 h0
    obtain ⟨g, cap, hv, hg, hlt, hnc, hcm, _, hH⟩ := holds_of_ownsRow (enc := Value.int .i64) hown (fun e => by
      obtain ⟨g, cp, e2, _⟩ := owns_shape hown hne
      rw [e2] at e; cases e)
    subst hv
    have hh := hown.2
    rcases hh with ⟨e0, _⟩ | ⟨g', cap', cur, e0, _, hc, _, _, hs, _⟩
    · cases e0
    · cases e0
      refine (Try.slices_Sort_int g 0 cap zs w hH hlt (by omega)).mono ?_
      rintro e w' ⟨rfl, n, os, rfl⟩
      have hl : (zs.mergeSort fun x y => decide (x ≤ y)).length = zs.length := List.length_mergeSort _
      refine ⟨rfl, ?_, fun B w0 hB h => h.grown (grownBy_sortedI _) (by omega) (fun k hk => by simp at hk; omega)⟩
      rw [hl]
      exact ownsRow_sortedI hl hg hc hnc hcm hs

open Go.Sort Go.Lib in
/-- slices.Compact of a row of the call's own -/
theorem compact_own (base : Nat) (u : Value) (zs : List Int) (w : World) (hown : w.ownsRow base 3 1 u zs.length (intsOf zs)) (hz : zs.length ≤ 1000000000) :
    Calls Try.prog 31 #[u] w fun e w' => ∃ x, e = .returned x ∧ w'.ownsRow base 3 1 x (Lib.compact zs).length (intsOf (Lib.compact zs)) ∧ (∀ B w0, B ≤ base → Below B w0 w → Below B w0 w') := by
  by_cases h0 : zs = []
  · subst h0
    obtain ⟨a, cap, rfl⟩ := owns_len hown
    refine (Try.slices_Compact_int_empty a cap w).mono ?_
    rintro e w' ⟨rfl, rfl⟩
    exact ⟨_, rfl, by simpa [Lib.compact, Lib.compactUpTo] using hown, fun _ _ _ h => h⟩
  · have hne : 0 < zs.length := List.length_pos_iff.2 h0
    obtain ⟨g, cap, hv, hg, hlt, hnc, hcm, _, hH⟩ := holds_of_ownsRow (enc := Value.int .i64) hown (fun e => by
      obtain ⟨g, cp, e2, _⟩ := owns_shape hown hne
      rw [e2] at e; cases e)
    subst hv
    refine (Try.slices_Compact_int g 0 cap zs w hH (by omega) hnc).mono ?_
    rintro e w' ⟨rfl, q, rfl⟩
    have hle := Lib.compact_length_le zs
    have ho := ownsRow_putRow (q := q) (k := (Lib.compact zs).length) (ys := Lib.compact zs ++ List.replicate (zs.length - (Lib.compact zs).length) 0) hown (by simp; omega) hle
    rw [List.take_append_of_le_length (Nat.le_refl _), List.take_length] at ho
    exact ⟨_, rfl, ho, fun B w0 hB h => below_putRow h (by omega)⟩

set_option maxRecDepth 100000 in
set_option maxHeartbeats 4000000 in
theorem iends_any (n : Value) (v tv : Value) (ls : List Lk) (f r : Int) (w : World) (hls : ls.length ≤ 1048576) (hv : LinksAt w v ls w.heap.size) :
    Calls Try.prog 29 #[.agg #[n, v, tv], .int .i64 f, .int .i64 r] w fun e w' => ∃ x, e = .returned x ∧ w'.ownsRow w.heap.size 3 1 x (gath ls f r ls.length).length (intsOf (gath ls f r ls.length)) ∧ Below w.heap.size w w' := by
  obtain ⟨a, cap, rfl⟩ : ∃ a cap, v = .slice a ls.length cap := by obtain ⟨a, cap, h, _⟩ := hv; exact ⟨a, cap, h⟩
  have HV := hide hv
  clear hv
  go_enter Try.func29, Try.ntmps29
  go_wp2
  go_loopw [7, 15] (fun u i wr => ∃ k : Nat, k ≤ ls.length ∧ i = .int .i64 k ∧ wr.ownsRow w.heap.size 3 1 u (gath ls f r k).length (intsOf (gath ls f r k)) ∧ Below w.heap.size w wr) (fun _ i _ => ls.length - (intOf i).toNat)
  case atStart => exact ⟨0, by omega, rfl, ⟨by simp [gath, intsOf], .inl ⟨rfl, by simp [gath]⟩⟩, (Below.refl _ _).alloc (Nat.le_refl _) _⟩
  case round =>
    obtain ⟨k, hk, rfl, hown, hb⟩ := hrel
    have hgl := gath_len ls f r k
    by_cases hlt : k < ls.length
    · obtain ⟨l, hl⟩ : ∃ l, ls[k]? = some l := ⟨ls[k], List.getElem?_eq_getElem hlt⟩
      obtain ⟨b, off, cap', hve, hbb, c0, c1, c2, c3⟩ := HV.out.cells k l hl
      cases hve
      rw [← hb.cell (p := ⟨b, off + k * 4, none⟩) hbb] at c0
      rw [← hb.cell (p := ⟨b, off + k * 4 + 1, none⟩) hbb] at c1
      rw [← hb.cell (p := ⟨b, off + k * 4 + 2, none⟩) hbb] at c2
      rw [← hb.cell (p := ⟨b, off + k * 4 + 3, none⟩) hbb] at c3
      have HG := hide (gath_succ (f := f) (r := r) hl)
      have hbo := both_any l
      clear hl
      obtain ⟨la, lb, lc, lr⟩ := l
      unfold bothV lkV at hbo
      simp only [] at hbo c0 c1 c2 c3
      have HBO := hide hbo
      have OW := hide hown
      clear hbo hown
      have hzr := hb.size
      generalize hg : gath ls f r k = g at OW hgl HG
      go_wp2_with fail
      refine (HBO.out _).mono ?_
      rintro e w1 ⟨rfl, b1⟩
      have ow1 := owns_below (OW.out.alloc _) b1 (Nat.le_refl _)
      have B1 : Below w.heap.size w w1 := (hb.alloc hb.size _).trans (b1.mono (by simp; omega))
      have OW1 := hide ow1
      clear b1 ow1 c0 c1 c2 c3 OW
      go_wp2
      go_loopw [7, 21] (fun u i wi => ∃ (j : Nat) (h : List Int), j ≤ 2 ∧ i = .int .i64 j ∧ h = (if j = 0 then g else if j = 1 then g ++ hit1 f r ⟨la, lb, lc, lr⟩ else g ++ hit1 f r ⟨la, lb, lc, lr⟩ ++ hit2 f r ⟨la, lb, lc, lr⟩) ∧ wi.ownsRow w.heap.size 3 1 u h.length (intsOf h) ∧ Below w.heap.size w wi) (fun _ i _ => 2 - (intOf i).toNat)
      case atStart => exact ⟨0, g, by omega, rfl, rfl, OW1.out, B1⟩
      case round =>
        obtain ⟨wz, rfl⟩ : ∃ wz : World, wz = wr := ⟨_, rfl⟩
        clear OW1 B1
        obtain ⟨j, h, hj, rfl, hh, hown, hb2⟩ := hrel
        have hz2 := hb2.size
        have hhl : h.length ≤ 2 * k + 2 := by
          have e1 : (hit1 f r ⟨la, lb, lc, lr⟩).length ≤ 1 := by unfold hit1; split <;> simp
          have e2 : (hit2 f r ⟨la, lb, lc, lr⟩).length ≤ 1 := by unfold hit2; split <;> simp
          rw [hh]
          split
          · omega
          · split <;> simp only [List.length_append] <;> omega
        have HH := hide hh
        have OW := hide hown
        clear hh hown
        obtain rfl | rfl | rfl : j = 0 ∨ j = 1 ∨ j = 2 := by omega
        · have i0 := fun W => run_both0 W (.int .i64 la) (.int .i64 lb) (.int .i64 lc) (.int .i64 lr) (.int .i64 lb) (.int .i64 la) (.int .i64 lc) (.int .i64 lr)
          by_cases hA : la = f ∧ lr = r
          · have e1 : (la == f) = true := by simp [hA.1]
            have e2 : (lr == r) = true := by simp [hA.2]
            have hn : h ++ [lb] = g ++ hit1 f r ⟨la, lb, lc, lr⟩ := by
              rw [HH.out]
              simp [hit1, hA]
            have HN := hide hn
            clear hn hA
            go_wp2_with (first
              | (at_builtin; refine wpList_append_int _ rfl _ _ 32 rfl w.heap.size 3 Try.underlying32 Try.info3 u7 h lb rfl ((OW.out.alloc _).alloc _) ⟨wz.heap.size + 1, 0, none⟩ 1 rfl (new_int wz _ _ _) (by omega) (by simp; omega) ?_))
            intro v' w5 l' hl' hown' hgrow
            have B5 : Below w.heap.size w w5 := ((hb2.alloc hb2.size _).alloc (by simp; omega) _).grown hgrow (by simp; omega) (fun k hk => by have := (OW.out.lt k hk).1; omega)
            have OW5 := hide hown'
            clear hown' hgrow
            go_wp2
            go_roundw
            case rel => exact ⟨1, l', by omega, by go_num, by rw [hl'.out, HN.out]; rfl, OW5.out, B5⟩
            case measure => simp [intOf]
          by_cases hB : la = f
          · have e1 : (la == f) = true := by simp [hB]
            have e2 : (lr == r) = false := by
              have : ¬ lr = r := fun e => hA ⟨hB, e⟩
              simpa using this
            clear hB
            have hn : h = g ++ hit1 f r ⟨la, lb, lc, lr⟩ := by
              rw [HH.out]
              simp [hit1, hA]
            have HN := hide hn
            clear hn hA
            go_wp2
            go_roundw
            case rel => exact ⟨1, h, by omega, by go_num, by rw [HN.out]; rfl, OW.out.alloc _, hb2.alloc hb2.size _⟩
            case measure => simp [intOf]
          · have e1 : (la == f) = false := by simpa using hB
            clear hB
            have hn : h = g ++ hit1 f r ⟨la, lb, lc, lr⟩ := by
              rw [HH.out]
              simp [hit1, hA]
            have HN := hide hn
            clear hn hA
            go_wp2
            go_roundw
            case rel => exact ⟨1, h, by omega, by go_num, by rw [HN.out]; rfl, OW.out.alloc _, hb2.alloc hb2.size _⟩
            case measure => simp [intOf]
        · have i0 := fun W => run_both1 W (.int .i64 la) (.int .i64 lb) (.int .i64 lc) (.int .i64 lr) (.int .i64 lb) (.int .i64 la) (.int .i64 lc) (.int .i64 lr)
          by_cases hA : lb = f ∧ lr = r
          · have e1 : (lb == f) = true := by simp [hA.1]
            have e2 : (lr == r) = true := by simp [hA.2]
            have hn : h ++ [la] = g ++ hit1 f r ⟨la, lb, lc, lr⟩ ++ hit2 f r ⟨la, lb, lc, lr⟩ := by
              rw [HH.out]
              simp [hit2, hA]
            have HN := hide hn
            clear hn hA
            go_wp2_with (first
              | (at_builtin; refine wpList_append_int _ rfl _ _ 32 rfl w.heap.size 3 Try.underlying32 Try.info3 u7 h la rfl ((OW.out.alloc _).alloc _) ⟨wz.heap.size + 1, 0, none⟩ 1 rfl (new_int wz _ _ _) (by omega) (by simp; omega) ?_))
            intro v' w5 l' hl' hown' hgrow
            have B5 : Below w.heap.size w w5 := ((hb2.alloc hb2.size _).alloc (by simp; omega) _).grown hgrow (by simp; omega) (fun k hk => by have := (OW.out.lt k hk).1; omega)
            have OW5 := hide hown'
            clear hown' hgrow
            go_wp2
            go_roundw
            case rel => exact ⟨2, l', by omega, by go_num, by rw [hl'.out, HN.out]; rfl, OW5.out, B5⟩
            case measure => simp [intOf]
          by_cases hB : lb = f
          · have e1 : (lb == f) = true := by simp [hB]
            have e2 : (lr == r) = false := by
              have : ¬ lr = r := fun e => hA ⟨hB, e⟩
              simpa using this
            clear hB
            have hn : h = g ++ hit1 f r ⟨la, lb, lc, lr⟩ ++ hit2 f r ⟨la, lb, lc, lr⟩ := by
              rw [HH.out]
              simp [hit2, hA]
            have HN := hide hn
            clear hn hA
            go_wp2
            go_roundw
            case rel => exact ⟨2, h, by omega, by go_num, by rw [HN.out]; rfl, OW.out.alloc _, hb2.alloc hb2.size _⟩
            case measure => simp [intOf]
          · have e1 : (lb == f) = false := by simpa using hB
            clear hB
            have hn : h = g ++ hit1 f r ⟨la, lb, lc, lr⟩ ++ hit2 f r ⟨la, lb, lc, lr⟩ := by
              rw [HH.out]
              simp [hit2, hA]
            have HN := hide hn
            clear hn hA
            go_wp2
            go_roundw
            case rel => exact ⟨2, h, by omega, by go_num, by rw [HN.out]; rfl, OW.out.alloc _, hb2.alloc hb2.size _⟩
            case measure => simp [intOf]
        · have hn : h = gath ls f r (k + 1) := by rw [HG.out, HH.out]; rfl
          have HN := hide hn
          clear hn
          go_wp2
          exact ⟨⟨k + 1, by omega, by go_num, by rw [← HN.out]; exact OW.out, hb2⟩, by simp [intOf]; omega⟩
    · have hk' : k = ls.length := by omega
      rw [hk'] at hown
      have OW := hide hown
      clear hown hk'
      go_wp2
      go_ret
      exact ⟨_, rfl, OW.out, hb⟩

theorem wpList_append_int_at {P : Program} (w : World) {ops : Array Oper} {rest : List Oper} {o : Oper} {a : Act} {Q : Exit → Act → World → Prop} (hgd : o.guard = none) (s x : Operand) (t : TypeId)
    (ho : o.op = .call { callee := .builtin .append, args := #[s, x], argTypes := #[t, t] }) (base : Nat) (e : TypeId) (ht : P.underlying t = some (.slice e))
    (hinfo : (P.info? e).map (fun i => (i.zero, i.size, i.bytes)) = some (some (.int .i64 0), 1, 8))
    (v : Value) (l : List Int) (y : Int) (hs : a.eval s = v) (hown : w.ownsRow base e 1 v l.length (intsOf l))
    (ad : Addr) (c : Nat) (hx : a.eval x = .slice (some ad) 1 c) (hnew : w.cell? (ad.add 0) = some (.int .i64 y))
    (hl : l.length + 1 ≤ 1000000000) (hbase : base ≤ w.heap.size)
    (h : ∀ v' w' l', Hid (l' = l ++ [y]) → w'.ownsRow base e 1 v' l'.length (intsOf l') → w.grownBy w' v.ownBlock → (v'.ownBlock = v.ownBlock ∨ v'.ownBlock = some w.heap.size) → wpList P ops Q rest (a.put o.dst v') w') : wpList P ops Q (o :: rest) a w := by
  obtain ⟨i0, hi, hz0, hz1, hz2⟩ := info_parts hinfo
  refine wpList_append_own_at w hgd s x t ho base e i0 (.int .i64 0) 1 8 ht hi hz0 hz1 hz2 rfl (by decide) v l.length (intsOf l) hs hown ad 1 c [.int .i64 y] hx rfl ?_ ?_ (by unfold maxLen; omega) (by omega) hbase ?_
  · intro j u hj
    match j, hj with
    | 0, hj => simp at hj; subst hj; exact hnew
  · intro u hu
    simp at hu; subst hu; rfl
  · intro v' w' h1 h2 _ h4
    have e1 : intsOf l ++ [.int .i64 y] = intsOf (l ++ [y]) := by simp [intsOf]
    rw [e1] at h1
    exact h v' w' (l ++ [y]) rfl (by simpa using h1) h2 h4

theorem inB_all {n : Int} {ls : List Lk} (h : ∀ l ∈ ls, (1 ≤ l.a ∧ l.a ≤ n) ∧ (1 ≤ l.b ∧ l.b ≤ n)) (f r : Int) (k : Nat) : ∀ z ∈ gath ls f r k, inB z 1 n = true := by
  intro z hz
  unfold gath at hz
  obtain ⟨l, hl, hh⟩ := List.mem_flatMap.1 hz
  have hb := h l (List.mem_of_mem_take hl)
  unfold hits hit1 hit2 at hh
  rcases List.mem_append.1 hh with hh | hh
  · split at hh
    · simp at hh; subst hh; simp [inB]; omega
    · simp at hh
  · split at hh
    · simp at hh; subst hh; simp [inB]; omega
    · simp at hh

set_option maxRecDepth 100000 in
set_option maxHeartbeats 1000000 in
theorem inext_any (n : Int) (v tv : Value) (ls : List Lk) (f r : Int) (w : World) (hls : ls.length ≤ 1048576) (hv : LinksAt w v ls w.heap.size) (hR : ∀ l ∈ ls, (1 ≤ l.a ∧ l.a ≤ n) ∧ (1 ≤ l.b ∧ l.b ≤ n)) :
    Calls Try.prog 13 #[.agg #[.int .i64 n, v, tv], .int .i64 f, .int .i64 r] w fun e w' => ∃ x, e = .returned x ∧ w'.ownsRow w.heap.size 3 1 x (nextI ls f r).length (intsOf (nextI ls f r)) ∧ Below w.heap.size w w' := by
  have HALL := hide (inB_all hR f r ls.length)
  have hgl := gath_len ls f r ls.length
  obtain ⟨zs, hzs⟩ : ∃ zs, zs = gath ls f r ls.length := ⟨_, rfl⟩
  have HV := hide hv
  have HEN := hide (fun W (h : Below w.heap.size w W) => iends_any (.int .i64 n) v tv ls f r W hls (hv.then h))
  rw [← hzs] at HALL hgl HEN
  have HZS := hide hzs
  clear hv hzs hR
  have B1 : Below w.heap.size w ((w.alloc (.cells #[.int .i64 n, v, tv] 27)).alloc (.cells #[] 3)) := below_two _ _
  have hx1 : ((w.alloc (.cells #[.int .i64 n, v, tv] 27)).alloc (.cells #[] 3)).heap[w.heap.size]? = some (.cells #[.int .i64 n, v, tv] 27) := by
    rw [Below.heap_alloc _ _ _ (by simp), heap_alloc_new]
  have ow1 : ((w.alloc (.cells #[.int .i64 n, v, tv] 27)).alloc (.cells #[] 3)).ownsRow (w.heap.size + 1) 3 1 (.slice (some ⟨w.heap.size + 1, 0, none⟩) 0 0) 0 [] := by
    have h := World.ownsRow_lit (base := w.heap.size + 1) (e := 3) (size := 1) (w.alloc (.cells #[.int .i64 n, v, tv] 27)) #[] 0 (by simp) (by decide) rfl
    simpa using h
  have hw1s : ((w.alloc (.cells #[.int .i64 n, v, tv] 27)).alloc (.cells #[] 3)).heap.size = w.heap.size + 2 := by simp
  have HW1 := hide hw1s
  clear hw1s
  go_enter Try.func13, Try.ntmps13
  go_wp2_with fail
  generalize (w.alloc (.cells #[.int .i64 n, v, tv] 27)).alloc (.cells #[] 3) = w1 at *
  refine (HEN.out _ B1).mono ?_
  rintro e w2 ⟨x, rfl, ho2, b2⟩
  have B2 : Below w.heap.size w w2 := B1.trans (b2.mono B1.size)
  have hx2 : w2.heap[w.heap.size]? = _ := (b2.block _ (lt_of_heap hx1)).trans hx1
  have ow2 := owns_below ow1 b2 (Nat.le_refl _)
  obtain ⟨xa, xc, rfl⟩ := owns_len ho2
  have hz1 := lt_of_heap hx1
  have hb2s := b2.size
  have X2 := hide hx2
  have O2 := hide ow2
  have E2 := hide ho2
  clear hx1 ow1 hx2 ow2 ho2 HEN B1 b2
  go_wp2
  obtain ⟨xv, hxv⟩ : ∃ xv : Value, xv = .slice xa zs.length xc := ⟨_, rfl⟩
  have HXV := hide hxv
  have E2 := hide (show w2.ownsRow w1.heap.size 3 1 xv zs.length (intsOf zs) by rw [hxv]; exact E2.out)
  have D2 := hide (show some (w.heap.size + 1) ≠ xv.ownBlock from fun h => by
    have := (E2.out.lt _ h.symm).1
    have := HW1.out
    omega)
  clear hxv
  go_loopw [7, 16] (fun u i wr => ∃ (k : Nat) (l : List Int), k ≤ zs.length ∧ i = .int .i64 k ∧ l = zs.take k ∧ wr.ownsRow (w.heap.size + 1) 3 1 u l.length (intsOf l) ∧ Below w.heap.size w wr ∧ wr.heap[w.heap.size]? = some (.cells #[.int .i64 n, v, tv] 27) ∧ wr.ownsRow w1.heap.size 3 1 xv zs.length (intsOf zs) ∧ (∀ g, u.ownBlock = some g → some g ≠ xv.ownBlock) ∧ w.heap.size + 1 < wr.heap.size) (fun _ i _ => zs.length - (intOf i).toNat)
  case atStart => exact ⟨0, [], by omega, rfl, by simp, O2.out, B2, X2.out, E2.out, fun g hg => by
    simp [Value.ownBlock] at hg
    subst hg
    exact D2.out, by have := HW1.out; omega⟩
  case round =>
    clear O2 X2 E2 D2 B2
    obtain ⟨wz, rfl⟩ : ∃ wz : World, wz = wr := ⟨_, rfl⟩
    obtain ⟨k, l, hk, rfl, hl, hown, hb, hx, hE, hdj, hsz⟩ := hrel
    have hll : l.length ≤ k := by rw [hl]; simp; omega
    have HL := hide hl
    have OW := hide hown
    have X := hide hx
    have E := hide hE
    have DJ := hide hdj
    clear hl hown hx hE hdj
    by_cases hlt : k < zs.length
    · obtain ⟨y, hy⟩ : ∃ y, zs[k]? = some y := ⟨zs[k], List.getElem?_eq_getElem hlt⟩
      have hin := HALL.out y (List.mem_of_getElem? hy)
      have HIN := hide (isIn_any y 1 n)
      rw [hin] at HIN
      have hxs := E.out
      rw [HXV.out] at hxs
      obtain ⟨g, cp, hgv, hg1, hg2⟩ := owns_shape hxs (by omega)
      cases hgv
      have hc : wz.cell? ⟨g, k, none⟩ = some (.int .i64 y) := by
        rw [hxs.cellAt k (by omega)]
        simp [intsOf, hy]
      have hn0 := cells_at X.out 0
      simp at hn0
      have hki : (0 : Int) ≤ (k : Int) := by omega
      have hkj : (k : Int) < (zs.length : Int) := by omega
      have HL2 := hide (show l ++ [y] = zs.take (k + 1) by rw [HL.out]; obtain ⟨h1, h2⟩ := List.getElem?_eq_some_iff.1 hy; rw [List.take_succ_eq_append_getElem h1, h2])
      clear hxs hy hin
      go_wp2_with fail
      refine (HIN.out _).mono ?_
      rintro e w3 ⟨rfl, rfl⟩
      go_wp2_with (first
        | (at_builtin; refine wpList_append_int_at _ rfl _ _ 32 rfl (w.heap.size + 1) 3 Try.underlying32 Try.info3 u7 l y rfl (OW.out.alloc _) ⟨wz.heap.size, 0, none⟩ 1 rfl ?_ (by omega) (by simp; omega) ?_))
      · rw [add_zero', World.cell?_alloc_at _ _ _ _ rfl]; rfl
      intro v' w4 l' hl' hown' hgrow hob
      have B4 : Below w.heap.size w w4 := (hb.alloc hb.size _).grown hgrow (by simp; omega) (fun k hk => by have := (OW.out.lt k hk).1; omega)
      have X4 : w4.heap[w.heap.size]? = _ := (hgrow.block _ (by simp; omega) (fun h => by have := (OW.out.lt _ h.symm).1; omega)).trans ((Below.heap_alloc _ _ _ (lt_of_heap X.out)).trans X.out)
      have E4 : w4.ownsRow w1.heap.size 3 1 xv zs.length (intsOf zs) := (E.out.alloc _).kept hgrow (by
        cases hx : xv.ownBlock with
        | none => exact .inl rfl
        | some gx =>
          refine .inr ?_
          intro h
          exact DJ.out gx h.symm hx.symm)
      have D4 : ∀ g, v'.ownBlock = some g → some g ≠ xv.ownBlock := by
        intro g hg
        rcases hob with h | h
        · exact DJ.out g (h.symm.trans hg)
        · rw [h] at hg
          simp at hg
          intro hx
          have := (E.out.lt g hx.symm).2
          omega
      have S4 : w.heap.size + 1 < w4.heap.size := by have := hgrow.size; simp at this; omega
      have OW4 := hide hown'
      have X44 := hide X4
      have E44 := hide E4
      have D44 := hide D4
      clear hown' hgrow hob X4 E4 D4
      go_wp2
      exact ⟨⟨k + 1, l', by omega, by go_num, by rw [hl'.out]; exact HL2.out, OW4.out, B4, X44.out, E44.out, D44.out, S4⟩, by simp [intOf]; omega⟩
    · have hk' : k = zs.length := by omega
      have hlz : l = zs := by rw [HL.out, hk', List.take_length]
      subst hlz
      have hmz : (l.mergeSort fun x y => decide (x ≤ y)).length ≤ 1000000000 := by rw [List.length_mergeSort]; omega
      clear hk' E X DJ
      go_wp2_with fail
      refine (sort_own (w.heap.size + 1) _ l _ OW.out (by omega)).mono ?_
      rintro e w5 ⟨rfl, o5, b5⟩
      have B5 := b5 _ _ (by omega) hb
      have OW5 := hide o5
      clear o5 b5 OW
      go_wp2_with fail
      refine (compact_own (w.heap.size + 1) _ _ _ OW5.out hmz).mono ?_
      rintro e w6 ⟨x, rfl, o6, b6⟩
      have B6 := b6 _ _ (by omega) B5
      have OW6 := hide o6
      clear o6 b6
      go_wp2
      go_ret
      exact ⟨_, rfl, by unfold nextI; rw [← HZS.out]; exact owns_base OW6.out (by omega), B6⟩
end Go.Proofs.Ytlkbodppkljoiaa
