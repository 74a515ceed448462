/-
  The words of a script; spec.l14IsPart.
  spec.CostTo: its contract.
  impl.numbersIn: its contract.
  cmp.Compare, cmp.Or, impl.orderOfLinks, impl.orderOfThings: their contracts.
  spec.PartsOf and impl.PartsOf: their contracts.
-/
import Derived.Test.YtpiookjdeopmgaaDoorRd5
import Derived.Stop.LaidErr
import Derived.MakeChecks
namespace Go.Proofs.YtpiookjdeopmgaaDoor
open Go.RowKit
set_option linter.unusedSimpArgs false
set_option linter.unusedVariables false

@[reducible] def wNet : List UInt8 := [110, 101, 116]
@[reducible] def wLink : List UInt8 := [108, 105, 110, 107]
@[reducible] def wThing : List UInt8 := [116, 104, 105, 110, 103]
@[reducible] def wFar : List UInt8 := [102, 97, 114]

def isPartB (s : ByteArray) : Bool := s.toList == wLink || s.toList == wThing || s.toList == wFar

set_option maxRecDepth 100000 in
set_option maxHeartbeats 2000000 in
theorem isPart_any (s : ByteArray) (w : World) :
    Calls Tryd.prog 22 #[.string s] w fun e w' => e = .returned (.bool (isPartB s)) ∧ Below w.heap.size w w' := by
  obtain ⟨G, hG⟩ : ∃ G, G = isPartB s := ⟨_, rfl⟩
  rw [← hG]
  have GL : Hid (G = isPartB s) := hG
  clear hG
  go_enter Tryd.func22, Tryd.ntmps22
  go_wp2
  · rename_i h
    have g := hide (show G = true by rw [GL.out, isPartB, h]; rfl)
    go_ret
    exact ⟨by rw [g.out]; rfl, Below.refl _ _⟩
  · rename_i h1 h
    have g := hide (show G = true by rw [GL.out, isPartB, h]; rfl)
    go_ret
    exact ⟨by rw [g.out]; rfl, Below.refl _ _⟩
  · go_ret
    exact ⟨by rw [GL.out]; rfl, Below.refl _ _⟩
end Go.Proofs.YtpiookjdeopmgaaDoor
namespace Go.Proofs.YtpiookjdeopmgaaDoor
open Go.RowKit

end Go.Proofs.YtpiookjdeopmgaaDoor
namespace Go.Proofs.YtpiookjdeopmgaaDoor
open Go.RowKit
set_option linter.unusedSimpArgs false
set_option linter.unusedVariables false

/-- so many parts, all of them numbers -/
def numsN (n : Int) (ls : List (List UInt8)) : Bool := decide ((ls.length : Int) = n) && numsB ls

set_option maxRecDepth 100000 in
set_option maxHeartbeats 2000000 in
theorem inums_any (v : Value) (ls : List (List UInt8)) (n : Int) (w : World) (hv : StrsAt w v ls w.heap.size) (hn : ls.length ≤ 1048576) (hl : ∀ l ∈ ls, l.length ≤ 1048576) :
    Calls Tryd.prog 50 #[v, .int .i64 n] w fun e w' => ∃ u, e = .returned (.tuple #[u, .bool (numsN n ls)]) ∧ (numsN n ls = true → w'.ownsRow w.heap.size 3 1 u ls.length (intsOf (ls.map numI))) ∧ Below w.heap.size w w' := by
  obtain ⟨a1, c1, rfl⟩ := hv.shape
  have HV := hide hv
  have HL := hide hl
  clear hv hl
  obtain ⟨G, hG⟩ : ∃ G, G = numsN n ls := ⟨_, rfl⟩
  rw [← hG]
  have GL : Hid (G = numsN n ls) := hG
  clear hG
  by_cases hne : (ls.length : Int) = n
  · go_enter Tryd.func50, Tryd.ntmps50
    go_wp2
    go_loopw [6, 17] (fun o i wr => ∃ (k : Nat) (zs : List Int), k ≤ ls.length ∧ i = .int .i64 k ∧ Hid (numsB (ls.take k) = true ∧ zs = (ls.take k).map numI) ∧ zs.length ≤ k ∧ wr.ownsRow w.heap.size 3 1 o zs.length (intsOf zs) ∧ Below w.heap.size w wr) (fun _ i _ => ls.length - (intOf i).toNat)
    case atStart => exact ⟨0, [], by omega, rfl, ⟨rfl, rfl⟩, by simp, World.ownsRow_nil _ _ _ _, Below.refl _ _⟩
    case round =>
      obtain ⟨k, zs, hk, rfl, HZ, hzl, hown, hnx⟩ := hrel
      have hsz := hnx.size
      by_cases hlt : k < ls.length
      · obtain ⟨z, hz⟩ : ∃ z, ls[k]? = some z := ⟨_, List.getElem?_eq_getElem hlt⟩
        obtain ⟨b, off, cap, hvv, hb, hc⟩ := StrsAt.cell HV.out k z hz
        obtain ⟨rfl, rfl⟩ : a1 = some ⟨b, off, none⟩ ∧ c1 = cap := by cases hvv; exact ⟨rfl, rfl⟩
        have hcell : wr.cell? ⟨b, off + k, none⟩ = some (.string (bs z)) := by rw [hnx.cell (p := ⟨b, off + k, none⟩) hb]; exact hc
        have hzs := HL.out z (List.mem_of_getElem? hz)
        have HZK := hide hz
        have hki : (0 : Int) ≤ (k : Int) := by omega
        have hkj : (k : Int) < (ls.length : Int) := by omega
        obtain ⟨t, ht⟩ : ∃ t, t = bs z := ⟨_, rfl⟩
        have hts : t.size ≤ 1048576 := by rw [ht]; exact hzs
        rw [← ht] at hcell
        have TT := hide ht
        clear hvv hc hz ht
        rcases hok : okN z with _ | _
        · have hr : rdDV t = .tuple #[.int .i64 0, .bool false] := by rw [TT.out]; exact rd_no hok
          have hg := hide (show numsN n ls = false by simp [numsN, numsB_bad HZK.out hok])
          clear hok
          go_wp2_with (first | (go_at_call 71; refine (ird_any t _ hts).mono ?_; rintro e w1 ⟨he, b1⟩; rw [hr] at he; subst he))
          have hnx1 := hnx.trans (b1.mono hsz)
          go_ret2
          exact ⟨_, by rw [GL.out, hg.out]; rfl, (fun h => by rw [GL.out, hg.out] at h; cases h), hnx1⟩
        · have hr : rdDV t = .tuple #[.int .i64 (numI z), .bool true] := by rw [TT.out]; exact rd_yes hok
          have hg := hide (numsB_take HZK.out HZ.out.1 hok)
          clear hok
          go_wp2_with (first
            | (go_at_call 71; refine (ird_any t _ hts).mono ?_; rintro e w1 ⟨he, b1⟩; rw [hr] at he; subst he; have hs1 := b1.size; have hnx1 := hnx.trans (b1.mono hsz); have hown1 := owns_below hown b1 (Nat.le_refl _); clear hnx hown)
            | (at_builtin; refine wpList_append_int _ rfl _ _ 34 rfl w.heap.size 3 Tryd.underlying34 Tryd.info3 u6 zs (numI z) rfl (hown1.alloc _) ⟨w1.heap.size, 0, none⟩ 1 rfl (by rw [add_zero', World.cell?_alloc_at _ _ _ _ rfl]; rfl) (by omega) (by simp; omega) ?_))
          intro v' w2 zs' hz' hown' hgrow
          have hb2 := below_append _ hnx1 hown1 (Nat.le_refl _) (by omega) hgrow
          clear hgrow hnx1 hown1
          go_wp2
          go_roundw
          case rel => exact ⟨k + 1, zs', by omega, by go_num, ⟨hg.out, by rw [hz'.out, HZ.out.2, nums_take HZK.out]⟩, by rw [hz'.out]; simp; omega, hown', hb2⟩
          case measure => simp [intOf]; omega
      · have hke : k = ls.length := by omega
        have hg := hide (show numsB ls = true ∧ zs = ls.map numI by
          have := HZ.out
          rw [hke, List.take_length] at this
          exact this)
        have OW := hide hown
        have hgt := hide (show numsN n ls = true by rw [numsN, hg.out.1]; simp [hne])
        clear hown hke
        go_wp2
        go_ret2
        refine ⟨_, by rw [GL.out, hgt.out]; rfl, fun _ => ?_, hnx⟩
        have := OW.out
        rw [hg.out.2] at this
        simpa using this
  · have hf : numsN n ls = false := by simp [numsN, hne]
    have hg := hide hf
    clear hf
    go_enter Tryd.func50, Tryd.ntmps50
    go_wp2
    go_ret2
    exact ⟨_, by rw [GL.out, hg.out]; rfl, (fun h => by rw [GL.out, hg.out] at h; cases h), Below.refl _ _⟩
end Go.Proofs.YtpiookjdeopmgaaDoor
namespace Go.Proofs.YtpiookjdeopmgaaDoor
open Go.RowKit

/-- the first that is not 0 -/
def orN : List Int → Int
  | [] => 0
  | x :: xs => if x = 0 then orN xs else x

theorem orN_skip : ∀ (k : Nat) (l : List Int), (∀ j, j < k → l.getD j 0 = 0) → orN l = orN (l.drop k)
  | 0, l, _ => by simp
  | k + 1, [], _ => by simp
  | k + 1, x :: xs, h => by
    have h0 : x = 0 := by simpa using h 0 (by omega)
    subst h0
    have e : orN (0 :: xs) = orN xs := by simp [orN]
    rw [e, List.drop_succ_cons]
    exact orN_skip k xs (fun j hj => by simpa using h (j + 1) (by omega))

theorem orN_at {k : Nat} {l : List Int} (h : ∀ j, j < k → l.getD j 0 = 0) (hk : k < l.length) (hx : l.getD k 0 ≠ 0) : orN l = l.getD k 0 := by
  rw [orN_skip k l h, List.drop_eq_getElem_cons hk]
  have e : l.getD k 0 = l[k] := by simp [List.getElem?_eq_getElem hk]
  rw [e] at hx ⊢
  simp only [orN]
  rw [if_neg hx]

theorem orN_none {k : Nat} {l : List Int} (h : ∀ j, j < k → l.getD j 0 = 0) (hk : k = l.length) : orN l = 0 := by
  rw [orN_skip k l h, List.drop_of_length_le (by omega)]
  rfl

set_option maxRecDepth 100000 in
set_option maxHeartbeats 1000000 in
theorem or_any (b n : Nat) (l : List Int) (w : World) (hn : n = l.length) (hs : l.length ≤ 1000) (hc : ∀ j, j < l.length → w.cell? ⟨b, j, none⟩ = some (.int .i64 (l.getD j 0))) :
    Calls Tryd.prog 92 #[.slice (some ⟨b, 0, none⟩) n n] w fun e w' => e = .returned (.int .i64 (orN l)) ∧ w = w' := by
  subst hn
  have HC := hide hc
  clear hc
  go_enter Tryd.func92, Tryd.ntmps92
  go_wp2
  go_loopw [8] (fun i wr => ∃ k : Nat, k ≤ l.length ∧ i = .int .i64 k ∧ (∀ j, j < k → l.getD j 0 = 0) ∧ w = wr) (fun i _ => l.length - (intOf i).toNat)
  case atStart => exact ⟨0, by omega, rfl, by omega, rfl⟩
  case round =>
    obtain ⟨k, hk, rfl, hno, rfl⟩ := hrel
    have HNO := hide hno
    clear hno
    by_cases hlt : k < l.length
    · have hcell := HC.out k hlt
      by_cases h0 : l.getD k 0 = 0
      · have hnx : ∀ j, j < k + 1 → l.getD j 0 = 0 := fun j hj => by
          by_cases e : j = k
          · subst e; exact h0
          · exact HNO.out j (by omega)
        rw [h0] at hcell
        have HN := hide hnx
        clear h0 hnx
        go_wp2
        go_roundw
        case rel => exact ⟨k + 1, by omega, by go_num, HN.out, trivial⟩
        case measure => simp [intOf]; omega
      · obtain ⟨y, hy⟩ : ∃ y, y = l.getD k 0 := ⟨_, rfl⟩
        rw [← hy] at hcell h0
        have hor : orN l = y := by rw [hy]; exact orN_at HNO.out hlt (by rw [← hy]; exact h0)
        have HO := hide hor
        clear hy hor
        go_wp2
        go_ret
        exact ⟨ret_i HO.out, rfl⟩
    · have hk' : k = l.length := by omega
      have HK := hide hk'
      clear hk'
      go_wp2
      go_ret
      exact ⟨ret_i (orN_none HNO.out HK.out), rfl⟩

theorem or_three (b : Nat) (x y z : Int) (w : World) (h0 : w.cell? ⟨b, 0, none⟩ = some (.int .i64 x)) (h1 : w.cell? ⟨b, 1, none⟩ = some (.int .i64 y)) (h2 : w.cell? ⟨b, 2, none⟩ = some (.int .i64 z)) :
    Calls Tryd.prog 92 #[.slice (some ⟨b, 0, none⟩) 3 3] w fun e w' => e = .returned (.int .i64 (orN [x, y, z])) ∧ w = w' :=
  or_any b 3 [x, y, z] w rfl (by simp) (fun j hj => by
    match j, hj with
    | 0, _ => exact h0
    | 1, _ => exact h1
    | 2, _ => exact h2
    | j + 3, hj => exact absurd hj (by simp only [List.length_cons, List.length_nil]; omega))

theorem or_two (b : Nat) (x y : Int) (w : World) (h0 : w.cell? ⟨b, 0, none⟩ = some (.int .i64 x)) (h1 : w.cell? ⟨b, 1, none⟩ = some (.int .i64 y)) :
    Calls Tryd.prog 92 #[.slice (some ⟨b, 0, none⟩) 2 2] w fun e w' => e = .returned (.int .i64 (orN [x, y])) ∧ w = w' :=
  or_any b 2 [x, y] w rfl (by simp) (fun j hj => by
    match j, hj with
    | 0, _ => exact h0
    | 1, _ => exact h1
    | j + 2, hj => exact absurd hj (by simp only [List.length_cons, List.length_nil]; omega))

theorem new_cell (w1 : World) (cs : Array Value) (t : TypeId) (j : Nat) (v : Value) (h : cs[j]? = some v) : (w1.alloc (.cells cs t)).drew.cell? ⟨w1.heap.size, j, none⟩ = some v := by
  have := cells_at (heap_alloc_new w1 (.cells cs t)) j
  rw [h] at this
  exact this

def ordL (l m : Lk) : Int := orN [cmpN l.a m.a, cmpN l.b m.b, cmpN l.r m.r]

def ordT (l m : Th) : Int := orN [cmpN l.k m.k, cmpN l.o m.o]

set_option maxRecDepth 100000 in
set_option maxHeartbeats 4000000 in
theorem ordL_any (l m : Lk) (w : World) : Calls Tryd.prog 74 #[lkV l, lkV m] w fun e w' => e = .returned (.int .i64 (ordL l m)) ∧ Below w.heap.size w w' := by
  obtain ⟨a, b, c, r⟩ := l
  obtain ⟨a', b', c', r'⟩ := m
  unfold lkV ordL
  simp only []
  go_enter Tryd.func74, Tryd.ntmps74
  go_wp2
  obtain ⟨w1, hw1⟩ : ∃ w1, w1 = (w.alloc (.cells #[.int .i64 a, .int .i64 b, .int .i64 c, .int .i64 r] 77)).alloc (.cells #[.int .i64 a', .int .i64 b', .int .i64 c', .int .i64 r'] 77) := ⟨_, rfl⟩
  have B1 : Below w.heap.size w w1 := by rw [hw1]; exact below_two _ _
  have p0 : w1.heap[w.heap.size]? = some (.cells #[.int .i64 a, .int .i64 b, .int .i64 c, .int .i64 r] 77) := by rw [hw1, Below.heap_alloc _ _ _ (by simp), heap_alloc_new]
  have q0 : w1.heap[w.heap.size + 1]? = some (.cells #[.int .i64 a', .int .i64 b', .int .i64 c', .int .i64 r'] 77) := by
    rw [hw1]
    have := heap_alloc_new (w.alloc (.cells #[.int .i64 a, .int .i64 b, .int .i64 c, .int .i64 r] 77)) (.cells #[.int .i64 a', .int .i64 b', .int .i64 c', .int .i64 r'] 77)
    simpa using this
  rw [← hw1]
  clear hw1
  have s0 := cells_at p0 0
  have s1 := cells_at p0 1
  have s3 := cells_at p0 3
  have t0 := cells_at q0 0
  have t1 := cells_at q0 1
  have t3 := cells_at q0 3
  have hz0 := lt_of_heap p0
  have hz1 := lt_of_heap q0
  simp at s0 s1 s3 t0 t1 t3
  clear p0 q0
  have hz2 := B1.size
  go_region_held3 (fun W => W.cell? ⟨w.heap.size, 0, none⟩ = some (.int .i64 a) ∧ W.cell? ⟨w.heap.size, 1, none⟩ = some (.int .i64 b) ∧ W.cell? ⟨w.heap.size, 3, none⟩ = some (.int .i64 r) ∧ W.cell? ⟨w.heap.size + 1, 0, none⟩ = some (.int .i64 a') ∧ W.cell? ⟨w.heap.size + 1, 1, none⟩ = some (.int .i64 b') ∧ W.cell? ⟨w.heap.size + 1, 3, none⟩ = some (.int .i64 r')) (first | go_keep | assumption) (first | (go_at_call 93; refine (compare_any _ _ _).mono ?_; rintro e w' ⟨rfl, rfl⟩) | (go_at_call 92; refine (or_three _ (cmpN a a') (cmpN b b') (cmpN r r') _ ?_ ?_ ?_).mono ?_; (exact new_cell _ _ _ _ _ rfl); (exact new_cell _ _ _ _ _ rfl); (exact new_cell _ _ _ _ _ rfl); rintro e w' ⟨rfl, rfl⟩))
  go_wp2
  go_ret
  exact ⟨rfl, B1.drew.alloc B1.size _⟩
set_option maxRecDepth 100000 in
set_option maxHeartbeats 4000000 in
theorem ordT_any (l m : Th) (w : World) : Calls Tryd.prog 95 #[thV l, thV m] w fun e w' => e = .returned (.int .i64 (ordT l m)) ∧ Below w.heap.size w w' := by
  obtain ⟨o, k, c, f⟩ := l
  obtain ⟨o', k', c', f'⟩ := m
  unfold thV ordT
  simp only []
  go_enter Tryd.func95, Tryd.ntmps95
  go_wp2
  obtain ⟨w1, hw1⟩ : ∃ w1, w1 = (w.alloc (.cells #[.int .i64 o, .int .i64 k, .int .i64 c, .bool f] 81)).alloc (.cells #[.int .i64 o', .int .i64 k', .int .i64 c', .bool f'] 81) := ⟨_, rfl⟩
  have B1 : Below w.heap.size w w1 := by rw [hw1]; exact below_two _ _
  have p0 : w1.heap[w.heap.size]? = some (.cells #[.int .i64 o, .int .i64 k, .int .i64 c, .bool f] 81) := by rw [hw1, Below.heap_alloc _ _ _ (by simp), heap_alloc_new]
  have q0 : w1.heap[w.heap.size + 1]? = some (.cells #[.int .i64 o', .int .i64 k', .int .i64 c', .bool f'] 81) := by
    rw [hw1]
    have := heap_alloc_new (w.alloc (.cells #[.int .i64 o, .int .i64 k, .int .i64 c, .bool f] 81)) (.cells #[.int .i64 o', .int .i64 k', .int .i64 c', .bool f'] 81)
    simpa using this
  rw [← hw1]
  clear hw1
  have s0 := cells_at p0 0
  have s1 := cells_at p0 1
  have t0 := cells_at q0 0
  have t1 := cells_at q0 1
  have hz0 := lt_of_heap p0
  have hz1 := lt_of_heap q0
  simp at s0 s1 t0 t1
  clear p0 q0
  have hz2 := B1.size
  go_region_held3 (fun W => W.cell? ⟨w.heap.size, 0, none⟩ = some (.int .i64 o) ∧ W.cell? ⟨w.heap.size, 1, none⟩ = some (.int .i64 k) ∧ W.cell? ⟨w.heap.size + 1, 0, none⟩ = some (.int .i64 o') ∧ W.cell? ⟨w.heap.size + 1, 1, none⟩ = some (.int .i64 k')) (first | go_keep | assumption) (first | (go_at_call 93; refine (compare_any _ _ _).mono ?_; rintro e w' ⟨rfl, rfl⟩) | (go_at_call 92; refine (or_two _ (cmpN k k') (cmpN o o') _ ?_ ?_).mono ?_; (exact new_cell _ _ _ _ _ rfl); (exact new_cell _ _ _ _ _ rfl); rintro e w' ⟨rfl, rfl⟩))
  go_wp2
  go_ret
  exact ⟨rfl, B1.drew.alloc B1.size _⟩
end Go.Proofs.YtpiookjdeopmgaaDoor
namespace Go.Proofs.YtpiookjdeopmgaaDoor
open Go.RowKit

theorem Tryd.info9 : (Tryd.prog.info? 9).map (fun i => (i.zero, i.size, i.bytes)) = some (some (.string ⟨#[]⟩), 1, 16) := by kernel_rfl

def okB (b : UInt8) : Bool := decide (32 ≤ b.toNat) && decide (b.toNat ≤ 126)
def okL (l : List UInt8) : Bool := l.all okB
theorem okL_append (l r : List UInt8) : okL (l ++ r) = (okL l && okL r) := by simp [okL]
theorem okL_take (s : ByteArray) (k : Nat) (h : k < s.size) : okL (s.data.toList.take (k + 1)) = (okL (s.data.toList.take k) && okB s[k]) := by
  rw [takeD_one s k h, okL_append]; simp [okL]
theorem okL_bad (s : ByteArray) (k : Nat) (h : k < s.size) (hb : s[k].toNat < 32 ∨ 126 < s[k].toNat) : okL s.data.toList = false := by
  have e : s.data.toList = s.data.toList.take k ++ (s[k] :: s.data.toList.drop (k + 1)) := by
    have : s.data.toList.drop k = s[k] :: s.data.toList.drop (k + 1) := by
      rw [List.drop_eq_getElem_cons (by simpa using h)]; rfl
    rw [← this, List.take_append_drop]
  rw [e, okL_append]
  have : okB s[k] = false := by
    rcases hb with hb | hb
    · simp [okB]; omega
    · simp [okB]; omega
  simp [okL, this]
theorem sp_of {b : UInt8} (h1 : 32 ≤ b.toNat) : Lib.isSp b = decide (b.toNat = 32) := by
  by_cases h : b.toNat = 32
  · have e : b = 32 := UInt8.toNat_inj.1 (by rw [h]; rfl)
    subst e
    rfl
  · have hne : ∀ c : UInt8, c.toNat ≤ 32 → (b == c) = false := fun c hc => by
      simp only [beq_eq_false_iff_ne]
      intro e
      subst e
      omega
    simp [Lib.isSp, h, hne]

def goodS (s : ByteArray) : Bool := decide (s.size ≤ 600) && okL s.data.toList && decide ((Lib.fields s.data.toList).length ≤ 10)
def prL (s : ByteArray) : List (List UInt8) := if goodS s = true then Lib.fields s.data.toList else []
theorem prL_len (s : ByteArray) : (prL s).length ≤ 10 := by
  unfold prL
  split
  · rename_i h; simp [goodS] at h; exact h.2
  · simp
theorem prL_yes {s : ByteArray} (h : goodS s = true) : prL s = Lib.fields s.data.toList := by unfold prL; rw [if_pos h]
theorem prL_no {s : ByteArray} (h : goodS s = false) : prL s = [] := by unfold prL; rw [if_neg (by simp [h])]

/-- at the head of a round: b: where the word began; k: the place; done: the words so far -/
structure Pt (s : ByteArray) (b k : Nat) (done : List (List UInt8)) : Prop where
  bk : b ≤ k
  ks : k ≤ s.size
  ok : okL (s.data.toList.take k) = true
  len : done.length ≤ k
  all : Lib.fields s.data.toList = done ++ Lib.fieldsGo ((s.data.toList.drop b).take (k - b)) (s.data.toList.drop k)

theorem Pt.first (s : ByteArray) : Pt s 0 0 [] := ⟨by omega, by omega, by simp [okL], by simp, by simp [Lib.fields]⟩

theorem drop_one (s : ByteArray) (k : Nat) (h : k < s.size) : s.data.toList.drop k = s[k] :: s.data.toList.drop (k + 1) := by
  rw [List.drop_eq_getElem_cons (by simpa using h)]; rfl
theorem piece_one (s : ByteArray) (b k : Nat) (hb : b ≤ k) (h : k < s.size) : (s.data.toList.drop b).take (k + 1 - b) = (s.data.toList.drop b).take (k - b) ++ [s[k]] :=
  Lib.piece_more hb (by rw [List.getElem?_eq_getElem (by simpa using h)]; rfl)

theorem Pt.more {s : ByteArray} {b k : Nat} {done : List (List UInt8)} (h : Pt s b k done) (hk : k < s.size) (h1 : 32 < s[k].toNat) (h2 : s[k].toNat ≤ 126) : Pt s b (k + 1) done := by
  refine ⟨by have := h.bk; omega, by omega, ?_, by have := h.len; omega, ?_⟩
  · rw [okL_take s k hk, h.ok]; simp [okB]; omega
  · rw [h.all, drop_one s k hk, Lib.fieldsGo_more _ _ _ (by rw [sp_of (by omega)]; simp; omega), piece_one s b k h.bk hk]

theorem Pt.word {s : ByteArray} {b k : Nat} {done : List (List UInt8)} (h : Pt s b k done) (hk : k < s.size) (h1 : s[k].toNat = 32) (hb : b < k) : Pt s (k + 1) (k + 1) (done ++ [(s.data.toList.drop b).take (k - b)]) := by
  refine ⟨by omega, by omega, ?_, by have := h.len; simp; omega, ?_⟩
  · rw [okL_take s k hk, h.ok]; simp [okB]; omega
  · rw [h.all, drop_one s k hk, Lib.fieldsGo_end _ _ _ (by rw [sp_of (by omega)]; simp [h1]) (Lib.piece_ne hb (by simp; omega))]
    simp

theorem Pt.blank {s : ByteArray} {b k : Nat} {done : List (List UInt8)} (h : Pt s b k done) (hk : k < s.size) (h1 : s[k].toNat = 32) (hb : ¬ b < k) : Pt s (k + 1) (k + 1) done := by
  have e : b = k := by have := h.bk; omega
  subst e
  refine ⟨by omega, by omega, ?_, by have := h.len; omega, ?_⟩
  · rw [okL_take s b hk, h.ok]; simp [okB]; omega
  · rw [h.all, drop_one s b hk]
    simp only [Nat.sub_self, List.take_zero]
    rw [Lib.fieldsGo_sp _ _ (by rw [sp_of (by omega)]; simp [h1])]

theorem Pt.last {s : ByteArray} {b k : Nat} {done : List (List UInt8)} (h : Pt s b k done) (hk : ¬ k < s.size) (hb : b < k) : Lib.fields s.data.toList = done ++ [(s.data.toList.drop b).take (k - b)] ∧ okL s.data.toList = true := by
  have e : s.data.toList.drop k = [] := List.drop_eq_nil_of_le (by simp; omega)
  have hne := Lib.piece_ne (l := s.data.toList) hb (by have := h.ks; simpa using this)
  refine ⟨?_, ?_⟩
  · rw [h.all, e]
    simp only [Lib.fieldsGo]
    rw [if_neg (by simpa using hne)]
  · have := h.ok
    rwa [List.take_of_length_le (by simp; omega)] at this
theorem Pt.none {s : ByteArray} {b k : Nat} {done : List (List UInt8)} (h : Pt s b k done) (hk : ¬ k < s.size) (hb : ¬ b < k) : Lib.fields s.data.toList = done ∧ okL s.data.toList = true := by
  have e : s.data.toList.drop k = [] := List.drop_eq_nil_of_le (by simp; omega)
  have eb : k - b = 0 := by omega
  refine ⟨?_, ?_⟩
  · rw [h.all, e, eb]
    simp [Lib.fieldsGo]
  · have := h.ok
    rwa [List.take_of_length_le (by simp; omega)] at this

theorem extract_bs (s : ByteArray) (b k : Nat) : s.extract b k = bs ((s.data.toList.drop b).take (k - b)) := by
  apply ByteArray.ext
  apply Array.toList_inj.1
  rw [Go.Lib.extract_data]
  rfl
end Go.Proofs.YtpiookjdeopmgaaDoor
