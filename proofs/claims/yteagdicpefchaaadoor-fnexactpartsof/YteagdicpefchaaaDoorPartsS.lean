/-
  spec.PartsOf: its contract.
-/
import Derived.Test.YteagdicpefchaaaDoorParts
namespace Go.Proofs.YteagdicpefchaaaDoor
open Go.RowKit

theorem news_str {w : World} (t : ByteArray) (l : List UInt8) (ty : TypeId) (h : t = bs l) : ∀ j u, (strs [l])[j]? = some u → (w.alloc (.cells #[.string t] ty)).cell? ((⟨w.heap.size, 0, none⟩ : Addr).add j) = some u := by
  intro j u hj
  match j, hj with
  | 0, hj =>
    rw [add_zero', World.cell?_alloc_at _ _ _ _ rfl, h]
    simpa [strs] using hj
theorem strs_one (xs : List (List UInt8)) : ∀ u ∈ strs xs, u.oneCell' = true := by
  intro u hu
  simp only [strs, List.mem_map] at hu
  obtain ⟨b, _, rfl⟩ := hu
  rfl

/-- 'append(out, t)' of a string, out a row that the call itself made -/
theorem wpList_append_str (w : World) {ops : Array Oper} {rest : List Oper} {o : Oper} {a : Act} {Q : Exit → Act → World → Prop} (hgd : o.guard = none) (s x : Operand)
    (ho : o.op = .call { callee := .builtin .append, args := #[s, x], argTypes := #[37, 37] }) (base : Nat)
    (v : Value) (xs : List (List UInt8)) (l : List UInt8) (hs : a.eval s = v) (hown : w.ownsRow base 9 1 v xs.length (strs xs))
    (ad : Addr) (hx : a.eval x = .slice (some ad) 1 1) (hnews : ∀ j u, (strs [l])[j]? = some u → w.cell? (ad.add j) = some u)
    (hlen : xs.length ≤ 100000000) (hbase : base ≤ w.heap.size)
    (h : ∀ v' w' xs', Hid (xs' = xs ++ [l]) → w'.ownsRow base 9 1 v' xs'.length (strs xs') → w.grownBy w' v.ownBlock → wpList Tryd.prog ops Q rest (a.put o.dst v') w') : wpList Tryd.prog ops Q (o :: rest) a w := by
  obtain ⟨i0, hi, hz0, hz1, hz2⟩ := info_parts Tryd.info9
  refine wpList_append_own w hgd s x 37 ho base 9 i0 (.string ⟨#[]⟩) 1 16 Tryd.underlying37 hi hz0 hz1 hz2 rfl (by decide) v xs.length (strs xs) hs hown ad 1 1 (strs [l]) hx (by simp [strs]) hnews (strs_one _) (by unfold maxLen; omega) (by omega) hbase ?_
  intro v' w' h1 h2 _
  have e : strs xs ++ strs [l] = strs (xs ++ [l]) := by simp [strs]
  have e2 : xs.length + 1 = (xs ++ [l]).length := by simp
  rw [e, e2] at h1
  exact h v' w' _ rfl h1 h2

theorem owns_empty (w : World) (base : Nat) (h : base ≤ w.heap.size) : (w.alloc (.cells #[] 9)).ownsRow base 9 1 (.slice (some ⟨w.heap.size, 0, none⟩) 0 0) 0 (strs []) := World.ownsRow_lit _ _ 0 h (by decide) rfl

set_option maxRecDepth 100000 in
set_option maxHeartbeats 2000000 in
theorem spt_any (s : ByteArray) (w : World) (hs : s.size ≤ 1048576) :
    Calls Tryd.prog 18 #[.string s] w fun e w' => ∃ v, e = .returned (.tuple #[v, .bool (goodS s)]) ∧ w'.ownsRow w.heap.size 9 1 v (prL s).length (strs (prL s)) ∧ Below w.heap.size w w' := by
  by_cases h600 : (600 : Int) < (s.size : Int)
  · have hg : goodS s = false := by simp [goodS]; omega
    rw [prL_no hg, hg]
    clear hg
    go_enter Tryd.func18, Tryd.ntmps18
    go_wp2
    go_ret2
    exact ⟨_, rfl, owns_empty w _ (Nat.le_refl _), (Below.refl _ _).alloc (Nat.le_refl _) _⟩
  obtain ⟨G, hG⟩ : ∃ G, G = goodS s := ⟨_, rfl⟩
  obtain ⟨L, hL⟩ : ∃ L, L = prL s := ⟨_, rfl⟩
  rw [← hG, ← hL]
  have GL : Hid (G = goodS s ∧ L = prL s) := ⟨hG, hL⟩
  clear hG hL
  go_enter Tryd.func18, Tryd.ntmps18
  go_wp2
  go_loopw [4, 5, 6] (fun v bb i wr => ∃ (k b : Nat) (done : List (List UInt8)), k ≤ s.size + 1 ∧ b ≤ k ∧ done.length ≤ k ∧ i = .int .i64 k ∧ bb = .int .i64 b ∧ Hid ((k ≤ s.size → Pt s b k done) ∧ (k = s.size + 1 → Lib.fields s.data.toList = done ∧ okL s.data.toList = true)) ∧ wr.ownsRow w.heap.size 9 1 v done.length (strs done) ∧ Below w.heap.size w wr)
    (fun _ _ i _ => s.size + 1 - (intOf i).toNat)
  case atStart =>
    exact ⟨0, 0, [], by omega, by omega, by simp, rfl, rfl, ⟨fun _ => Pt.first s, fun h => by omega⟩, owns_empty w _ (Nat.le_refl _), (Below.refl _ _).alloc (Nat.le_refl _) _⟩
  case round =>
    obtain ⟨k, b, done, hk, hbk, hdl, rfl, rfl, hp, hown, hnx⟩ := hrel
    have hsz := hnx.size
    by_cases hlt : k < s.size
    · obtain ⟨c, hc⟩ : ∃ c : Nat, c = s[k].toNat := ⟨_, rfl⟩
      have hcb : c < 256 := by have := s[k].toNat_lt; omega
      have hix := idx_str Tryd.underlying9 s k c hlt hc
      have C : Hid (c = s[k].toNat) := hc
      clear hc
      have h3 : c < 32 ∨ 126 < c ∨ (32 < c ∧ c ≤ 126) ∨ c = 32 := by omega
      rcases h3 with h | h | ⟨h, h'⟩ | h
      iterate 2
        · have hg : goodS s = false := by simp [goodS, okL_bad s k hlt (by have := C.out; omega)]
          have HG := hide hg
          clear hg
          go_wp2
          go_ret2
          refine ⟨_, by rw [GL.out.1, HG.out]; rfl, ?_, hnx.alloc hsz _⟩
          rw [GL.out.2, prL_no HG.out]
          exact owns_empty wr _ hsz
      · have hne : ((c : Int) != 32) = true := by simp; omega
        go_wp2
        go_roundw
        case rel => exact ⟨k + 1, b, done, by omega, by omega, by omega, by go_num, rfl, ⟨fun _ => (hp.out.1 (by omega)).more hlt (by have := C.out; omega) (by have := C.out; omega), fun h => by omega⟩, hown, hnx⟩
        case measure => simp [intOf]; omega
      · have hne : ((c : Int) != 32) = false := by simp; omega
        have hc1 : 32 ≤ c := by omega
        have hc2 : c ≤ 32 := by omega
        clear h
        by_cases hb : b < k
        · obtain ⟨t, ht⟩ : ∃ t : ByteArray, t = s.extract b k := ⟨_, rfl⟩
          have hsl := sl_str Tryd.underlying9 s t (b : Int) (k : Int) (by omega) (by omega) (by omega) (by rw [ht]; rfl)
          have TT := hide ht
          clear ht
          go_wp2_with (first
            | (at_builtin; refine wpList_append_str _ rfl _ _ rfl w.heap.size u4 done ((s.data.toList.drop b).take (k - b)) rfl (hown.alloc _) ⟨wr.heap.size, 0, none⟩ rfl (news_str t _ _ (by rw [TT.out, extract_bs])) (by omega) (by simp; omega) ?_))
          intro v' w1 xs' hx' hown' hgrow
          have hb1 := below_append _ hnx hown (Nat.le_refl _) hsz hgrow
          clear hgrow hnx hown
          go_wp2
          go_roundw
          case rel => exact ⟨k + 1, k + 1, xs', by omega, by omega, by rw [hx'.out]; simp; omega, by go_num, by go_num, ⟨fun _ => by rw [hx'.out]; exact (hp.out.1 (by omega)).word hlt (by have := C.out; omega) hb, fun h => by omega⟩, hown', hb1⟩
          case measure => simp [intOf]; omega
        · go_wp2
          go_roundw
          case rel => exact ⟨k + 1, k + 1, done, by omega, by omega, by omega, by go_num, by go_num, ⟨fun _ => (hp.out.1 (by omega)).blank hlt (by have := C.out; omega) hb, fun h => by omega⟩, hown, hnx⟩
          case measure => simp [intOf]; omega
    · by_cases hks : k ≤ s.size
      · by_cases hb : b < k
        · obtain ⟨t, ht⟩ : ∃ t : ByteArray, t = s.extract b k := ⟨_, rfl⟩
          have hsl := sl_str Tryd.underlying9 s t (b : Int) (k : Int) (by omega) (by omega) (by omega) (by rw [ht]; rfl)
          have TT := hide ht
          clear ht
          go_wp2_with (first
            | (at_builtin; refine wpList_append_str _ rfl _ _ rfl w.heap.size u4 done ((s.data.toList.drop b).take (k - b)) rfl (hown.alloc _) ⟨wr.heap.size, 0, none⟩ rfl (news_str t _ _ (by rw [TT.out, extract_bs])) (by omega) (by simp; omega) ?_))
          intro v' w1 xs' hx' hown' hgrow
          have hb1 := below_append _ hnx hown (Nat.le_refl _) hsz hgrow
          clear hgrow hnx hown
          go_wp2
          go_roundw
          case rel => exact ⟨k + 1, k + 1, xs', by omega, by omega, by rw [hx'.out]; simp; omega, by go_num, by go_num, ⟨fun h => by omega, fun _ => by rw [hx'.out]; exact (hp.out.1 hks).last hlt hb⟩, hown', hb1⟩
          case measure => simp [intOf]; omega
        · go_wp2
          go_roundw
          case rel => exact ⟨k + 1, k + 1, done, by omega, by omega, by omega, by go_num, by go_num, ⟨fun h => by omega, fun _ => (hp.out.1 hks).none hlt hb⟩, hown, hnx⟩
          case measure => simp [intOf]; omega
      · obtain ⟨a4, c4, h4⟩ := owns_len hown
        obtain ⟨e1, e2⟩ := hp.out.2 (by omega)
        by_cases h10 : (10 : Int) < (done.length : Int)
        · have hg : goodS s = false := by
            rw [goodS, e1]
            simp
            omega
          have HG := hide hg
          have E := hide e1
          clear hg e1 e2 hp
          rw [h4]
          go_wp2
          go_ret2
          refine ⟨_, by rw [GL.out.1, HG.out]; rfl, ?_, hnx.alloc hsz _⟩
          rw [GL.out.2, prL_no HG.out]
          exact owns_empty wr _ hsz
        · have hg : goodS s = true := by
            rw [goodS, e1, e2]
            simp
            omega
          have HG := hide hg
          have E := hide e1
          have OW := hide hown
          clear hg e1 e2 hp hown
          rw [h4]
          go_wp2
          go_ret2
          refine ⟨_, by rw [GL.out.1, HG.out]; rfl, ?_, hnx⟩
          rw [GL.out.2, prL_yes HG.out, E.out, ← h4]
          exact OW.out
end Go.Proofs.YteagdicpefchaaaDoor
