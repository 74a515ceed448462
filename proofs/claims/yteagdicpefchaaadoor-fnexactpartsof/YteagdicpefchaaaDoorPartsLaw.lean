/-
  The law on PartsOf: its walk.
-/
import Derived.Test.YteagdicpefchaaaDoorPartsI
import Derived.WalkSmall
namespace Go.Proofs.YteagdicpefchaaaDoor
open Go.RowKit

theorem gSpace : Tryd.prog.globalNamed "strings.asciiSpace" = some 0 := by kernel_rfl
theorem tab_space : (Rows.laid_strings_asciiSpace : DataW Unit) = Lib.tabData .u8 Lib.asciiSpaceTab := by kernel_rfl

theorem space_of_laid {W : World} (h : laidMetH Tryd.prog Rows.fnExactPartsOfRow.laid W) : Lib.TabIs Tryd.prog W "strings.asciiSpace" .u8 Lib.asciiSpaceTab := by
  rw [MakeChecks.laidMetH_plain _ _ _ (by kernel_rfl)] at h
  have h2 : laidMet Tryd.prog [("strings.asciiSpace", Rows.laid_strings_asciiSpace)] W := laidMet.tail h
  rw [tab_space] at h2
  exact Lib.tabIs_of_head gSpace (t := 57) (by kernel_rfl) Tryd.underlying57 Tryd.underlying5 (by kernel_rfl) (by kernel_rfl) h2

theorem globS_lt {W : World} {n : String} {g : Nat} {k : IntKind} {zs : List Int} (hg : Tryd.prog.globalNamed n = some g) (h : Lib.TabIs Tryd.prog W n k zs) : g < W.heap.size := by
  unfold Lib.TabIs World.var? at h
  simp only [hg, Option.bind_some] at h
  rcases Nat.lt_or_ge g W.heap.size with hlt | hge
  · exact hlt
  · rw [Array.getElem?_eq_none hge] at h
    simp at h

theorem owns_keep {w w' : World} {base B : Nat} {e : TypeId} {size : Nat} {v : Value} {n : Nat} {xs : List Value} (h : w.ownsRow base e size v n xs) (hb : Below B w w') (hlt : ∀ k, v.ownBlock = some k → k < B) : w'.ownsRow base e size v n xs := by
  refine ⟨h.1, ?_⟩
  rcases h.2 with h2 | ⟨g, cap, cur, hv, hg, hh, r⟩
  · exact .inl h2
  · exact .inr ⟨g, cap, cur, hv, hg, by rw [hb.block g (hlt g (by rw [hv]; rfl))]; exact hh, r⟩

set_option maxRecDepth 100000 in
set_option maxHeartbeats 1000000 in
theorem fnExactPartsOf_walk (s : ByteArray) (_ : s.size ≤ maxLen) (w : World) (hL : laidMetH Tryd.prog Rows.fnExactPartsOfRow.laid w) :
    Calls Tryd.prog 5 #[.string s] w fun e w' => e = .returned (.bool true) ∧ Below w.heap.size w w' := by
  by_cases hs : (1048576 : Int) < (s.size : Int)
  · clear hL
    go_enter Tryd.func5, Tryd.ntmps5
    go_wp2
    go_ret
    exact ⟨rfl, Below.refl _ _⟩
  have hT := space_of_laid hL
  have hg0 := globS_lt gSpace hT
  have HT := hide hT
  clear hL hT
  have hlen := prL_len s
  obtain ⟨xs, hx⟩ : ∃ xs, xs = prL s := ⟨_, rfl⟩
  obtain ⟨G, hG⟩ : ∃ G, G = goodS s := ⟨_, rfl⟩
  have SP : ∀ w, Calls Tryd.prog 18 #[.string s] w fun e w' => ∃ v, e = .returned (.tuple #[v, .bool G]) ∧ w'.ownsRow w.heap.size 9 1 v xs.length (strs xs) ∧ Below w.heap.size w w' := fun w => by rw [hx, hG]; exact spt_any s w (by omega)
  have IP : ∀ w, Lib.TabIs Tryd.prog w "strings.asciiSpace" .u8 Lib.asciiSpaceTab → Calls Tryd.prog 19 #[.string s] w fun e w' => ∃ v, e = .returned (.tuple #[v, .bool G]) ∧ w'.ownsRow w.heap.size 9 1 v xs.length (strs xs) ∧ Below w.heap.size w w' := fun w ht => by rw [hx, hG]; exact ipt_any s w (by omega) ht
  rw [← hx] at hlen
  have HSP := hide SP
  have HIP := hide IP
  clear hx hG SP IP
  obtain ⟨n, hn⟩ : ∃ n, n = xs.length := ⟨_, rfl⟩
  have HN := hide hn
  rw [← hn] at hlen
  clear hn
  go_enter Tryd.func5, Tryd.ntmps5
  go_wp2_with fail
  refine (HSP.out _).mono ?_
  rintro e w1 ⟨vs, rfl, os1, b1⟩
  have ls1 := fun k (h : vs.ownBlock = some k) => (os1.lt k h).2
  have z1 := b1.size
  have OS1 := hide os1; have LS := hide ls1; clear os1 ls1
  go_wp2_with fail
  refine (HIP.out _ (var?_below b1 gSpace hg0 HT.out)).mono ?_
  rintro e w2 ⟨vg, rfl, og2, b2⟩
  have z2 := b2.size
  have os2 := owns_keep OS1.out b2 LS.out
  have lg2 := fun k (h : vg.ownBlock = some k) => (og2.lt k h).2
  have OS2 := hide os2; have OG2 := hide og2; have LG := hide lg2; clear os2 og2 lg2 OS1
  go_wp2_with fail
  refine (eqS_any vg vs _ _ xs _ OG2.out OS2.out (by have := HN.out; omega)).mono ?_
  rintro e w3 ⟨rfl, b3⟩
  have z3 := b3.size
  have os3 := owns_below OS2.out b3 (Nat.le_refl _)
  have og3 := owns_below OG2.out b3 (Nat.le_refl _)
  have OS3 := hide os3; have OG3 := hide og3; clear os3 og3 OS2 OG2
  go_wp2_with fail
  refine (markS_any vg _ xs 1 _ OG3.out (by have := HN.out; omega) (by omega) (by omega) (by omega)).mono ?_
  rw [← HN.out]
  rintro e w4 ⟨rfl, og4, b4⟩
  have z4 := b4.size
  have os4 := owns_keep OS3.out b4 LS.out
  have OS4 := hide os4; have OG4 := hide og4; clear os4 og4 OS3 OG3
  go_wp2_with fail
  refine (heldS_any vg _ n 1 _ OG4.out (by omega) (by omega) (by omega)).mono ?_
  rintro e w5 ⟨rfl, b5⟩
  have z5 := b5.size
  have os5 := owns_below OS4.out b5 (Nat.le_refl _)
  have og5 := owns_below OG4.out b5 (Nat.le_refl _)
  have OS5 := hide os5; have OG5 := hide og5; clear os5 og5 OS4 OG4
  have b05 : Below w.heap.size w w5 := (((b1.trans (b2.mono (by omega))).trans (b3.mono (by omega))).trans (b4.mono (by omega))).trans (b5.mono (by omega))
  clear b1 b2 b3 b4 b5
  go_wp2_with fail
  refine (HIP.out _ (var?_below b05 gSpace hg0 HT.out)).mono ?_
  rintro e w6 ⟨vh, rfl, oh6, b6⟩
  have z6 := b6.size
  have os6 := owns_below OS5.out b6 (Nat.le_refl _)
  have og6 := owns_below OG5.out b6 (Nat.le_refl _)
  have OS6 := hide os6; have OG6 := hide og6; have OH6 := hide oh6; clear os6 og6 oh6 OS5 OG5
  go_wp2_with fail
  refine (eqS_any vh vs _ _ xs _ OH6.out OS6.out (by have := HN.out; omega)).mono ?_
  rintro e w7 ⟨rfl, b7⟩
  have z7 := b7.size
  have og7 := owns_below OG6.out b7 (Nat.le_refl _)
  have OG7 := hide og7; clear og7 OG6 OH6 OS6
  go_wp2_with fail
  refine (heldS_any vg _ n 1 _ OG7.out (by omega) (by omega) (by omega)).mono ?_
  rintro e w8 ⟨rfl, b8⟩
  go_wp2
  go_ret
  exact ⟨rfl, ((b05.trans (b6.mono (by omega))).trans (b7.mono (by omega))).trans (b8.mono (by omega))⟩
end Go.Proofs.YteagdicpefchaaaDoor
