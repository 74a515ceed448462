/-
  What is awaited where the specification reads the bytes of a right packet.
-/
import Derived.Test.YtchmmekhfcojgaaGreatDoorPq36
import Derived.Test.YtchmmekhfcojgaaGreatDoorPq44
namespace Go.Proofs.YtchmmekhfcojgaaGreatDoor
open Go.RowKit

def rpP (x : PkD) : Nat := (oneL x ++ varL x.heard.length).length

def rpQ (x : PkD) (xs : List RecD) : Nat := (oneL x ++ varL x.heard.length ++ x.heard.map byB ++ varL xs.length).length

def rpR (x : PkD) (xs : List RecD) (k : Nat) : Nat := rpQ x xs + (shortsL (xs.take k)).length

structure Await (s : ByteArray) (x : PkD) (xs : List RecD) : Prop where
  k0 : oneR s 0 false = ⟨x.kind, 1, false⟩
  k1 : oneR s 1 false = ⟨x.src, 2, false⟩
  k2 : oneR s 2 false = ⟨x.dst, 3, false⟩
  k3 : oneR s 3 false = ⟨x.area, 4, false⟩
  hn : varR s 4 false = ⟨(x.heard.length : Int), rpP x, false⟩
  he : ∀ k z, x.heard[k]? = some z → oneR s (rpP x + k) false = ⟨z, rpP x + (k + 1), false⟩
  ln : varR s (rpP x + x.heard.length) false = ⟨(xs.length : Int), rpQ x xs, false⟩
  le : ∀ k r, xs[k]? = some r → varR s (rpR x xs k) false = ⟨((recL r).length : Int), rpR x xs k + (varL (recL r).length).length, false⟩ ∧ takeO s (rpR x xs k + (varL (recL r).length).length) false (recL r).length = false ∧ takeB s (rpR x xs k + (varL (recL r).length).length) false (recL r).length = bs (recL r) ∧ takeP s (rpR x xs k + (varL (recL r).length).length) false (recL r).length = rpR x xs (k + 1) ∧ readD (bs (recL r)) = r
  few : x.heard.length ≤ 6
  list : xs.length ≤ 150

theorem split_at {α : Type} {l : List α} {k : Nat} {a : α} (h : l[k]? = some a) : l = l.take k ++ a :: l.drop (k + 1) := by
  obtain ⟨hk, e⟩ := List.getElem?_eq_some_iff.1 h
  have h1 := (List.take_append_drop k l).symm
  rw [List.drop_eq_getElem_cons hk, e] at h1
  exact h1

theorem await {x : PkD} {xs : List RecD} (h : PkBounds x xs) : Await (bs (pkL x xs)) x xs := by
  have hk := h.kind
  have hs := h.src
  have hd := h.dst
  have ha := h.area
  have hf := h.few
  have hl := h.list
  have hD : (bs (pkL x xs)).data.toList = pkL x xs := by simp [bs]
  have hZ : (bs (pkL x xs)).size = (pkL x xs).length := bs_size _
  generalize bs (pkL x xs) = s at hD hZ
  refine ⟨?_, ?_, ?_, ?_, ?_, ?_, ?_, ?_, hf, hl⟩
  · exact oneR_to (l := []) (rest := [byB x.src, byB x.dst, byB x.area] ++ varL x.heard.length ++ x.heard.map byB ++ varL xs.length ++ shortsL xs) (by rw [hD]; simp [pkL, oneL]) (by omega)
  · exact oneR_to (l := [byB x.kind]) (rest := [byB x.dst, byB x.area] ++ varL x.heard.length ++ x.heard.map byB ++ varL xs.length ++ shortsL xs) (by rw [hD]; simp [pkL, oneL]) (by omega)
  · exact oneR_to (l := [byB x.kind, byB x.src]) (rest := [byB x.area] ++ varL x.heard.length ++ x.heard.map byB ++ varL xs.length ++ shortsL xs) (by rw [hD]; simp [pkL, oneL]) (by omega)
  · exact oneR_to (l := [byB x.kind, byB x.src, byB x.dst]) (rest := varL x.heard.length ++ x.heard.map byB ++ varL xs.length ++ shortsL xs) (by rw [hD]; simp [pkL, oneL]) (by omega)
  · have := varR_at (s := s) (l := oneL x) (rest := x.heard.map byB ++ varL xs.length ++ shortsL xs) (n := x.heard.length) (by rw [hD]; simp [pkL]) (by omega)
    rw [show rpP x = (oneL x).length + (varL x.heard.length).length by unfold rpP; simp]
    exact this
  · intro k z hz
    have hkl := (List.getElem?_eq_some_iff.1 hz).1
    have e1 : x.heard.map byB = (x.heard.take k).map byB ++ byB z :: (x.heard.drop (k + 1)).map byB := by
      have h1 := congrArg (List.map byB) (split_at hz)
      rw [List.map_append, List.map_cons] at h1
      exact h1
    have := oneR_to (s := s) (l := oneL x ++ varL x.heard.length ++ (x.heard.take k).map byB) (rest := (x.heard.drop (k + 1)).map byB ++ varL xs.length ++ shortsL xs) (n := z) (by rw [hD]; unfold pkL; rw [e1]; simp) (by have := h.heard z (List.mem_of_getElem? hz); omega)
    have l1 : (oneL x ++ varL x.heard.length ++ (x.heard.take k).map byB).length = rpP x + k := by
      unfold rpP
      simp
      omega
    have l2 : (oneL x ++ varL x.heard.length ++ (x.heard.take k).map byB ++ [byB z]).length = rpP x + (k + 1) := by
      rw [List.length_append, l1]
      simp
      omega
    rw [l1, l2] at this
    exact this
  · have := varR_at (s := s) (l := oneL x ++ varL x.heard.length ++ x.heard.map byB) (rest := shortsL xs) (n := xs.length) (by rw [hD]; simp [pkL]) (by omega)
    have l1 : (oneL x ++ varL x.heard.length ++ x.heard.map byB).length = rpP x + x.heard.length := by unfold rpP; simp; omega
    have l2 : rpQ x xs = (oneL x ++ varL x.heard.length ++ x.heard.map byB).length + (varL xs.length).length := by unfold rpQ; simp; omega
    rw [l2, ← l1]
    exact this
  · intro k r hr
    have hok := h.recs r (List.mem_of_getElem? hr)
    have hlen := recL_len hok
    have e1 : shortsL xs = shortsL (xs.take k) ++ (shortL r ++ shortsL (xs.drop (k + 1))) := by
      have h1 := congrArg shortsL (split_at hr)
      rw [show shortsL (xs.take k ++ r :: xs.drop (k + 1)) = shortsL (xs.take k) ++ (shortL r ++ shortsL (xs.drop (k + 1))) by simp [shortsL]] at h1
      exact h1
    obtain ⟨L, hL⟩ : ∃ L, L = oneL x ++ varL x.heard.length ++ x.heard.map byB ++ varL xs.length ++ shortsL (xs.take k) := ⟨_, rfl⟩
    have hLl : L.length = rpR x xs k := by rw [hL, List.length_append]; rfl
    have hsd : s.data.toList = L ++ (varL (recL r).length ++ (recL r ++ shortsL (xs.drop (k + 1)))) := by
      rw [hD, hL]
      unfold pkL
      rw [e1]
      simp [shortL]
    have hsz : L.length + ((varL (recL r).length).length + ((recL r).length + (shortsL (xs.drop (k + 1))).length)) = s.size := by
      have hls : s.data.toList.length = s.size := by rw [Array.length_toList]; rfl
      rw [← hls, hsd]
      simp
    have hv := varR_at (s := s) (l := L) (rest := recL r ++ shortsL (xs.drop (k + 1))) (n := (recL r).length) hsd (by omega)
    rw [hLl] at hv hsz
    have ho : takeO s (rpR x xs k + (varL (recL r).length).length) false (recL r).length = false := by unfold takeO; simp; omega
    refine ⟨hv, ho, ?_, ?_, (read_back hok).2⟩
    · unfold takeB
      rw [ho]
      simp only [Bool.false_eq_true, if_false]
      apply ByteArray.ext
      apply Array.ext'
      simp only [ByteArray.data_extract, Array.toList_extract, List.extract, bs]
      rw [hsd]
      have e2 : rpR x xs k + (varL (recL r).length).length = (L ++ varL (recL r).length).length := by rw [List.length_append, hLl]
      have e3 : L ++ (varL (recL r).length ++ (recL r ++ shortsL (xs.drop (k + 1)))) = (L ++ varL (recL r).length) ++ (recL r ++ shortsL (xs.drop (k + 1))) := by simp
      rw [e3, e2, List.drop_left, Nat.add_sub_cancel_left, List.take_left]
    · unfold takeP
      rw [ho]
      simp only [Bool.false_eq_true, if_false]
      unfold rpR
      rw [shortsL_succ hr, List.length_append]
      simp [shortL]
      omega

theorem unV_got {T : ByteArray} : ∃ (t : ByteArray) (b : Bool), unV T = .tuple #[.string t, .bool (!b)] ∧ t.size ≤ T.size ∧ ∀ l, T = sealB l → l.length ≤ 20000 → t = bs l ∧ b = false := by
  by_cases h : 4 ≤ T.size ∧ T.size - 4 ≤ 20000 ∧ unT T (T.size - 4)
  · refine ⟨T.extract 0 (T.size - 4), false, unV_yes h.1 h.2.1 h.2.2, by rw [ByteArray.size_extract]; omega, fun l hl _ => ⟨?_, rfl⟩⟩
    rw [hl]
    exact seal_body l
  · refine ⟨bs [], true, unV_no h, by rw [bs_size]; simp, fun l hl hs => absurd (by rw [hl]; exact seal_un hs) h⟩
end Go.Proofs.YtchmmekhfcojgaaGreatDoor
