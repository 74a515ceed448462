/-
  impl.placeOfNode, toldCost, Linked: their contracts; over a right store.
  impl.Linked over a right store: it is what the table of links has.
  (*impl.wayFinder).goOn: what its rounds keep.
-/
import Derived.Test.YtidoieolejkflaaGreatPk11
import Derived.Test.YtidoieolejkflaaGreatPk5
import Derived.Test.YtidoieolejkflaaGreatPk26
import Derived.Test.YtidoieolejkflaaGreatPk27
namespace Go.Proofs.YtidoieolejkflaaGreat
open Go.RowKit

set_option linter.unusedSimpArgs false

/-- a node's record of an area, whatever its key -/
def nodeM (area owner : Int) (x : RecD) : Bool := x.area == area && x.kind == 1 && x.owner == owner

def plN (xs : List RecD) (area owner : Int) : Option Nat := xs.findIdx? (nodeM area owner)

def plV2 : Option Nat → Value
  | some k => .tuple #[.int .i64 (k : Int), .bool true]
  | none => .tuple #[.int .i64 0, .bool false]

theorem plN_found {xs : List RecD} {area owner : Int} {x : RecD} {k : Nat} (hk : xs[k]? = some x) (hs : nodeM area owner x = true) (hall : ∀ j, j < k → ∀ y, xs[j]? = some y → nodeM area owner y = false) : plN xs area owner = some k := by
  obtain ⟨h1, e1⟩ := List.getElem?_eq_some_iff.1 hk
  unfold plN
  rw [List.findIdx?_eq_some_iff_getElem]
  refine ⟨h1, by rw [e1]; exact hs, fun j hj => ?_⟩
  have := hall j hj xs[j] (List.getElem?_eq_getElem (by omega))
  rw [this]
  simp

theorem plN_none {xs : List RecD} {area owner : Int} (hall : ∀ j, j < xs.length → ∀ y, xs[j]? = some y → nodeM area owner y = false) : plN xs area owner = none := by
  unfold plN
  rw [List.findIdx?_eq_none_iff]
  intro x hx
  obtain ⟨j, hj, e⟩ := List.mem_iff_getElem.1 hx
  exact hall j hj x (by rw [List.getElem?_eq_getElem hj, e])

theorem all_next {xs : List RecD} {k : Nat} {x : RecD} {f : RecD → Bool} (h : ∀ j, j < k → ∀ y, xs[j]? = some y → f y = false) (hk : xs[k]? = some x) (hx : f x = false) : ∀ j, j < k + 1 → ∀ y, xs[j]? = some y → f y = false := by
  intro j hj y hy
  by_cases e : j = k
  · subst e
    rw [hk] at hy
    cases hy
    exact hx
  · exact h j (by omega) y hy

set_option maxRecDepth 100000 in
set_option maxHeartbeats 2000000 in
theorem placeN_any (v : Value) (ps : List RP) (hi : Nat) (area owner : Int) (w : World) (hv : RecsIn w hi v ps) (hhi : hi ≤ w.heap.size) (hn : tot ps ≤ 1048576) :
    Calls Tryz.prog 86 #[v, .int .i64 area, .int .i64 owner] w fun e w' => e = .returned (plV2 (plN (fsts ps) area owner)) ∧ Below w.heap.size w w' := by
  have hnl := tot_len ps
  obtain ⟨R, hR⟩ : ∃ R, R = plN (fsts ps) area owner := ⟨_, rfl⟩
  rw [← hR]
  have HR := hide hR
  clear hR
  obtain ⟨a1, c1, rfl⟩ := owns_lenS hv.row
  have HV := hide hv
  clear hv
  go_enter Tryz.func86, Tryz.ntmps86
  go_wp2
  go_loopw [11] (fun i wr => ∃ (k : Nat), k ≤ ps.length ∧ i = .int .i64 (k : Int) ∧ Hid (∀ j, j < k → ∀ y, (fsts ps)[j]? = some y → nodeM area owner y = false) ∧ Below w.heap.size w wr) (fun i _ => ps.length - (intOf i).toNat)
  case atStart => exact ⟨0, by omega, rfl, hide (by omega), Below.refl _ _⟩
  case round =>
    obtain ⟨k, hk, rfl, HALL, hnx⟩ := hrel
    by_cases hlt : k < ps.length
    · obtain ⟨p, hp⟩ : ∃ p, ps[k]? = some p := ⟨ps[k], List.getElem?_eq_getElem hlt⟩
      have hat := HV.out.at
      obtain ⟨b, off, cap', hve, hbb, c0, c1, c2, _⟩ := hat.cells k p hp
      cases hve
      rw [← hnx.cell (p := ⟨b, off + k * 8, none⟩) (Nat.lt_of_lt_of_le hbb hhi)] at c0
      rw [← hnx.cell (p := ⟨b, off + k * 8 + 1, none⟩) (Nat.lt_of_lt_of_le hbb hhi)] at c1
      rw [← hnx.cell (p := ⟨b, off + k * 8 + 2, none⟩) (Nat.lt_of_lt_of_le hbb hhi)] at c2
      have hki : (0 : Int) ≤ (k : Int) := by omega
      have hkj : (k : Int) < (ps.length : Int) := by omega
      have HPP := hide (fsts_at hp)
      obtain ⟨x0, hx0⟩ : ∃ x, x = p.1.area := ⟨_, rfl⟩
      obtain ⟨x1, hx1⟩ : ∃ x, x = p.1.kind := ⟨_, rfl⟩
      obtain ⟨x2, hx2⟩ : ∃ x, x = p.1.owner := ⟨_, rfl⟩
      have HM := hide (show nodeM area owner p.1 = (x0 == area && x1 == 1 && x2 == owner) by rw [hx0, hx1, hx2]; rfl)
      rw [← hx0] at c0
      rw [← hx1] at c1
      rw [← hx2] at c2
      clear hp hat hx0 hx1 hx2
      have NXT := hide (fun (e : (x0 == area && x1 == 1 && x2 == owner) = false) => all_next HALL.out HPP.out (HM.out.trans e))
      by_cases h0 : x0 = area
      · by_cases h1 : x1 = 1
        · by_cases h2 : x2 = owner
          · have HF := hide (show R = some k by rw [HR.out]; exact plN_found HPP.out (by rw [HM.out]; simp [h0, h1, h2]) HALL.out)
            have hRR := HF.out
            subst hRR
            subst h0 h1 h2
            clear NXT HM
            go_wp2
            go_returns
            exact ⟨rfl, hnx⟩
          · have HN := hide (NXT.out (by simp [h2]))
            have hb2 : (x2 == owner) = false := by simpa using h2
            subst h0 h1
            clear NXT HM
            go_wp2
            go_roundw
            case rel => exact ⟨k + 1, by omega, by go_num, HN, hnx⟩
            case measure => simp [intOf]; omega
        · have HN := hide (NXT.out (by simp [h1]))
          have hb1 : (x1 == 1) = false := by simpa using h1
          subst h0
          clear NXT HM
          go_wp2
          go_roundw
          case rel => exact ⟨k + 1, by omega, by go_num, HN, hnx⟩
          case measure => simp [intOf]; omega
      · have HN := hide (NXT.out (by simp [h0]))
        have hb0 : (x0 == area) = false := by simpa using h0
        clear NXT HM
        go_wp2
        go_roundw
        case rel => exact ⟨k + 1, by omega, by go_num, HN, hnx⟩
        case measure => simp [intOf]; omega
    · have HF := hide (show R = none by rw [HR.out]; exact plN_none (fun j hj => HALL.out j (by simp [fsts] at hj; omega)))
      have hRR := HF.out
      subst hRR
      go_wp2
      go_returns
      exact ⟨rfl, hnx⟩

/-- what one end tells of a link, and whether it does -/
def toldD (xs : List RecD) (area owner to : Int) : Option Int := match plN xs area owner with
  | some k => match xs[k]? with
    | some x => (x.near.find? (fun n => n.to == to)).map (·.c)
    | none => none
  | none => none

def toldV : Option Int → Value
  | some c => .tuple #[.int .i64 c, .bool true]
  | none => .tuple #[.int .i64 0, .bool false]

theorem plN_at {xs : List RecD} {area owner : Int} {k : Nat} (h : plN xs area owner = some k) : ∃ x, xs[k]? = some x ∧ nodeM area owner x = true ∧ ∀ j, j < k → ∀ y, xs[j]? = some y → nodeM area owner y = false := by
  unfold plN at h
  obtain ⟨h1, h2, h3⟩ := List.findIdx?_eq_some_iff_getElem.1 h
  refine ⟨xs[k], List.getElem?_eq_getElem h1, h2, fun j hj y hy => ?_⟩
  have h4 := h3 j hj
  rw [List.getElem?_eq_getElem (by omega)] at hy
  cases hy
  simpa using h4

theorem find_hit {ns : List Nr} {k : Nat} {n : Nr} {b : Int} (h : ns[k]? = some n) (hno : ∀ q ∈ ns.take k, q.to ≠ b) (hb : n.to = b) : ns.find? (fun x => x.to == b) = some n := by
  obtain ⟨hk, e1⟩ := List.getElem?_eq_some_iff.1 h
  rw [List.find?_eq_some_iff_append]
  refine ⟨by simpa using hb, ns.take k, ns.drop (k + 1), ?_, ?_⟩
  · rw [← e1, ← List.drop_eq_getElem_cons hk, List.take_append_drop]
  · intro x hx
    simpa using hno x hx

set_option maxRecDepth 100000 in
set_option maxHeartbeats 2000000 in
theorem told_any (v : Value) (ps : List RP) (hi : Nat) (area owner to : Int) (w : World) (hv : RecsIn w hi v ps) (hhi : hi ≤ w.heap.size) (hn : tot ps ≤ 1048576) :
    Calls Tryz.prog 92 #[v, .int .i64 area, .int .i64 owner, .int .i64 to] w fun e w' => e = .returned (toldV (toldD (fsts ps) area owner to)) ∧ Below w.heap.size w w' := by
  have hnl := tot_len ps
  obtain ⟨R, hR⟩ : ∃ R, R = toldD (fsts ps) area owner to := ⟨_, rfl⟩
  rw [← hR]
  have HP := hide (placeN_any v ps hi area owner w hv hhi hn)
  obtain ⟨a1, c1, rfl⟩ := owns_lenS hv.row
  unfold toldD at hR
  cases hpl : plN (fsts ps) area owner with
  | none =>
    rw [hpl] at HP hR
    have hRR : R = none := hR
    subst hRR
    unfold plV2 at HP
    unfold toldV
    clear hR hv
    go_enter Tryz.func92, Tryz.ntmps92
    go_wp2_with fail
    refine HP.out.mono ?_
    rintro e w1 ⟨rfl, b1⟩
    go_wp2
    go_returns
    exact ⟨rfl, b1⟩
  | some k =>
    rw [hpl] at HP hR
    obtain ⟨x, hx, _, _⟩ := plN_at hpl
    simp only [hx] at hR
    obtain ⟨p, hp, rfl⟩ := fsts_some5 hx
    have hR2 : R = (p.1.near.find? (fun n => n.to == to)).map (·.c) := hR
    have HR := hide hR2
    clear hR hR2
    unfold plV2 at HP
    have hlt : k < ps.length := (List.getElem?_eq_some_iff.1 hp).1
    obtain ⟨b, off, cap', hve, hbb, _, _, _, _, _, c5, _, _, hnr⟩ := hv.at.cells k p hp
    cases hve
    obtain ⟨pa, pc, hpn⟩ := NearsAt.shape hnr
    rw [hpn] at c5 hnr
    have hnl2 : p.1.near.length ≤ 1048576 := by have := tot_mem (List.mem_of_getElem? hp); omega
    have HNR := hide hnr
    have hki : (0 : Int) ≤ (k : Int) := by omega
    have hkj : (k : Int) < (ps.length : Int) := by omega
    obtain ⟨ns, hns⟩ : ∃ ns, ns = p.1.near := ⟨_, rfl⟩
    rw [← hns] at HR c5 HNR hnl2
    clear hx hp hv hnr hpn hns hpl
    go_enter Tryz.func92, Tryz.ntmps92
    go_wp2_with fail
    refine HP.out.mono ?_
    rintro e w1 ⟨rfl, b1⟩
    rw [← b1.cell (p := ⟨b, off + k * 8 + 5, none⟩) (Nat.lt_of_lt_of_le hbb hhi)] at c5
    have N1 := hide (RowAt.later HNR.out b1 hhi)
    go_wp2
    go_loopw [29] (fun i wr => ∃ (j : Nat), j ≤ ns.length ∧ i = .int .i64 (j : Int) ∧ Hid (∀ q ∈ ns.take j, q.to ≠ to) ∧ Below w1.heap.size w1 wr) (fun i _ => ns.length - (intOf i).toNat)
    case atStart => exact ⟨0, by omega, rfl, hide (by simp), Below.refl _ _⟩
    case round =>
      obtain ⟨j, hj, rfl, HNO, hnx⟩ := hrel
      have hs1 := b1.size
      have B : Below w.heap.size w wr := b1.trans (hnx.mono hs1)
      have hsB := B.size
      have hsx := hnx.size
      by_cases hjl : j < ns.length
      · obtain ⟨n, hnj⟩ : ∃ n, ns[j]? = some n := ⟨ns[j], List.getElem?_eq_getElem hjl⟩
        obtain ⟨b2, off2, cp, hve, hbb2, d0, d1⟩ := NearsAt.cells (RowAt.later N1.out hnx (by omega)) j n hnj
        cases hve
        have hji : (0 : Int) ≤ (j : Int) := by omega
        have hjj : (j : Int) < (ns.length : Int) := by omega
        by_cases hto : n.to = to
        · have HF := hide (show R = some n.c by rw [HR.out, find_hit hnj HNO.out hto]; rfl)
          have hRR := HF.out
          subst hRR
          subst hto
          clear hnj
          go_wp2
          go_returns
          exact ⟨rfl, B.alloc (by omega) _⟩
        · have HN := hide (take_allN hnj HNO.out hto)
          have hb0 : (n.to == to) = false := by simpa using hto
          clear hnj
          go_wp2
          go_roundw
          case rel => exact ⟨j + 1, by omega, by go_num, HN, hnx.alloc (by omega) _⟩
          case measure => simp [intOf]; omega
      · have HF := hide (show R = none by
          rw [HR.out]
          have h := HNO.out
          rw [List.take_of_length_le (by omega)] at h
          rw [List.find?_eq_none.2 (fun x hx => by simpa using h x hx)]
          rfl)
        have hRR := HF.out
        subst hRR
        go_wp2
        go_returns
        exact ⟨rfl, B⟩

def linkedI (xs : List RecD) (area a b : Int) : Int := match toldD xs area b a with
  | some _ => match toldD xs area a b with
    | some c => c
    | none => 0
  | none => 0

set_option maxRecDepth 100000 in
set_option maxHeartbeats 2000000 in
theorem ilinked_any (v : Value) (ps : List RP) (hi : Nat) (area a b : Int) (w : World) (hv : RecsIn w hi v ps) (hhi : hi ≤ w.heap.size) (hn : tot ps ≤ 1048576) :
    Calls Tryz.prog 41 #[v, .int .i64 area, .int .i64 a, .int .i64 b] w fun e w' => e = .returned (.int .i64 (linkedI (fsts ps) area a b)) ∧ Below w.heap.size w w' := by
  have H1 := hide (told_any v ps hi area b a w hv hhi hn)
  have H2 := hide (fun W (hb : Below w.heap.size w W) => told_any v ps hi area a b W (hv.below hb hhi) (Nat.le_trans hhi hb.size) hn)
  clear hv
  unfold linkedI
  cases e1 : toldD (fsts ps) area b a with
  | none =>
    rw [e1] at H1
    unfold toldV at H1
    go_enter Tryz.func41, Tryz.ntmps41
    go_wp2_with fail
    refine H1.out.mono ?_
    rintro e w1 ⟨rfl, b1⟩
    go_wp2
    go_ret
    exact ⟨rfl, b1⟩
  | some c =>
    rw [e1] at H1
    cases e2 : toldD (fsts ps) area a b with
    | none =>
      rw [e2] at H2
      unfold toldV at H1 H2
      go_enter Tryz.func41, Tryz.ntmps41
      go_wp2_with fail
      refine H1.out.mono ?_
      rintro e w1 ⟨rfl, b1⟩
      go_wp2_with fail
      refine (H2.out _ b1).mono ?_
      rintro e w2 ⟨rfl, b2⟩
      have B2 : Below w.heap.size w w2 := b1.trans (b2.mono b1.size)
      go_wp2
      go_ret
      exact ⟨rfl, B2⟩
    | some c2 =>
      rw [e2] at H2
      unfold toldV at H1 H2
      go_enter Tryz.func41, Tryz.ntmps41
      go_wp2_with fail
      refine H1.out.mono ?_
      rintro e w1 ⟨rfl, b1⟩
      go_wp2_with fail
      refine (H2.out _ b1).mono ?_
      rintro e w2 ⟨rfl, b2⟩
      have B2 : Below w.heap.size w w2 := b1.trans (b2.mono b1.size)
      go_wp2
      go_ret
      exact ⟨rfl, B2⟩
end Go.Proofs.YtidoieolejkflaaGreat
namespace Go.Proofs.YtidoieolejkflaaGreat
open Go.RowKit

theorem recOk_node {x : RecD} (h : recOkB x = true) (hk : x.kind = 1) : x.key = 0 := by
  unfold recOkB at h
  simp only [Bool.and_eq_true] at h
  have h2 := h.2
  rw [if_pos hk] at h2
  simp only [Bool.and_eq_true, beq_iff_eq] at h2
  exact h2.1.1.1.2

theorem store_mem {xs : List RecD} (h : storeB xs = true) {x : RecD} (hx : x ∈ xs) : recOkB x = true := by
  unfold storeB at h
  simp only [Bool.and_eq_true] at h
  exact allOk_mem h.1.2 hx

/-- in a right store a node's record is found by its key -/
theorem nodeM_key {xs : List RecD} (h : storeB xs = true) {area owner : Int} {x : RecD} (hx : x ∈ xs) : nodeM area owner x = sameKeyB x (nodeR area owner) := by
  have hok := store_mem h hx
  unfold nodeM sameKeyB nodeR
  by_cases hk : x.kind = 1
  · have := recOk_node hok hk
    simp [this]
  · have hb : (x.kind == 1) = false := by simpa using hk
    simp [hb]

theorem plN_right {xs : List RecD} (h : storeB xs = true) (area owner : Int) : plN xs area owner = xs.findIdx? (fun x => sameKeyB x (nodeR area owner)) := by
  unfold plN
  cases e : xs.findIdx? (nodeM area owner) with
  | none =>
    rw [List.findIdx?_eq_none_iff] at e
    rw [Eq.comm, List.findIdx?_eq_none_iff]
    intro x hx
    rw [← nodeM_key h hx]
    exact e x hx
  | some k =>
    obtain ⟨h1, h2, h3⟩ := List.findIdx?_eq_some_iff_getElem.1 e
    rw [Eq.comm, List.findIdx?_eq_some_iff_getElem]
    refine ⟨h1, ?_, fun j hj => ?_⟩
    · rw [← nodeM_key h (List.getElem_mem _)]; exact h2
    · rw [← nodeM_key h (List.getElem_mem _)]; exact h3 j hj

theorem node_right {xs : List RecD} (h : storeB xs = true) (area owner : Int) : nodeB xs area owner = (plN xs area owner).isSome := by
  unfold nodeB findB atZ
  rw [← plN_right h]
  cases plN xs area owner with
  | none => rfl
  | some k =>
    show (!decide ((k : Int) < 0)) = true
    simp

theorem told_right {xs : List RecD} (h : storeB xs = true) (area owner to : Int) : toldD xs area owner to = ((nodeD xs area owner).near.find? (fun n => n.to == to)).map (·.c) := by
  unfold toldD nodeD findD atZ
  rw [← plN_right h]
  cases e : plN xs area owner with
  | none => rfl
  | some k =>
    obtain ⟨x, hx, _, _⟩ := plN_at e
    show (match xs[k]? with
      | some x => (x.near.find? (fun (n : Nr) => n.to == to)).map (fun (n : Nr) => n.c)
      | none => none) = _
    rw [hx]
    show _ = (((if ((k : Int) < 0) then zeroRD else xs.getD ((k : Int)).toNat zeroRD).near.find? (fun (n : Nr) => n.to == to)).map (fun (n : Nr) => n.c))
    rw [if_neg (by omega)]
    simp [hx]

def AscN (ns : List Nr) : Prop := ∀ (i j : Nat) (a b : Nr), i < j → ns[i]? = some a → ns[j]? = some b → a.to < b.to

theorem nearsB_asc {o : Int} {ns : List Nr} (h : nearsB o ns = true) : AscN ns := by
  unfold nearsB at h
  simp only [Bool.and_eq_true] at h
  have hasc := h.2
  unfold ascB at hasc
  rw [List.all_eq_true] at hasc
  have step : ∀ (j : Nat) (a b : Nr), ns[j]? = some a → ns[j + 1]? = some b → a.to < b.to := by
    intro j a b ha hb
    have hj : j + 1 < ns.length := (List.getElem?_eq_some_iff.1 hb).1
    have := hasc (j + 1) (by simpa using hj)
    unfold ascAt at this
    simp only [ha, hb] at this
    unfold ordN at this
    simp at this
    omega
  intro i j a b hij
  induction j generalizing b with
  | zero => omega
  | succ j ih =>
    intro ha hb
    have hj : j + 1 < ns.length := (List.getElem?_eq_some_iff.1 hb).1
    obtain ⟨m, hm⟩ : ∃ m, ns[j]? = some m := ⟨ns[j]'(by omega), List.getElem?_eq_getElem (by omega)⟩
    have s := step j m b hm hb
    by_cases e : i = j
    · subst e
      rw [ha] at hm
      cases hm
      exact s
    · have := ih m (by omega) ha hm; omega

/-- the table's entry, of neighbours that ascend -/
theorem linkT_find {ns : List Nr} {bk : Int → Int} {v : Nat} (hv : 1 ≤ v ∧ v ≤ 6) (hasc : AscN ns) : ∀ k, k ≤ ns.length → linkT ns bk v k = (if 0 < bk (v : Int) then (((ns.take k).find? (fun n => n.to == (v : Int))).map (·.c)).getD 0 else 0) := by
  intro k
  induction k with
  | zero => intro _; simp [linkT]
  | succ k ih =>
    intro hk
    have hlt : k < ns.length := by omega
    rw [linkT_step bk v (List.getElem?_eq_getElem hlt), ih (by omega), List.take_succ_eq_append_getElem hlt, List.find?_append]
    by_cases e : ns[k].to = (v : Int)
    · by_cases hb : 0 < bk (v : Int)
      · rw [if_pos ⟨e, by rw [e]; exact inB_iff.2 (by omega), by rw [e]; exact hb⟩, if_pos hb]
        have hno : (ns.take k).find? (fun n => n.to == (v : Int)) = none := by
          rw [List.find?_eq_none]
          intro x hx
          obtain ⟨i, hi, e2⟩ := List.mem_iff_getElem.1 hx
          rw [List.length_take] at hi
          rw [List.getElem_take] at e2
          have := hasc i k x ns[k] (by omega) (by rw [List.getElem?_eq_getElem (by omega), e2]) (List.getElem?_eq_getElem hlt)
          simp
          omega
        rw [hno]
        simp [e]
      · rw [if_neg (fun hc => by rw [e] at hc; exact hb hc.2.2), if_neg hb, if_neg hb]
    · rw [if_neg (fun hc => e hc.1)]
      have e2 : (ns[k].to == (v : Int)) = false := by simpa using e
      simp [e2]

theorem linked_right {xs : List RecD} (h : storeB xs = true) (area : Int) {u v : Nat} (hu : 1 ≤ u ∧ u ≤ 6) (hv : 1 ≤ v ∧ v ≤ 6) : linkedI xs area (u : Int) (v : Int) = linkN xs area u v := by
  unfold linkedI linkN
  rw [if_pos ⟨hu, hv⟩, told_right h, told_right h]
  unfold linkF
  have hasc : AscN (nodeD xs area (u : Int)).near := by
    unfold nodeD
    rcases findD_mem (xs := xs) (r := nodeR area (u : Int)) with hm | he
    · rcases recOk_nears (store_mem h hm) with e | ⟨_, e⟩
      · rw [e]; intro i j a b _ ha _; simp at ha
      · exact nearsB_asc e
    · rw [he]; intro i j a b _ ha _; simp [zeroRD] at ha
  rw [linkT_find hv hasc _ (Nat.le_refl _), List.take_length]
  have hback : ∀ c, ((nodeD xs area (v : Int)).near.find? (fun n => n.to == (u : Int))).map (·.c) = some c → 0 < c := by
    intro c hc
    obtain ⟨n, hn, rfl⟩ := Option.map_eq_some_iff.1 hc
    have := node_near (area := area) (node := (v : Int)) h n (List.mem_of_find?_eq_some hn)
    omega
  have htell : tellsD xs area (v : Int) (u : Int) = (((nodeD xs area (v : Int)).near.find? (fun n => n.to == (u : Int))).map (·.c)).getD 0 := by
    unfold tellsD tellsN
    cases (nodeD xs area (v : Int)).near.find? (fun n => n.to == (u : Int)) <;> rfl
  cases e : ((nodeD xs area (v : Int)).near.find? (fun n => n.to == (u : Int))).map (·.c) with
  | none =>
    rw [if_neg (by rw [htell, e]; simp)]
  | some c =>
    rw [if_pos (by rw [htell, e]; exact hback c e)]
    cases ((nodeD xs area (u : Int)).near.find? (fun n => n.to == (v : Int))) <;> rfl
end Go.Proofs.YtidoieolejkflaaGreat
namespace Go.Proofs.YtidoieolejkflaaGreat
open Go.RowKit

set_option linter.unusedSimpArgs false

theorem FS.popped {W W' : World} {lo z n : Nat} {u u' : Value} {q q' : Nat → Nat} {bp : Nat → Option Nat} {wd : Nat → WayD} {wv : Nat → Value} (s : FS W lo z u (n + 1) q bp wd wv) (F : FK W W' lo z) (hb' : HB W' lo z (finC bp u') u' n q' wd wv) (hi : IsHeap (fun k => (wd k).cost) q' n) : FS W' lo z u' n q' bp wd wv := by
  refine ⟨s.lz, hb', hi, fun v k e => ⟨?_, (s.way v k e).2⟩, fun v k e => ?_, s.short, s.apart, s.to, s.b0⟩
  · have hj := (s.way v k e).1
    exact (F.typed _ _ _ _ hj (by decide) (fun e => by rw [e, s.hb.box] at hj; simp at hj)).trans hj
  · have ho := s.row v k e
    refine owns_keepB ho (fun j hj => ?_)
    rcases ho.2 with ⟨e1, _⟩ | ⟨g2, cap, cur, e1, _, hh, _⟩
    · rw [e1] at hj; cases hj
    · rw [e1] at hj
      simp [Value.ownBlock] at hj
      subst hj
      exact F.typed _ _ _ _ hh (by decide) (fun e => by rw [e, s.hb.box] at hh; simp at hh)

/-- the way over u to t, as onward makes it -/
theorem onw_hops {L : Nat → Nat → Int} {src : Nat} {F : Nat → Bool} {c : Nat → Int} {h : Nat → List Int} (I : Inv L src F c h) {u t : Nat} (hu : 0 ≤ c u) {x : WayD} (hx : x.hops = h u) (co : Int) : onwD x (t : Int) co = ⟨(t : Int), x.cost + co, wayL src h u t⟩ := by
  unfold onwD wayL
  by_cases e : u = src
  · have : x.hops = [] := by rw [hx, e]; exact I.start0
    rw [if_pos this, if_pos e]
  · have : x.hops ≠ [] := by rw [hx]; exact I.hops_ne _ u e hu (Nat.le_refl _)
    rw [if_neg this, if_neg e, hx]

theorem way_asc {L : Nat → Nat → Int} {src : Nat} {F : Nat → Bool} {c : Nat → Int} {h : Nat → List Int} (I : Inv L src F c h) {u t : Nat} (ht : 1 ≤ t ∧ t ≤ 6) : (wayL src h u t).Pairwise (· < ·) ∧ ∀ x, x ∈ wayL src h u t → 1 ≤ x ∧ x ≤ 6 := by
  unfold wayL
  by_cases e : u = src
  · rw [if_pos e]
    refine ⟨by simp, fun x hx => ?_⟩
    simp at hx
    omega
  · rw [if_neg e]
    exact ⟨I.asc u, I.rng u⟩

theorem way_len {L : Nat → Nat → Int} {src : Nat} {F : Nat → Bool} {c : Nat → Int} {h : Nat → List Int} (I : Inv L src F c h) {u t : Nat} (ht : 1 ≤ t ∧ t ≤ 6) : (wayL src h u t).length ≤ 6 := by
  obtain ⟨h1, h2⟩ := way_asc I (u := u) ht
  rw [asc_addL (a := []) (b := wayL src h u t) h1 (fun x => by simp) h2]
  exact addL_len6 _ _

section
variable {L : Nat → Nat → Int} {src : Nat} {F : Nat → Bool} {c : Nat → Int} {h : Nat → List Int} {n u t : Nat} {q : Nat → Nat} {bp : Nat → Option Nat} {wd : Nat → WayD}

/-- what found is asked for: the joined way is of the same cost, and short -/
theorem join_ok (I : Inv L src F c h) (hl : 0 < L u t) (ht : 1 ≤ t ∧ t ≤ 6) (g : GI (fun x => F x || x == u) (mixC L c u t) (mixH L src c h u t) n q bp wd) {kn : Nat} (hb : bp t = some kn) (hnc : ¬ c u + L u t < (wd kn).cost) :
    (togI (wd kn) ⟨(t : Int), c u + L u t, wayL src h u t⟩).hops = relaxL L src c h u t ∧ relaxC L c u t = c t ∧ (togI (wd kn) ⟨(t : Int), c u + L u t, wayL src h u t⟩).cost = (wd kn).cost ∧ (togI (wd kn) ⟨(t : Int), c u + L u t, wayL src h u t⟩).to = (wd kn).to := by
  have hc : (wd kn).cost = c t := by have := g.cc t; rw [cOf_some hb, mixC_next] at this; exact this
  have hh : (wd kn).hops = h t := by have := g.hh t; rw [hOf_some hb, mixH_next] at this; exact this
  have h0 := g.nn t kn hb
  unfold togI betterB
  by_cases e : (wd kn).cost < c u + L u t
  · have hr := relaxL_dear (L := L) (src := src) (c := c) (h := h) (u := u) (v := t) (by omega) (by omega)
    rw [if_pos (by simpa using e)]
    exact ⟨by rw [hr.1]; exact hh, hr.2, rfl, rfl⟩
  · have hr := relaxL_like (L := L) (src := src) (c := c) (h := h) (u := u) (v := t) hl (by omega) (by omega)
    rw [if_neg (by simpa using e), if_neg (by simpa using hnc)]
    refine ⟨?_, hr.2, rfl, rfl⟩
    show hopsI (wd kn).hops (wayL src h u t) = _
    rw [hr.1, hh]
    refine asc_addL (hopsI_asc _ _) (fun x => hopsI_mem) (fun x hx => ?_)
    rcases hopsI_mem.1 hx with h1 | h1
    · exact I.rng t x h1
    · exact (way_asc I ht).2 x h1

theorem relax_len (I : Inv L src F c h) (hL : Links L 1000) (hu : 0 ≤ c u) : (relaxL L src c h u t).length ≤ 6 := by
  have r := relaxL_spec I hL hu t
  rw [asc_addL (a := []) (b := relaxL L src c h u t) r.asc (fun x => by simp) (fun x hx => by
    rcases (r.mem x).1 hx with ⟨h1, _⟩ | ⟨h1, _, h3⟩
    · exact I.rng t x h1
    · have hn := (hL.node u t h1).2
      unfold IsNode at hn
      exact (way_asc I (src := src) (u := u) hn).2 x (wayL_mem.2 h3))]
  exact addL_len6 _ _

theorem relax_join (I : Inv L src F c h) (hl : 0 < L u t) (ht : 1 ≤ t ∧ t ≤ 6) (g : GI (fun x => F x || x == u) (mixC L c u t) (mixH L src c h u t) n q bp wd) {kn : Nat} (hb : bp t = some kn) (hnc : ¬ c u + L u t < (wd kn).cost) :
    GI (fun x => F x || x == u) (mixC L c u (t + 1)) (mixH L src c h u (t + 1)) n q bp (upd wd kn (togI (wd kn) ⟨(t : Int), c u + L u t, wayL src h u t⟩)) := by
  obtain ⟨j1, j2, j3, j4⟩ := join_ok I hl ht g hb hnc
  have := g.join hb j3 j4
  rw [j1] at this
  rw [mixC_keep j2, mixH_step]
  exact this

theorem relax_push (I : Inv L src F c h) (hF : F u = false) (hu : 0 ≤ c u) (hl : 0 < L u t) (ht : 1 ≤ t ∧ t ≤ 6) (g : GI (fun x => F x || x == u) (mixC L c u t) (mixH L src c h u t) n q bp wd) {k : Nat} {q' : Nat → Nat}
    (hcase : bp t = none ∨ ∃ kn, bp t = some kn ∧ c u + L u t < (wd kn).cost) (hk1 : ∀ i, i < n → q i ≠ k) (hk2 : ∀ v, bp v ≠ some k) (hs : Shuf (fun y => if y = n then k else q y) q' (n + 1)) :
    GI (fun x => F x || x == u) (mixC L c u (t + 1)) (mixH L src c h u (t + 1)) (n + 1) q' (upd bp t (some k)) (upd wd k ⟨(t : Int), c u + L u t, wayL src h u t⟩) := by
  have hc : c t < 0 ∨ c u + L u t < c t := by
    have h1 := g.cc t
    rw [mixC_next] at h1
    rcases hcase with e | ⟨kn, e, h2⟩
    · rw [cOf_none e] at h1; omega
    · rw [cOf_some e] at h1; omega
  have hFt : (F t || t == u) = false := by
    cases e : F t with
    | true =>
      have h1 := I.mono t u e hF hu
      have h2 := (I.fnode t e).2
      omega
    | false =>
      by_cases e2 : t = u
      · subst e2; omega
      · simp [e2]
  have hr := relaxL_less (L := L) (src := src) (c := c) (h := h) (u := u) (v := t) hl hc
  have hw := way_asc I (u := u) ht
  have hway : wayL src h u t = relaxL L src c h u t := by
    rw [hr.1]
    exact asc_addL hw.1 (fun x => by simp) hw.2
  have := g.push (t := t) (k := k) (x := ⟨(t : Int), c u + L u t, wayL src h u t⟩) hFt rfl (by rw [mixC_next]; exact hc) hk1 hk2 hs (by show 0 ≤ c u + L u t; omega)
  rw [mixC_step, mixH_step, hr.2, ← hway]
  exact this

theorem relax_skip (hl : ¬ 0 < L u t) (g : GI (fun x => F x || x == u) (mixC L c u t) (mixH L src c h u t) n q bp wd) : GI (fun x => F x || x == u) (mixC L c u (t + 1)) (mixH L src c h u (t + 1)) n q bp wd := by
  have hr := relaxL_none (src := src) (c := c) (h := h) hl
  rw [mixC_keep hr.2, mixH_keep hr.1]
  exact g
end

/-- a finder in the midst of a search, m rounds at most ahead -/
def GO (W : World) (lo z : Nat) (L : Nat → Nat → Int) (src m : Nat) : Prop :=
  ∃ u n q bp wd wv F c h, FS W lo z u n q bp wd wv ∧ GI F c h n q bp wd ∧ Inv L src F c h ∧ (∀ v, c v ≤ 1000 * (cardF F : Int)) ∧ m = 7 * (6 - cardF F) + n

/-- the search's end -/
def GEnd (W : World) (lo z : Nat) (L : Nat → Nat → Int) (src : Nat) : Prop :=
  ∃ u q bp wd wv c h, FS W lo z u 0 q bp wd wv ∧ (∀ v, cOf bp wd v = c v) ∧ (∀ v, hOf bp wd v = h v) ∧ (∀ v k, bp v = some k → 0 ≤ (wd k).cost) ∧ Fix L src c h

theorem GI.end {L : Nat → Nat → Int} {src : Nat} {F : Nat → Bool} {c : Nat → Int} {h : Nat → List Int} {q : Nat → Nat} {bp : Nat → Option Nat} {wd : Nat → WayD} (g : GI F c h 0 q bp wd) (I : Inv L src F c h) : Fix L src c h := by
  refine ⟨F, I, fun v hv => ?_⟩
  cases e : F v with
  | true => rfl
  | false =>
    have h1 := g.cc v
    cases e2 : bp v with
    | none => rw [cOf_none e2] at h1; omega
    | some k =>
      obtain ⟨i, hi, _⟩ := g.live v k e2 e
      omega

theorem GI.stale {F : Nat → Bool} {c : Nat → Int} {h : Nat → List Int} {n : Nat} {q q' : Nat → Nat} {bp : Nat → Option Nat} {wd : Nat → WayD} (g : GI F c h (n + 1) q bp wd) (hs : Shuf (swapF q 0 n) q' n) {v kb : Nat} (hto : (wd (q 0)).to = (v : Int)) (hb : bp v = some kb) (hlt : (wd kb).cost < (wd (q 0)).cost) : GI F c h n q' bp wd := by
  refine g.pop hs (fun _ e => e) (fun v' k e hF e2 => ?_) (fun v' e1 e2 => by rw [e1] at e2; cases e2)
  subst e2
  have h1 := g.to v' _ e
  have : v' = v := by omega
  subst this
  rw [hb] at e
  cases e
  omega

theorem GI.fresh {F : Nat → Bool} {c : Nat → Int} {h : Nat → List Int} {n : Nat} {q q' : Nat → Nat} {bp : Nat → Option Nat} {wd : Nat → WayD} (g : GI F c h (n + 1) q bp wd) (hs : Shuf (swapF q 0 n) q' n) (hh : IsHeap (fun k => (wd k).cost) q (n + 1)) {v kb : Nat} (hto : (wd (q 0)).to = (v : Int)) (hb : bp v = some kb) (hlt : ¬ (wd kb).cost < (wd (q 0)).cost) :
    GI (fun x => F x || x == v) c h n q' bp wd ∧ q 0 = kb ∧ F v = false ∧ 0 ≤ c v ∧ (wd (q 0)).cost = c v ∧ (wd (q 0)).hops = h v ∧ ∀ v', F v' = false → 0 ≤ c v' → c v ≤ c v' := by
  obtain ⟨v2, kb2, e1, e2, e3⟩ := g.ent 0 (by omega)
  have hv : v2 = v := by omega
  subst hv
  rw [hb] at e2
  cases e2
  rcases e3 with ⟨e4, e5⟩ | e4
  · have hcv : (wd (q 0)).cost = c v2 := by have := g.cc v2; rw [cOf_some hb] at this; rw [e4]; exact this
    have hhv : (wd (q 0)).hops = h v2 := by have := g.hh v2; rw [hOf_some hb] at this; rw [e4]; exact this
    have h0 := g.nn v2 kb hb
    refine ⟨g.pop hs (fun v' e => ?_) (fun v' k e hF e6 => ?_) (fun v' e6 e7 => ?_), e4, e5, by rw [← hcv, e4]; exact h0, hcv, hhv, fun v' hF hc => ?_⟩
    · cases e6 : F v' with
      | false => rfl
      | true => rw [e6] at e; simp at e
    · subst e6
      have h1 := g.to v' _ e
      have h2 : v' = v2 := by omega
      subst h2
      simp at hF
    · rw [e6] at e7
      have h1 : v' = v2 := by simpa using e7
      subst h1
      rw [hb, e4]
    · have h1 := g.cc v'
      cases e6 : bp v' with
      | none => rw [cOf_none e6] at h1; omega
      | some k' =>
        rw [cOf_some e6] at h1
        obtain ⟨i, hi, e7⟩ := g.live v' k' e6 hF
        have h2 := heap_root hh i i (Nat.le_refl _) hi
        have h3 : (wd (q 0)).cost ≤ (wd (q i)).cost := h2
        rw [e7] at h3
        omega
  · exact absurd e4 hlt
end Go.Proofs.YtidoieolejkflaaGreat
