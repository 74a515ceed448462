/-
  Where a key stands in a list: spec.l05At, impl's placeOf.
  Lists of records that may share the rows of others; spec.l04CopyList, impl.ownRecords.
  spec.l05At, impl's placeOf at lists that may share rows.
  spec.Find, impl.Find: their contracts.
  spec.l06Node, l06Tells: their contracts.
-/
import Derived.Test.YtbmphbeocbgalaaGrF
import Derived.Test.YtbmphbeocbgalaaGrC
import Derived.Test.YtbmphbeocbgalaaIBefM
namespace Go.Proofs.Ytbmphbeocbgalaa
open Go.RowKit

/-- the first place of a key, -1 without one -/
def atZ (xs : List RecD) (r : RecD) : Int := match xs.findIdx? (fun x => sameKeyB x r) with
  | some i => (i : Int)
  | none => -1

theorem atZ_found {xs : List RecD} {r x : RecD} {k : Nat} (hk : xs[k]? = some x) (hs : sameKeyB x r = true) (hall : ∀ j, j < k → ∀ y, xs[j]? = some y → sameKeyB y r = false) : atZ xs r = (k : Int) := by
  obtain ⟨h1, e1⟩ := List.getElem?_eq_some_iff.1 hk
  have : xs.findIdx? (fun x => sameKeyB x r) = some k := by
    rw [List.findIdx?_eq_some_iff_getElem]
    refine ⟨h1, by rw [e1]; exact hs, fun j hj => ?_⟩
    have := hall j hj xs[j] (List.getElem?_eq_getElem (by omega))
    simp [this]
  unfold atZ
  rw [this]

theorem atZ_none {xs : List RecD} {r : RecD} (hall : ∀ j, j < xs.length → ∀ y, xs[j]? = some y → sameKeyB y r = false) : atZ xs r = -1 := by
  have : xs.findIdx? (fun x => sameKeyB x r) = none := by
    rw [List.findIdx?_eq_none_iff]
    intro x hx
    obtain ⟨i, hi, e⟩ := List.getElem_of_mem hx
    exact hall i hi x (by rw [← e]; exact List.getElem?_eq_getElem hi)
  unfold atZ
  rw [this]

theorem atZ_cases (xs : List RecD) (r : RecD) : atZ xs r = -1 ∨ ∃ (k : Nat) (x : RecD), atZ xs r = (k : Int) ∧ xs[k]? = some x ∧ sameKeyB x r = true := by
  unfold atZ
  cases h : xs.findIdx? (fun x => sameKeyB x r) with
  | none => exact .inl rfl
  | some i =>
    obtain ⟨h1, h2, _⟩ := List.findIdx?_eq_some_iff_getElem.1 h
    exact .inr ⟨i, xs[i], rfl, List.getElem?_eq_getElem h1, h2⟩

set_option maxRecDepth 100000 in
set_option maxHeartbeats 2000000 in
theorem sat_any (v : Value) (ps : List RP) (lo hi : Nat) (r : RP) (w : World) (hv : RecsOwn w lo hi v ps) (hhi : hi ≤ w.heap.size) (hn : tot ps ≤ 1048576) :
    Calls Try.prog 74 #[v, .agg (recC r.1 r.2)] w fun e w' => e = .returned (.int .i64 (atZ (fsts ps) r.1)) ∧ Below w.heap.size w w' := by
  have hnl := tot_len ps
  obtain ⟨a1, c1, rfl⟩ := owns_lenS hv.row
  have HV := hide hv
  clear hv
  have BX := (Below.refl w.heap.size w).alloc (Nat.le_refl _) (.cells (recC r.1 r.2) 55)
  have hx := heap_alloc_new w (.cells (recC r.1 r.2) 55)
  obtain ⟨wx, hwx⟩ : ∃ wx, wx = w.alloc (.cells (recC r.1 r.2) 55) := ⟨_, rfl⟩
  rw [← hwx] at BX hx
  unfold recC at *
  go_enter Try.func74, Try.ntmps74
  go_wp2
  rw [← hwx]
  have HX := hide hx
  clear hwx hx
  go_loopw [5] (fun i wr => ∃ (k : Nat), k ≤ ps.length ∧ i = .int .i64 k ∧ (∀ j, j < k → ∀ y, (fsts ps)[j]? = some y → sameKeyB y r.1 = false) ∧ Below wx.heap.size wx wr) (fun i _ => ps.length - (intOf i).toNat)
  case atStart => exact ⟨0, by omega, rfl, by omega, Below.refl _ _⟩
  case round =>
    obtain ⟨k, hk, rfl, hall, hnx⟩ := hrel
    have HALL := hide hall
    clear hall
    have hsz := hnx.size
    have hsx := lt_of_heap HX.out
    have BWR : Below w.heap.size w wr := BX.trans (hnx.mono (by omega))
    by_cases hlt : k < ps.length
    · obtain ⟨p, hp⟩ : ∃ p, ps[k]? = some p := ⟨ps[k], List.getElem?_eq_getElem hlt⟩
      have hat := HV.out.at
      obtain ⟨b, off, cap', hve, hbb, c0, c1, c2, c3, c4, c5, c6, c7, _⟩ := hat.cells k p hp
      cases hve
      rw [← BWR.cell (p := ⟨b, off + k * 8, none⟩) (Nat.lt_of_lt_of_le hbb hhi)] at c0
      rw [← BWR.cell (p := ⟨b, off + k * 8 + 1, none⟩) (Nat.lt_of_lt_of_le hbb hhi)] at c1
      rw [← BWR.cell (p := ⟨b, off + k * 8 + 2, none⟩) (Nat.lt_of_lt_of_le hbb hhi)] at c2
      rw [← BWR.cell (p := ⟨b, off + k * 8 + 3, none⟩) (Nat.lt_of_lt_of_le hbb hhi)] at c3
      rw [← BWR.cell (p := ⟨b, off + k * 8 + 4, none⟩) (Nat.lt_of_lt_of_le hbb hhi)] at c4
      rw [← BWR.cell (p := ⟨b, off + k * 8 + 5, none⟩) (Nat.lt_of_lt_of_le hbb hhi)] at c5
      rw [← BWR.cell (p := ⟨b, off + k * 8 + 6, none⟩) (Nat.lt_of_lt_of_le hbb hhi)] at c6
      rw [← BWR.cell (p := ⟨b, off + k * 8 + 7, none⟩) (Nat.lt_of_lt_of_le hbb hhi)] at c7
      have hxx := (hnx.block _ hsx).trans HX.out
      have d0 := cells_at hxx 0
      have d1 := cells_at hxx 1
      have d2 := cells_at hxx 2
      have d3 := cells_at hxx 3
      have d4 := cells_at hxx 4
      have d5 := cells_at hxx 5
      have d6 := cells_at hxx 6
      have d7 := cells_at hxx 7
      simp at d0 d1 d2 d3 d4 d5 d6 d7
      have hb1 : b < wr.heap.size := by omega
      have hb2 : w.heap.size < wr.heap.size := by omega
      have hki : (0 : Int) ≤ (k : Int) := by omega
      have hkj : (k : Int) < (ps.length : Int) := by omega
      have hq := fun W => ssameKey_any p.2 r.2 p.1 r.1 W
      unfold recC at hq
      obtain ⟨q, hqq⟩ : ∃ q, q = sameKeyB p.1 r.1 := ⟨_, rfl⟩
      rw [← hqq] at hq
      have HK := hide hq
      have HQQ := hide hqq
      have HPP := hide (fsts_at hp)
      clear hq hqq hp hat hxx
      cases q
      · go_wp2
        go_region_held3 (fun W => W.cell? ⟨b, off + k * 8, none⟩ = some (.int .i64 p.1.area) ∧ W.cell? ⟨b, off + k * 8 + 1, none⟩ = some (.int .i64 p.1.kind) ∧ W.cell? ⟨b, off + k * 8 + 2, none⟩ = some (.int .i64 p.1.owner) ∧ W.cell? ⟨b, off + k * 8 + 3, none⟩ = some (.int .i64 p.1.key) ∧ W.cell? ⟨b, off + k * 8 + 4, none⟩ = some (.int .i64 p.1.seq) ∧ W.cell? ⟨b, off + k * 8 + 5, none⟩ = some (p.2) ∧ W.cell? ⟨b, off + k * 8 + 6, none⟩ = some (.int .i64 p.1.cost) ∧ W.cell? ⟨b, off + k * 8 + 7, none⟩ = some (.bool p.1.far) ∧ W.cell? ⟨w.heap.size, 0, none⟩ = some (.int .i64 r.1.area) ∧ W.cell? ⟨w.heap.size, 1, none⟩ = some (.int .i64 r.1.kind) ∧ W.cell? ⟨w.heap.size, 2, none⟩ = some (.int .i64 r.1.owner) ∧ W.cell? ⟨w.heap.size, 3, none⟩ = some (.int .i64 r.1.key) ∧ W.cell? ⟨w.heap.size, 4, none⟩ = some (.int .i64 r.1.seq) ∧ W.cell? ⟨w.heap.size, 5, none⟩ = some (r.2) ∧ W.cell? ⟨w.heap.size, 6, none⟩ = some (.int .i64 r.1.cost) ∧ W.cell? ⟨w.heap.size, 7, none⟩ = some (.bool r.1.far)) (first | go_keep | (refine ⟨?_, ?_, ?_, ?_, ?_, ?_, ?_, ?_, ?_, ?_, ?_, ?_, ?_, ?_, ?_, ?_⟩ <;> (rw [hbc.cell (by assumption)]; assumption))) (first | (go_at_call 67; refine (HK.out _).mono ?_; rintro e w1 ⟨rfl, hbc⟩))
        go_wp2
        go_roundw
        case rel => exact ⟨k + 1, by omega, by go_num, (fun j hj y hy => by
          by_cases e : j = k
          · subst e; rw [HPP.out] at hy; cases hy; exact HQQ.out.symm
          · exact HALL.out j (by omega) y hy), hnx.trans ((Below.refl _ _).drew.trans (hbc.mono hsz))⟩
        case measure => simp [intOf]; omega
      · go_wp2
        go_region_held3 (fun W => W.cell? ⟨b, off + k * 8, none⟩ = some (.int .i64 p.1.area) ∧ W.cell? ⟨b, off + k * 8 + 1, none⟩ = some (.int .i64 p.1.kind) ∧ W.cell? ⟨b, off + k * 8 + 2, none⟩ = some (.int .i64 p.1.owner) ∧ W.cell? ⟨b, off + k * 8 + 3, none⟩ = some (.int .i64 p.1.key) ∧ W.cell? ⟨b, off + k * 8 + 4, none⟩ = some (.int .i64 p.1.seq) ∧ W.cell? ⟨b, off + k * 8 + 5, none⟩ = some (p.2) ∧ W.cell? ⟨b, off + k * 8 + 6, none⟩ = some (.int .i64 p.1.cost) ∧ W.cell? ⟨b, off + k * 8 + 7, none⟩ = some (.bool p.1.far) ∧ W.cell? ⟨w.heap.size, 0, none⟩ = some (.int .i64 r.1.area) ∧ W.cell? ⟨w.heap.size, 1, none⟩ = some (.int .i64 r.1.kind) ∧ W.cell? ⟨w.heap.size, 2, none⟩ = some (.int .i64 r.1.owner) ∧ W.cell? ⟨w.heap.size, 3, none⟩ = some (.int .i64 r.1.key) ∧ W.cell? ⟨w.heap.size, 4, none⟩ = some (.int .i64 r.1.seq) ∧ W.cell? ⟨w.heap.size, 5, none⟩ = some (r.2) ∧ W.cell? ⟨w.heap.size, 6, none⟩ = some (.int .i64 r.1.cost) ∧ W.cell? ⟨w.heap.size, 7, none⟩ = some (.bool r.1.far)) (first | go_keep | (refine ⟨?_, ?_, ?_, ?_, ?_, ?_, ?_, ?_, ?_, ?_, ?_, ?_, ?_, ?_, ?_, ?_⟩ <;> (rw [hbc.cell (by assumption)]; assumption))) (first | (go_at_call 67; refine (HK.out _).mono ?_; rintro e w1 ⟨rfl, hbc⟩))
        go_wp2
        go_ret
        exact ⟨ret_int1 (by rw [atZ_found HPP.out HQQ.out.symm HALL.out]), BWR.trans ((Below.refl _ _).drew.trans (hbc.mono (show w.heap.size ≤ wr.heap.size by omega)))⟩
    · have hkn : k = ps.length := by omega
      have KN := hide hkn
      clear hkn
      go_wp2
      go_ret
      exact ⟨ret_int1 (by rw [atZ_none (by have h := HALL.out; rw [KN.out] at h; simpa [fsts] using h)]), BWR⟩

def keyV (r : RecD) : Array Value := #[.int .i64 r.area, .int .i64 r.kind, .int .i64 r.owner, .int .i64 r.key]

/-- the answer of placeOf -/
def plV (z : Int) : Value := if z < 0 then .tuple #[.int .i64 0, .bool false] else .tuple #[.int .i64 z, .bool true]

set_option maxRecDepth 100000 in
set_option maxHeartbeats 2000000 in
theorem place_any (v : Value) (ps : List RP) (lo hi : Nat) (r : RecD) (w : World) (hv : RecsOwn w lo hi v ps) (hhi : hi ≤ w.heap.size) (hn : tot ps ≤ 1048576) :
    Calls Try.prog 76 #[v, .agg (keyV r)] w fun e w' => e = .returned (plV (atZ (fsts ps) r)) ∧ Below w.heap.size w w' := by
  have hnl := tot_len ps
  obtain ⟨a1, c1, rfl⟩ := owns_lenS hv.row
  have HV := hide hv
  clear hv
  have BX := (Below.refl w.heap.size w).alloc (Nat.le_refl _) (.cells (keyV r) 96)
  have hx := heap_alloc_new w (.cells (keyV r) 96)
  obtain ⟨wx, hwx⟩ : ∃ wx, wx = w.alloc (.cells (keyV r) 96) := ⟨_, rfl⟩
  rw [← hwx] at BX hx
  unfold keyV at *
  go_enter Try.func76, Try.ntmps76
  go_wp2
  rw [← hwx]
  have HX := hide hx
  clear hwx hx
  go_loopw [10] (fun i wr => ∃ (k : Nat), k ≤ ps.length ∧ i = .int .i64 k ∧ (∀ j, j < k → ∀ y, (fsts ps)[j]? = some y → sameKeyB y r = false) ∧ Below wx.heap.size wx wr) (fun i _ => ps.length - (intOf i).toNat)
  case atStart => exact ⟨0, by omega, rfl, by omega, Below.refl _ _⟩
  case round =>
    obtain ⟨k, hk, rfl, hall, hnx⟩ := hrel
    have HALL := hide hall
    clear hall
    have hsz := hnx.size
    have hsx := lt_of_heap HX.out
    have BWR : Below w.heap.size w wr := BX.trans (hnx.mono (by omega))
    by_cases hlt : k < ps.length
    · obtain ⟨p, hp⟩ : ∃ p, ps[k]? = some p := ⟨ps[k], List.getElem?_eq_getElem hlt⟩
      have hat := HV.out.at
      obtain ⟨b, off, cap', hve, hbb, c0, c1, c2, c3, c4, c5, c6, c7, hnr⟩ := hat.cells k p hp
      cases hve
      rw [← BWR.cell (p := ⟨b, off + k * 8, none⟩) (Nat.lt_of_lt_of_le hbb hhi)] at c0
      rw [← BWR.cell (p := ⟨b, off + k * 8 + 1, none⟩) (Nat.lt_of_lt_of_le hbb hhi)] at c1
      rw [← BWR.cell (p := ⟨b, off + k * 8 + 2, none⟩) (Nat.lt_of_lt_of_le hbb hhi)] at c2
      rw [← BWR.cell (p := ⟨b, off + k * 8 + 3, none⟩) (Nat.lt_of_lt_of_le hbb hhi)] at c3
      rw [← BWR.cell (p := ⟨b, off + k * 8 + 4, none⟩) (Nat.lt_of_lt_of_le hbb hhi)] at c4
      rw [← BWR.cell (p := ⟨b, off + k * 8 + 5, none⟩) (Nat.lt_of_lt_of_le hbb hhi)] at c5
      rw [← BWR.cell (p := ⟨b, off + k * 8 + 6, none⟩) (Nat.lt_of_lt_of_le hbb hhi)] at c6
      rw [← BWR.cell (p := ⟨b, off + k * 8 + 7, none⟩) (Nat.lt_of_lt_of_le hbb hhi)] at c7
      obtain ⟨pa, pc, hpn⟩ := hnr.shape
      rw [hpn] at c5
      have hxx := (hnx.block _ hsx).trans HX.out
      have hki : (0 : Int) ≤ (k : Int) := by omega
      have hkj : (k : Int) < (ps.length : Int) := by omega
      have HK := hide (fun W => keyOf_raw p.1.area p.1.kind p.1.owner p.1.key p.1.seq (.slice pa p.1.near.length pc) p.1.cost p.1.far W)
      have e0 := fun W => key_eql W p.1.area p.1.kind p.1.owner p.1.key r.area r.kind r.owner r.key
      obtain ⟨q, hqq⟩ : ∃ q, q = sameKeyB p.1 r := ⟨_, rfl⟩
      rw [show (p.1.area == r.area && p.1.kind == r.kind && p.1.owner == r.owner && p.1.key == r.key) = q by rw [hqq]; rfl] at e0
      have HQQ := hide hqq
      have HPP := hide (fsts_at hp)
      clear hqq hp hat hnr hpn
      obtain ⟨o, ho⟩ : ∃ o, o = (.cells #[.int .i64 p.1.area, .int .i64 p.1.kind, .int .i64 p.1.owner, .int .i64 p.1.key, .int .i64 p.1.seq, .slice pa p.1.near.length pc, .int .i64 p.1.cost, .bool p.1.far] 55 : Obj) := ⟨_, rfl⟩
      have hz := heap_alloc_new wr o
      have hxz := (Below.heap_alloc wr o w.heap.size (by omega)).trans hxx
      have BZ : Below wr.heap.size wr (wr.alloc o) := (Below.refl _ _).alloc (Nat.le_refl _) _
      obtain ⟨wz, hwz⟩ : ∃ wz, wz = wr.alloc o := ⟨_, rfl⟩
      rw [← hwz] at hz hxz BZ
      rw [ho] at hwz hz
      have hbz := BZ.size
      clear ho hxx
      cases q
      · go_wp2
        rw [← hwz]
        obtain ⟨z, hzz⟩ : ∃ z, z = wr.heap.size := ⟨_, rfl⟩
        rw [← hzz] at hz ⊢
        have d0 := cells_at hz 0
        have d1 := cells_at hz 1
        have d2 := cells_at hz 2
        have d3 := cells_at hz 3
        have d4 := cells_at hz 4
        have d5 := cells_at hz 5
        have d6 := cells_at hz 6
        have d7 := cells_at hz 7
        have k0 := cells_at hxz 0
        have k1 := cells_at hxz 1
        have k2 := cells_at hxz 2
        have k3 := cells_at hxz 3
        simp at d0 d1 d2 d3 d4 d5 d6 d7 k0 k1 k2 k3
        have hb1 := lt_of_heap hz
        have hb2 := lt_of_heap hxz
        clear hzz hwz hz hxz c0 c1 c2 c3 c4 c5 c6 c7
        go_region_held3 (fun W => W.cell? ⟨z, 0, none⟩ = some (.int .i64 p.1.area) ∧ W.cell? ⟨z, 1, none⟩ = some (.int .i64 p.1.kind) ∧ W.cell? ⟨z, 2, none⟩ = some (.int .i64 p.1.owner) ∧ W.cell? ⟨z, 3, none⟩ = some (.int .i64 p.1.key) ∧ W.cell? ⟨z, 4, none⟩ = some (.int .i64 p.1.seq) ∧ W.cell? ⟨z, 5, none⟩ = some (.slice pa p.1.near.length pc) ∧ W.cell? ⟨z, 6, none⟩ = some (.int .i64 p.1.cost) ∧ W.cell? ⟨z, 7, none⟩ = some (.bool p.1.far) ∧ W.cell? ⟨w.heap.size, 0, none⟩ = some (.int .i64 r.area) ∧ W.cell? ⟨w.heap.size, 1, none⟩ = some (.int .i64 r.kind) ∧ W.cell? ⟨w.heap.size, 2, none⟩ = some (.int .i64 r.owner) ∧ W.cell? ⟨w.heap.size, 3, none⟩ = some (.int .i64 r.key)) (first | go_keep | (refine ⟨?_, ?_, ?_, ?_, ?_, ?_, ?_, ?_, ?_, ?_, ?_, ?_⟩ <;> (rw [hbc.cell (by assumption)]; assumption))) (first | (refine (HK.out _).mono ?_; rintro e w1 ⟨rfl, hbc⟩))
        go_wp2
        go_roundw
        case rel => exact ⟨k + 1, by omega, by go_num, (fun j hj y hy => by
          by_cases e : j = k
          · subst e; rw [HPP.out] at hy; cases hy; exact HQQ.out.symm
          · exact HALL.out j (by omega) y hy), hnx.trans ((BZ.mono hsz).trans ((Below.refl _ _).drew.trans (hbc.mono (show wx.heap.size ≤ wz.heap.size by omega))))⟩
        case measure => simp [intOf]; omega
      · go_wp2
        rw [← hwz]
        obtain ⟨z, hzz⟩ : ∃ z, z = wr.heap.size := ⟨_, rfl⟩
        rw [← hzz] at hz ⊢
        have d0 := cells_at hz 0
        have d1 := cells_at hz 1
        have d2 := cells_at hz 2
        have d3 := cells_at hz 3
        have d4 := cells_at hz 4
        have d5 := cells_at hz 5
        have d6 := cells_at hz 6
        have d7 := cells_at hz 7
        have k0 := cells_at hxz 0
        have k1 := cells_at hxz 1
        have k2 := cells_at hxz 2
        have k3 := cells_at hxz 3
        simp at d0 d1 d2 d3 d4 d5 d6 d7 k0 k1 k2 k3
        have hb1 := lt_of_heap hz
        have hb2 := lt_of_heap hxz
        clear hzz hwz hz hxz c0 c1 c2 c3 c4 c5 c6 c7
        go_region_held3 (fun W => W.cell? ⟨z, 0, none⟩ = some (.int .i64 p.1.area) ∧ W.cell? ⟨z, 1, none⟩ = some (.int .i64 p.1.kind) ∧ W.cell? ⟨z, 2, none⟩ = some (.int .i64 p.1.owner) ∧ W.cell? ⟨z, 3, none⟩ = some (.int .i64 p.1.key) ∧ W.cell? ⟨z, 4, none⟩ = some (.int .i64 p.1.seq) ∧ W.cell? ⟨z, 5, none⟩ = some (.slice pa p.1.near.length pc) ∧ W.cell? ⟨z, 6, none⟩ = some (.int .i64 p.1.cost) ∧ W.cell? ⟨z, 7, none⟩ = some (.bool p.1.far) ∧ W.cell? ⟨w.heap.size, 0, none⟩ = some (.int .i64 r.area) ∧ W.cell? ⟨w.heap.size, 1, none⟩ = some (.int .i64 r.kind) ∧ W.cell? ⟨w.heap.size, 2, none⟩ = some (.int .i64 r.owner) ∧ W.cell? ⟨w.heap.size, 3, none⟩ = some (.int .i64 r.key)) (first | go_keep | (refine ⟨?_, ?_, ?_, ?_, ?_, ?_, ?_, ?_, ?_, ?_, ?_, ?_⟩ <;> (rw [hbc.cell (by assumption)]; assumption))) (first | (refine (HK.out _).mono ?_; rintro e w1 ⟨rfl, hbc⟩))
        go_wp2
        go_returns
        refine ⟨?_, BWR.trans ((BZ.mono (by omega)).trans ((Below.refl _ _).drew.trans (hbc.mono (show w.heap.size ≤ wz.heap.size by omega))))⟩
        rw [atZ_found HPP.out HQQ.out.symm HALL.out]
        unfold plV
        rw [if_neg (by omega)]
        rfl
    · have hkn : k = ps.length := by omega
      have KN := hide hkn
      clear hkn
      go_wp2
      go_returns
      refine ⟨?_, BWR⟩
      rw [atZ_none (by have h := HALL.out; rw [KN.out] at h; simpa [fsts] using h)]
      rfl
end Go.Proofs.Ytbmphbeocbgalaa
namespace Go.Proofs.Ytbmphbeocbgalaa
open Go.RowKit

/-- a list whose records' rows are somebody's own, below hi -/
structure RecsIn (W : World) (hi : Nat) (v : Value) (ps : List RP) : Prop where
  row : W.ownsRow 0 55 8 v ps.length (flat encP ps)
  top : ∀ k, v.ownBlock = some k → k < hi
  nears : ∀ p ∈ ps, NearOwn W 0 hi p

theorem RecsOwn.in {W : World} {lo hi : Nat} {v : Value} {ps : List RP} (h : RecsOwn W lo hi v ps) : RecsIn W hi v ps := ⟨owns_baseS h.row (Nat.zero_le _), h.top, fun p hp => (h.nears p hp).wide (Nat.zero_le _) (Nat.le_refl _)⟩

theorem RecsIn.keep {W W' : World} {hi : Nat} {v : Value} {ps : List RP} (h : RecsIn W hi v ps) (hk : ∀ k, k < hi → k < W.heap.size → W'.heap[k]? = W.heap[k]?) : RecsIn W' hi v ps where
  row := owns_keepB h.row (fun k e => hk k (h.top k e) (h.row.lt k e).2)
  top := h.top
  nears := fun p hp => (h.nears p hp).keep (fun k _ h2 h3 => hk k h2 h3)

theorem RecsIn.below {W W' : World} {hi B : Nat} {v : Value} {ps : List RP} (h : RecsIn W hi v ps) (hb : Below B W W') (hB : hi ≤ B) : RecsIn W' hi v ps := h.keep (fun k h2 _ => hb.block k (by omega))

theorem RecsIn.wide {W : World} {hi hi' : Nat} {v : Value} {ps : List RP} (h : RecsIn W hi v ps) (hh : hi ≤ hi') : RecsIn W hi' v ps := ⟨h.row, fun k e => Nat.lt_of_lt_of_le (h.top k e) hh, fun p hp => (h.nears p hp).wide (Nat.le_refl _) hh⟩

theorem RecsIn.at {W : World} {hi : Nat} {v : Value} {ps : List RP} (h : RecsIn W hi v ps) : RecsAt W v ps hi := by
  refine ⟨?_, fun p hp => (h.nears p hp).at⟩
  have h1 := owns_rowAt h.row
  obtain ⟨a, cap, hv, h2⟩ := h1
  refine ⟨a, cap, hv, ?_⟩
  rcases h2 with h0 | ⟨b, off, ha, hb1, hx⟩
  · exact .inl h0
  · exact .inr ⟨b, off, ha, h.top b (by rw [hv, ha]; rfl), hx⟩

theorem true_filter (xs : List RecD) : xs.filter (fun _ => true) = xs := by simp

set_option maxRecDepth 100000 in
set_option maxHeartbeats 2000000 in
theorem copyList_any (v : Value) (ps : List RP) (hi : Nat) (w : World) (hv : RecsIn w hi v ps) (hhi : hi ≤ w.heap.size) (hn : tot ps ≤ 1048576) :
    Calls Try.prog 80 #[v] w fun e w' => ∃ x qs, e = .returned x ∧ fsts qs = fsts ps ∧ RecsOwn w' w.heap.size w'.heap.size x qs ∧ Below w.heap.size w w' := by
  have hnl := tot_len ps
  obtain ⟨a1, c1, rfl⟩ := owns_lenS hv.row
  have HV := hide hv
  clear hv
  have R0 := hide (recs_lit w w.heap.size (Nat.le_refl _))
  have B0 : Below w.heap.size w (w.alloc (.cells #[] 55)) := (Below.refl _ _).alloc (Nat.le_refl _) _
  go_enter Try.func80, Try.ntmps80
  go_wp2
  generalize w.alloc (.cells #[] 55) = w0 at *
  go_loopw [4, 3] (fun i o wr => ∃ (k : Nat) (qs : List RP) (u : Value), k ≤ ps.length ∧ i = .int .i64 k ∧ o = u ∧ fsts qs = fsts (ps.take k) ∧ RecsOwn wr w.heap.size wr.heap.size u qs ∧ Below w.heap.size w wr) (fun i _ _ => ps.length - (intOf i).toNat)
  case atStart => exact ⟨0, [], _, by omega, rfl, rfl, by simp [fsts], R0.out, B0⟩
  case round =>
    obtain ⟨k, qs, u, hk, rfl, rfl, hmap, hown, hnx⟩ := hrel
    obtain ⟨ua, uc, rfl⟩ := owns_lenS hown.row
    have hsz := hnx.size
    by_cases hlt : k < ps.length
    · obtain ⟨p, hp⟩ : ∃ p, ps[k]? = some p := ⟨ps[k], List.getElem?_eq_getElem hlt⟩
      have hat := HV.out.at
      obtain ⟨b, off, cap', hve, hbb, c0, c1, c2, c3, c4, c5, c6, c7, _⟩ := hat.cells k p hp
      cases hve
      rw [← hnx.cell (p := ⟨b, off + k * 8, none⟩) (Nat.lt_of_lt_of_le hbb hhi)] at c0
      rw [← hnx.cell (p := ⟨b, off + k * 8 + 1, none⟩) (Nat.lt_of_lt_of_le hbb hhi)] at c1
      rw [← hnx.cell (p := ⟨b, off + k * 8 + 2, none⟩) (Nat.lt_of_lt_of_le hbb hhi)] at c2
      rw [← hnx.cell (p := ⟨b, off + k * 8 + 3, none⟩) (Nat.lt_of_lt_of_le hbb hhi)] at c3
      rw [← hnx.cell (p := ⟨b, off + k * 8 + 4, none⟩) (Nat.lt_of_lt_of_le hbb hhi)] at c4
      rw [← hnx.cell (p := ⟨b, off + k * 8 + 5, none⟩) (Nat.lt_of_lt_of_le hbb hhi)] at c5
      rw [← hnx.cell (p := ⟨b, off + k * 8 + 6, none⟩) (Nat.lt_of_lt_of_le hbb hhi)] at c6
      rw [← hnx.cell (p := ⟨b, off + k * 8 + 7, none⟩) (Nat.lt_of_lt_of_le hbb hhi)] at c7
      have hno := (HV.out.nears p (List.mem_of_getElem? hp)).keep (W' := wr) (fun j _ h2 _ => hnx.block j (by omega))
      obtain ⟨pa, pc, hpn⟩ := owns_lenS hno.1
      have HC := copy5_any p.1 p.2 0 wr hno.1 (by have := tot_mem (List.mem_of_getElem? hp); omega)
      unfold recC at HC
      rw [hpn] at c5 HC
      have HCP := hide HC
      have HP := hide hp
      have HM := hide hmap
      have OW := hide hown
      have HQL := hide (show qs.length ≤ 1048576 by
        have h1 := congrArg List.length hmap
        simp [fsts] at h1
        omega)
      clear hp hmap hown hno hpn HC hat
      have hki : (0 : Int) ≤ (k : Int) := by omega
      have hkj : (k : Int) < (ps.length : Int) := by omega
      go_wp2_with fail
      refine HCP.out.mono ?_
      rintro e w2 ⟨v1, rfl, hn2, b2⟩
      obtain ⟨n1a, n1c, rfl⟩ := owns_lenS hn2
      have b2s := b2.size
      go_wp2_with (first
        | (at_builtin; refine append_struct5 encP_len (by omega) (by omega) _ rfl _ _ 43 rfl w.heap.size 55 Try.underlying43 (.agg (recC zeroRD (.slice none 0 0))) rfl Try.infoRec _ qs (p.1, .slice n1a p.1.near.length n1c) (encP_one _ _ _ _) rfl ((owns_below OW.out.row b2 (Nat.le_refl _)).alloc _) ⟨w2.heap.size, 0, none⟩ 1 rfl (news_struct (cs := encP (p.1, .slice n1a p.1.near.length n1c))) (by have := HQL.out; omega) (by simp; omega) ?_))
      intro v' w4 hown' hgrow
      have ow4 := OW.out.push (p := (p.1, .slice n1a p.1.near.length n1c)) (b2.alloc b2.size _) (by omega) (NearOwn.wide (NearOwn.keep ⟨hn2, fun k hk => (hn2.lt k hk).2⟩ (fun j _ _ h3 => Below.heap_alloc _ _ _ h3)) (Nat.le_refl _) (by simp)) hown' hgrow
      obtain ⟨va, vc, rfl⟩ := owns_lenS hown'
      have B4 : Below w.heap.size w w4 := ((hnx.trans (b2.mono hsz)).alloc (by omega) _).grown hgrow (by simp; omega) (fun k hk => (OW.out.row.lt k hk).1)
      have OW4 := hide ow4
      clear ow4 hown' hgrow hn2
      go_wp2
      go_roundw
      case rel => exact ⟨k + 1, qs ++ [(p.1, .slice n1a p.1.near.length n1c)], _, by omega, by go_num, rfl, by rw [show fsts (ps.take (k + 1)) = fsts (ps.take k) ++ [p.1] from map_take HP.out, ← HM.out]; simp [fsts], OW4.out, B4⟩
      case measure => simp [intOf]; omega
    · have hkn : k = ps.length := by omega
      have KN := hide hkn
      have OW := hide hown
      have HM := hide hmap
      clear hkn hown hmap
      go_wp2
      go_ret
      have h1 := HM.out
      rw [KN.out, List.take_length] at h1
      first
        | exact ⟨_, qs, rfl, h1, OW.out, hnx⟩
        | exact ⟨_, rfl, qs, h1, OW.out, hnx⟩

end Go.Proofs.Ytbmphbeocbgalaa
namespace Go.Proofs.Ytbmphbeocbgalaa
open Go.RowKit

set_option maxRecDepth 100000 in
set_option maxHeartbeats 2000000 in
theorem satI_any (v : Value) (ps : List RP) (hi : Nat) (r : RP) (w : World) (hv : RecsIn w hi v ps) (hhi : hi ≤ w.heap.size) (hn : tot ps ≤ 1048576) :
    Calls Try.prog 74 #[v, .agg (recC r.1 r.2)] w fun e w' => e = .returned (.int .i64 (atZ (fsts ps) r.1)) ∧ Below w.heap.size w w' := by
  have hnl := tot_len ps
  obtain ⟨a1, c1, rfl⟩ := owns_lenS hv.row
  have HV := hide hv
  clear hv
  have BX := (Below.refl w.heap.size w).alloc (Nat.le_refl _) (.cells (recC r.1 r.2) 55)
  have hx := heap_alloc_new w (.cells (recC r.1 r.2) 55)
  obtain ⟨wx, hwx⟩ : ∃ wx, wx = w.alloc (.cells (recC r.1 r.2) 55) := ⟨_, rfl⟩
  rw [← hwx] at BX hx
  unfold recC at *
  go_enter Try.func74, Try.ntmps74
  go_wp2
  rw [← hwx]
  have HX := hide hx
  clear hwx hx
  go_loopw [5] (fun i wr => ∃ (k : Nat), k ≤ ps.length ∧ i = .int .i64 k ∧ (∀ j, j < k → ∀ y, (fsts ps)[j]? = some y → sameKeyB y r.1 = false) ∧ Below wx.heap.size wx wr) (fun i _ => ps.length - (intOf i).toNat)
  case atStart => exact ⟨0, by omega, rfl, by omega, Below.refl _ _⟩
  case round =>
    obtain ⟨k, hk, rfl, hall, hnx⟩ := hrel
    have HALL := hide hall
    clear hall
    have hsz := hnx.size
    have hsx := lt_of_heap HX.out
    have BWR : Below w.heap.size w wr := BX.trans (hnx.mono (by omega))
    by_cases hlt : k < ps.length
    · obtain ⟨p, hp⟩ : ∃ p, ps[k]? = some p := ⟨ps[k], List.getElem?_eq_getElem hlt⟩
      have hat := HV.out.at
      obtain ⟨b, off, cap', hve, hbb, c0, c1, c2, c3, c4, c5, c6, c7, _⟩ := hat.cells k p hp
      cases hve
      rw [← BWR.cell (p := ⟨b, off + k * 8, none⟩) (Nat.lt_of_lt_of_le hbb hhi)] at c0
      rw [← BWR.cell (p := ⟨b, off + k * 8 + 1, none⟩) (Nat.lt_of_lt_of_le hbb hhi)] at c1
      rw [← BWR.cell (p := ⟨b, off + k * 8 + 2, none⟩) (Nat.lt_of_lt_of_le hbb hhi)] at c2
      rw [← BWR.cell (p := ⟨b, off + k * 8 + 3, none⟩) (Nat.lt_of_lt_of_le hbb hhi)] at c3
      rw [← BWR.cell (p := ⟨b, off + k * 8 + 4, none⟩) (Nat.lt_of_lt_of_le hbb hhi)] at c4
      rw [← BWR.cell (p := ⟨b, off + k * 8 + 5, none⟩) (Nat.lt_of_lt_of_le hbb hhi)] at c5
      rw [← BWR.cell (p := ⟨b, off + k * 8 + 6, none⟩) (Nat.lt_of_lt_of_le hbb hhi)] at c6
      rw [← BWR.cell (p := ⟨b, off + k * 8 + 7, none⟩) (Nat.lt_of_lt_of_le hbb hhi)] at c7
      have hxx := (hnx.block _ hsx).trans HX.out
      have d0 := cells_at hxx 0
      have d1 := cells_at hxx 1
      have d2 := cells_at hxx 2
      have d3 := cells_at hxx 3
      have d4 := cells_at hxx 4
      have d5 := cells_at hxx 5
      have d6 := cells_at hxx 6
      have d7 := cells_at hxx 7
      simp at d0 d1 d2 d3 d4 d5 d6 d7
      have hb1 : b < wr.heap.size := by omega
      have hb2 : w.heap.size < wr.heap.size := by omega
      have hki : (0 : Int) ≤ (k : Int) := by omega
      have hkj : (k : Int) < (ps.length : Int) := by omega
      have hq := fun W => ssameKey_any p.2 r.2 p.1 r.1 W
      unfold recC at hq
      obtain ⟨q, hqq⟩ : ∃ q, q = sameKeyB p.1 r.1 := ⟨_, rfl⟩
      rw [← hqq] at hq
      have HK := hide hq
      have HQQ := hide hqq
      have HPP := hide (fsts_at hp)
      clear hq hqq hp hat hxx
      cases q
      · go_wp2
        go_region_held3 (fun W => W.cell? ⟨b, off + k * 8, none⟩ = some (.int .i64 p.1.area) ∧ W.cell? ⟨b, off + k * 8 + 1, none⟩ = some (.int .i64 p.1.kind) ∧ W.cell? ⟨b, off + k * 8 + 2, none⟩ = some (.int .i64 p.1.owner) ∧ W.cell? ⟨b, off + k * 8 + 3, none⟩ = some (.int .i64 p.1.key) ∧ W.cell? ⟨b, off + k * 8 + 4, none⟩ = some (.int .i64 p.1.seq) ∧ W.cell? ⟨b, off + k * 8 + 5, none⟩ = some (p.2) ∧ W.cell? ⟨b, off + k * 8 + 6, none⟩ = some (.int .i64 p.1.cost) ∧ W.cell? ⟨b, off + k * 8 + 7, none⟩ = some (.bool p.1.far) ∧ W.cell? ⟨w.heap.size, 0, none⟩ = some (.int .i64 r.1.area) ∧ W.cell? ⟨w.heap.size, 1, none⟩ = some (.int .i64 r.1.kind) ∧ W.cell? ⟨w.heap.size, 2, none⟩ = some (.int .i64 r.1.owner) ∧ W.cell? ⟨w.heap.size, 3, none⟩ = some (.int .i64 r.1.key) ∧ W.cell? ⟨w.heap.size, 4, none⟩ = some (.int .i64 r.1.seq) ∧ W.cell? ⟨w.heap.size, 5, none⟩ = some (r.2) ∧ W.cell? ⟨w.heap.size, 6, none⟩ = some (.int .i64 r.1.cost) ∧ W.cell? ⟨w.heap.size, 7, none⟩ = some (.bool r.1.far)) (first | go_keep | (refine ⟨?_, ?_, ?_, ?_, ?_, ?_, ?_, ?_, ?_, ?_, ?_, ?_, ?_, ?_, ?_, ?_⟩ <;> (rw [hbc.cell (by assumption)]; assumption))) (first | (go_at_call 67; refine (HK.out _).mono ?_; rintro e w1 ⟨rfl, hbc⟩))
        go_wp2
        go_roundw
        case rel => exact ⟨k + 1, by omega, by go_num, (fun j hj y hy => by
          by_cases e : j = k
          · subst e; rw [HPP.out] at hy; cases hy; exact HQQ.out.symm
          · exact HALL.out j (by omega) y hy), hnx.trans ((Below.refl _ _).drew.trans (hbc.mono hsz))⟩
        case measure => simp [intOf]; omega
      · go_wp2
        go_region_held3 (fun W => W.cell? ⟨b, off + k * 8, none⟩ = some (.int .i64 p.1.area) ∧ W.cell? ⟨b, off + k * 8 + 1, none⟩ = some (.int .i64 p.1.kind) ∧ W.cell? ⟨b, off + k * 8 + 2, none⟩ = some (.int .i64 p.1.owner) ∧ W.cell? ⟨b, off + k * 8 + 3, none⟩ = some (.int .i64 p.1.key) ∧ W.cell? ⟨b, off + k * 8 + 4, none⟩ = some (.int .i64 p.1.seq) ∧ W.cell? ⟨b, off + k * 8 + 5, none⟩ = some (p.2) ∧ W.cell? ⟨b, off + k * 8 + 6, none⟩ = some (.int .i64 p.1.cost) ∧ W.cell? ⟨b, off + k * 8 + 7, none⟩ = some (.bool p.1.far) ∧ W.cell? ⟨w.heap.size, 0, none⟩ = some (.int .i64 r.1.area) ∧ W.cell? ⟨w.heap.size, 1, none⟩ = some (.int .i64 r.1.kind) ∧ W.cell? ⟨w.heap.size, 2, none⟩ = some (.int .i64 r.1.owner) ∧ W.cell? ⟨w.heap.size, 3, none⟩ = some (.int .i64 r.1.key) ∧ W.cell? ⟨w.heap.size, 4, none⟩ = some (.int .i64 r.1.seq) ∧ W.cell? ⟨w.heap.size, 5, none⟩ = some (r.2) ∧ W.cell? ⟨w.heap.size, 6, none⟩ = some (.int .i64 r.1.cost) ∧ W.cell? ⟨w.heap.size, 7, none⟩ = some (.bool r.1.far)) (first | go_keep | (refine ⟨?_, ?_, ?_, ?_, ?_, ?_, ?_, ?_, ?_, ?_, ?_, ?_, ?_, ?_, ?_, ?_⟩ <;> (rw [hbc.cell (by assumption)]; assumption))) (first | (go_at_call 67; refine (HK.out _).mono ?_; rintro e w1 ⟨rfl, hbc⟩))
        go_wp2
        go_ret
        exact ⟨ret_int1 (by rw [atZ_found HPP.out HQQ.out.symm HALL.out]), BWR.trans ((Below.refl _ _).drew.trans (hbc.mono (show w.heap.size ≤ wr.heap.size by omega)))⟩
    · have hkn : k = ps.length := by omega
      have KN := hide hkn
      clear hkn
      go_wp2
      go_ret
      exact ⟨ret_int1 (by rw [atZ_none (by have h := HALL.out; rw [KN.out] at h; simpa [fsts] using h)]), BWR⟩

set_option maxRecDepth 100000 in
set_option maxHeartbeats 2000000 in
theorem placeI_any (v : Value) (ps : List RP) (hi : Nat) (r : RecD) (w : World) (hv : RecsIn w hi v ps) (hhi : hi ≤ w.heap.size) (hn : tot ps ≤ 1048576) :
    Calls Try.prog 76 #[v, .agg (keyV r)] w fun e w' => e = .returned (plV (atZ (fsts ps) r)) ∧ Below w.heap.size w w' := by
  have hnl := tot_len ps
  obtain ⟨a1, c1, rfl⟩ := owns_lenS hv.row
  have HV := hide hv
  clear hv
  have BX := (Below.refl w.heap.size w).alloc (Nat.le_refl _) (.cells (keyV r) 96)
  have hx := heap_alloc_new w (.cells (keyV r) 96)
  obtain ⟨wx, hwx⟩ : ∃ wx, wx = w.alloc (.cells (keyV r) 96) := ⟨_, rfl⟩
  rw [← hwx] at BX hx
  unfold keyV at *
  go_enter Try.func76, Try.ntmps76
  go_wp2
  rw [← hwx]
  have HX := hide hx
  clear hwx hx
  go_loopw [10] (fun i wr => ∃ (k : Nat), k ≤ ps.length ∧ i = .int .i64 k ∧ (∀ j, j < k → ∀ y, (fsts ps)[j]? = some y → sameKeyB y r = false) ∧ Below wx.heap.size wx wr) (fun i _ => ps.length - (intOf i).toNat)
  case atStart => exact ⟨0, by omega, rfl, by omega, Below.refl _ _⟩
  case round =>
    obtain ⟨k, hk, rfl, hall, hnx⟩ := hrel
    have HALL := hide hall
    clear hall
    have hsz := hnx.size
    have hsx := lt_of_heap HX.out
    have BWR : Below w.heap.size w wr := BX.trans (hnx.mono (by omega))
    by_cases hlt : k < ps.length
    · obtain ⟨p, hp⟩ : ∃ p, ps[k]? = some p := ⟨ps[k], List.getElem?_eq_getElem hlt⟩
      have hat := HV.out.at
      obtain ⟨b, off, cap', hve, hbb, c0, c1, c2, c3, c4, c5, c6, c7, hnr⟩ := hat.cells k p hp
      cases hve
      rw [← BWR.cell (p := ⟨b, off + k * 8, none⟩) (Nat.lt_of_lt_of_le hbb hhi)] at c0
      rw [← BWR.cell (p := ⟨b, off + k * 8 + 1, none⟩) (Nat.lt_of_lt_of_le hbb hhi)] at c1
      rw [← BWR.cell (p := ⟨b, off + k * 8 + 2, none⟩) (Nat.lt_of_lt_of_le hbb hhi)] at c2
      rw [← BWR.cell (p := ⟨b, off + k * 8 + 3, none⟩) (Nat.lt_of_lt_of_le hbb hhi)] at c3
      rw [← BWR.cell (p := ⟨b, off + k * 8 + 4, none⟩) (Nat.lt_of_lt_of_le hbb hhi)] at c4
      rw [← BWR.cell (p := ⟨b, off + k * 8 + 5, none⟩) (Nat.lt_of_lt_of_le hbb hhi)] at c5
      rw [← BWR.cell (p := ⟨b, off + k * 8 + 6, none⟩) (Nat.lt_of_lt_of_le hbb hhi)] at c6
      rw [← BWR.cell (p := ⟨b, off + k * 8 + 7, none⟩) (Nat.lt_of_lt_of_le hbb hhi)] at c7
      obtain ⟨pa, pc, hpn⟩ := hnr.shape
      rw [hpn] at c5
      have hxx := (hnx.block _ hsx).trans HX.out
      have hki : (0 : Int) ≤ (k : Int) := by omega
      have hkj : (k : Int) < (ps.length : Int) := by omega
      have HK := hide (fun W => keyOf_raw p.1.area p.1.kind p.1.owner p.1.key p.1.seq (.slice pa p.1.near.length pc) p.1.cost p.1.far W)
      have e0 := fun W => key_eql W p.1.area p.1.kind p.1.owner p.1.key r.area r.kind r.owner r.key
      obtain ⟨q, hqq⟩ : ∃ q, q = sameKeyB p.1 r := ⟨_, rfl⟩
      rw [show (p.1.area == r.area && p.1.kind == r.kind && p.1.owner == r.owner && p.1.key == r.key) = q by rw [hqq]; rfl] at e0
      have HQQ := hide hqq
      have HPP := hide (fsts_at hp)
      clear hqq hp hat hnr hpn
      obtain ⟨o, ho⟩ : ∃ o, o = (.cells #[.int .i64 p.1.area, .int .i64 p.1.kind, .int .i64 p.1.owner, .int .i64 p.1.key, .int .i64 p.1.seq, .slice pa p.1.near.length pc, .int .i64 p.1.cost, .bool p.1.far] 55 : Obj) := ⟨_, rfl⟩
      have hz := heap_alloc_new wr o
      have hxz := (Below.heap_alloc wr o w.heap.size (by omega)).trans hxx
      have BZ : Below wr.heap.size wr (wr.alloc o) := (Below.refl _ _).alloc (Nat.le_refl _) _
      obtain ⟨wz, hwz⟩ : ∃ wz, wz = wr.alloc o := ⟨_, rfl⟩
      rw [← hwz] at hz hxz BZ
      rw [ho] at hwz hz
      have hbz := BZ.size
      clear ho hxx
      cases q
      · go_wp2
        rw [← hwz]
        obtain ⟨z, hzz⟩ : ∃ z, z = wr.heap.size := ⟨_, rfl⟩
        rw [← hzz] at hz ⊢
        have d0 := cells_at hz 0
        have d1 := cells_at hz 1
        have d2 := cells_at hz 2
        have d3 := cells_at hz 3
        have d4 := cells_at hz 4
        have d5 := cells_at hz 5
        have d6 := cells_at hz 6
        have d7 := cells_at hz 7
        have k0 := cells_at hxz 0
        have k1 := cells_at hxz 1
        have k2 := cells_at hxz 2
        have k3 := cells_at hxz 3
        simp at d0 d1 d2 d3 d4 d5 d6 d7 k0 k1 k2 k3
        have hb1 := lt_of_heap hz
        have hb2 := lt_of_heap hxz
        clear hzz hwz hz hxz c0 c1 c2 c3 c4 c5 c6 c7
        go_region_held3 (fun W => W.cell? ⟨z, 0, none⟩ = some (.int .i64 p.1.area) ∧ W.cell? ⟨z, 1, none⟩ = some (.int .i64 p.1.kind) ∧ W.cell? ⟨z, 2, none⟩ = some (.int .i64 p.1.owner) ∧ W.cell? ⟨z, 3, none⟩ = some (.int .i64 p.1.key) ∧ W.cell? ⟨z, 4, none⟩ = some (.int .i64 p.1.seq) ∧ W.cell? ⟨z, 5, none⟩ = some (.slice pa p.1.near.length pc) ∧ W.cell? ⟨z, 6, none⟩ = some (.int .i64 p.1.cost) ∧ W.cell? ⟨z, 7, none⟩ = some (.bool p.1.far) ∧ W.cell? ⟨w.heap.size, 0, none⟩ = some (.int .i64 r.area) ∧ W.cell? ⟨w.heap.size, 1, none⟩ = some (.int .i64 r.kind) ∧ W.cell? ⟨w.heap.size, 2, none⟩ = some (.int .i64 r.owner) ∧ W.cell? ⟨w.heap.size, 3, none⟩ = some (.int .i64 r.key)) (first | go_keep | (refine ⟨?_, ?_, ?_, ?_, ?_, ?_, ?_, ?_, ?_, ?_, ?_, ?_⟩ <;> (rw [hbc.cell (by assumption)]; assumption))) (first | (refine (HK.out _).mono ?_; rintro e w1 ⟨rfl, hbc⟩))
        go_wp2
        go_roundw
        case rel => exact ⟨k + 1, by omega, by go_num, (fun j hj y hy => by
          by_cases e : j = k
          · subst e; rw [HPP.out] at hy; cases hy; exact HQQ.out.symm
          · exact HALL.out j (by omega) y hy), hnx.trans ((BZ.mono hsz).trans ((Below.refl _ _).drew.trans (hbc.mono (show wx.heap.size ≤ wz.heap.size by omega))))⟩
        case measure => simp [intOf]; omega
      · go_wp2
        rw [← hwz]
        obtain ⟨z, hzz⟩ : ∃ z, z = wr.heap.size := ⟨_, rfl⟩
        rw [← hzz] at hz ⊢
        have d0 := cells_at hz 0
        have d1 := cells_at hz 1
        have d2 := cells_at hz 2
        have d3 := cells_at hz 3
        have d4 := cells_at hz 4
        have d5 := cells_at hz 5
        have d6 := cells_at hz 6
        have d7 := cells_at hz 7
        have k0 := cells_at hxz 0
        have k1 := cells_at hxz 1
        have k2 := cells_at hxz 2
        have k3 := cells_at hxz 3
        simp at d0 d1 d2 d3 d4 d5 d6 d7 k0 k1 k2 k3
        have hb1 := lt_of_heap hz
        have hb2 := lt_of_heap hxz
        clear hzz hwz hz hxz c0 c1 c2 c3 c4 c5 c6 c7
        go_region_held3 (fun W => W.cell? ⟨z, 0, none⟩ = some (.int .i64 p.1.area) ∧ W.cell? ⟨z, 1, none⟩ = some (.int .i64 p.1.kind) ∧ W.cell? ⟨z, 2, none⟩ = some (.int .i64 p.1.owner) ∧ W.cell? ⟨z, 3, none⟩ = some (.int .i64 p.1.key) ∧ W.cell? ⟨z, 4, none⟩ = some (.int .i64 p.1.seq) ∧ W.cell? ⟨z, 5, none⟩ = some (.slice pa p.1.near.length pc) ∧ W.cell? ⟨z, 6, none⟩ = some (.int .i64 p.1.cost) ∧ W.cell? ⟨z, 7, none⟩ = some (.bool p.1.far) ∧ W.cell? ⟨w.heap.size, 0, none⟩ = some (.int .i64 r.area) ∧ W.cell? ⟨w.heap.size, 1, none⟩ = some (.int .i64 r.kind) ∧ W.cell? ⟨w.heap.size, 2, none⟩ = some (.int .i64 r.owner) ∧ W.cell? ⟨w.heap.size, 3, none⟩ = some (.int .i64 r.key)) (first | go_keep | (refine ⟨?_, ?_, ?_, ?_, ?_, ?_, ?_, ?_, ?_, ?_, ?_, ?_⟩ <;> (rw [hbc.cell (by assumption)]; assumption))) (first | (refine (HK.out _).mono ?_; rintro e w1 ⟨rfl, hbc⟩))
        go_wp2
        go_returns
        refine ⟨?_, BWR.trans ((BZ.mono (by omega)).trans ((Below.refl _ _).drew.trans (hbc.mono (show w.heap.size ≤ wz.heap.size by omega))))⟩
        rw [atZ_found HPP.out HQQ.out.symm HALL.out]
        unfold plV
        rw [if_neg (by omega)]
        rfl
    · have hkn : k = ps.length := by omega
      have KN := hide hkn
      clear hkn
      go_wp2
      go_returns
      refine ⟨?_, BWR⟩
      rw [atZ_none (by have h := HALL.out; rw [KN.out] at h; simpa [fsts] using h)]
      rfl
end Go.Proofs.Ytbmphbeocbgalaa
namespace Go.Proofs.Ytbmphbeocbgalaa
open Go.RowKit

set_option linter.unusedSimpArgs false

theorem results_cell_row_tmp5 {P : Program} {fn : Func} {p u : Tmp} {ty : TypeId} (h : fn.results = #[.cell p ty, .tmp u]) (tmps : Array Value) (w : World) (g : Nat) (t : TypeId) (cs : Array Value) (fr : Nat × Nat) (d : TypeDesc)
    (hp : tmps.getD p undef = .pointer (some ⟨g, 0, none⟩)) (hg : w.heap[g]? = some (.cells cs t fr))
    (hu : P.underlying ty = some d) (hd : (match d with | .struct _ | .array _ _ => true | _ => false) = true) (hi : (P.info? ty).map (·.size) = some cs.size) :
    (results fn tmps).run P w = .ok (.tuple #[.agg cs, tmps.getD u undef]) w := by
  have hp' : tmps[p]?.getD undef = .pointer (some ⟨g, 0, none⟩) := by simpa using hp
  rw [results_cell_tmp h]
  simp [hp', asAddr, run_loadVar_row w g t ty cs fr d hg hu hd hi]

/-- the one with the key, and whether there is one -/
def findD (xs : List RecD) (r : RecD) : RecD := if atZ xs r < 0 then zeroRD else xs.getD (atZ xs r).toNat zeroRD

def findB (xs : List RecD) (r : RecD) : Bool := !decide (atZ xs r < 0)

theorem find_none {xs : List RecD} {r : RecD} (h : atZ xs r = -1) : findD xs r = zeroRD ∧ findB xs r = false := by unfold findD findB; rw [h]; exact ⟨rfl, rfl⟩

theorem find_at {xs : List RecD} {r y : RecD} {k : Nat} (h : atZ xs r = (k : Int)) (hy : xs[k]? = some y) : findD xs r = y ∧ findB xs r = true := by
  unfold findD findB
  rw [h, if_neg (by omega)]
  exact ⟨by simp [hy], by simp⟩

theorem fsts_some5 {ps : List RP} {k : Nat} {y : RecD} (h : (fsts ps)[k]? = some y) : ∃ p, ps[k]? = some p ∧ p.1 = y := by
  simp [fsts] at h
  obtain ⟨v, hv⟩ := h
  exact ⟨(y, v), hv, rfl⟩

set_option maxRecDepth 100000 in
set_option maxHeartbeats 4000000 in
theorem sfind_any (v : Value) (ps : List RP) (lo hi : Nat) (r : RP) (rlo : Nat) (w : World) (hv : RecsOwn w lo hi v ps) (hhi : hi ≤ w.heap.size) (hn : tot ps ≤ 1048576) (hr : w.ownsRow rlo 91 2 r.2 r.1.near.length (flat nrE r.1.near)) :
    Calls Try.prog 38 #[v, .agg (recC r.1 r.2)] w fun e w' => ∃ u, e = .returned (.tuple #[.agg (recC (findD (fsts ps) r.1) u), .bool (findB (fsts ps) r.1)]) ∧ w'.ownsRow w.heap.size 91 2 u (findD (fsts ps) r.1).near.length (flat nrE (findD (fsts ps) r.1).near) ∧ Below w.heap.size w w' := by
  have hnl := tot_len ps
  obtain ⟨a1, c1, rfl⟩ := owns_lenS hv.row
  obtain ⟨ra, rc, hrn⟩ := owns_lenS hr
  have BX : Below w.heap.size w ((w.alloc (.cells #[.int .i64 r.1.area, .int .i64 r.1.kind, .int .i64 r.1.owner, .int .i64 r.1.key, .int .i64 r.1.seq, .slice ra r.1.near.length rc, .int .i64 r.1.cost, .bool r.1.far] 55)).alloc (.cells #[.int .i64 0, .int .i64 0, .int .i64 0, .int .i64 0, .int .i64 0, .slice none 0 0, .int .i64 0, .bool false] 55)) := below_two _ _
  have hq1 : ((w.alloc (.cells #[.int .i64 r.1.area, .int .i64 r.1.kind, .int .i64 r.1.owner, .int .i64 r.1.key, .int .i64 r.1.seq, .slice ra r.1.near.length rc, .int .i64 r.1.cost, .bool r.1.far] 55)).alloc (.cells #[.int .i64 0, .int .i64 0, .int .i64 0, .int .i64 0, .int .i64 0, .slice none 0 0, .int .i64 0, .bool false] 55)).heap[w.heap.size + 1]? = some (.cells #[.int .i64 0, .int .i64 0, .int .i64 0, .int .i64 0, .int .i64 0, .slice none 0 0, .int .i64 0, .bool false] 55) := by
    have e := heap_alloc_new (w.alloc (.cells #[.int .i64 r.1.area, .int .i64 r.1.kind, .int .i64 r.1.owner, .int .i64 r.1.key, .int .i64 r.1.seq, .slice ra r.1.near.length rc, .int .i64 r.1.cost, .bool r.1.far] 55)) (.cells #[.int .i64 0, .int .i64 0, .int .i64 0, .int .i64 0, .int .i64 0, .slice none 0 0, .int .i64 0, .bool false] 55)
    simpa using e
  have hq0 : ((w.alloc (.cells #[.int .i64 r.1.area, .int .i64 r.1.kind, .int .i64 r.1.owner, .int .i64 r.1.key, .int .i64 r.1.seq, .slice ra r.1.near.length rc, .int .i64 r.1.cost, .bool r.1.far] 55)).alloc (.cells #[.int .i64 0, .int .i64 0, .int .i64 0, .int .i64 0, .int .i64 0, .slice none 0 0, .int .i64 0, .bool false] 55)).heap[w.heap.size]? = some (.cells #[.int .i64 r.1.area, .int .i64 r.1.kind, .int .i64 r.1.owner, .int .i64 r.1.key, .int .i64 r.1.seq, .slice ra r.1.near.length rc, .int .i64 r.1.cost, .bool r.1.far] 55) := by rw [Below.heap_alloc _ _ _ (by simp), heap_alloc_new]
  obtain ⟨wx, hwx⟩ : ∃ wx, wx = (w.alloc (.cells #[.int .i64 r.1.area, .int .i64 r.1.kind, .int .i64 r.1.owner, .int .i64 r.1.key, .int .i64 r.1.seq, .slice ra r.1.near.length rc, .int .i64 r.1.cost, .bool r.1.far] 55)).alloc (.cells #[.int .i64 0, .int .i64 0, .int .i64 0, .int .i64 0, .int .i64 0, .slice none 0 0, .int .i64 0, .bool false] 55) := ⟨_, rfl⟩
  rw [← hwx] at BX hq1 hq0
  have hsx : w.heap.size + 1 < wx.heap.size := lt_of_heap hq1
  have HAT := hide (sat_any (.slice a1 ps.length c1) ps lo hi r wx (hv.below BX hhi) (by omega) hn)
  unfold recC at HAT
  rw [hrn] at HAT
  have HV := hide hv
  rw [hrn]
  clear hv hr hrn
  unfold recC
  unfold recC at *
  rcases atZ_cases (fsts ps) r.1 with hz | ⟨j, y, hz, hy, _⟩
  · obtain ⟨e1, e2⟩ := find_none hz
    rw [e1, e2]
    rw [hz] at HAT
    clear hz e1 e2
    go_enter Try.func38, Try.ntmps38
    go_wp2_with fail
    rw [← hwx]
    refine HAT.out.mono ?_
    rintro e w1 ⟨rfl, b1⟩
    have B1 : Below w.heap.size w w1 := BX.trans (b1.mono (by omega))
    have b1s := b1.size
    have hz1 := (b1.block _ hsx).trans hq1
    clear hwx b1 hq1 hq0 HAT
    have u0 := cells_at hz1 0
    have u1 := cells_at hz1 1
    have u2 := cells_at hz1 2
    have u3 := cells_at hz1 3
    have u4 := cells_at hz1 4
    have u5 := cells_at hz1 5
    have u6 := cells_at hz1 6
    have u7 := cells_at hz1 7
    simp at u0 u1 u2 u3 u4 u5 u6 u7
    have fu := frozen_at hz1
    have FF := hide (fin85 zeroRD (.slice none 0 0) hz1)
    have G8 := hide (grown85 w1 (w.heap.size + 1) zeroRD (.slice none 0 0))
    have hzl := lt_of_heap hz1
    clear hz1
    go_wp2_with fail
    (try simp only [Exit.inBlock, Exit.then])
    refine bodyPost_ret (results_cell_row_tmp5 rfl _ _ (w.heap.size + 1) 55 (recC zeroRD (.slice none 0 0)) (0, 0) _ rfl FF.out Try.underlying55 rfl (by kernel_rfl)) rfl ?_
    exact ⟨.slice none 0 0, rfl, World.ownsRow_nil _ _ _ _, B1.grown G8.out (by omega) (fun k hk => by simp at hk; omega)⟩
  · obtain ⟨e1, e2⟩ := find_at hz hy
    rw [e1, e2]
    obtain ⟨t, htj, hty⟩ := fsts_some5 hy
    have hjl : j < ps.length := (List.getElem?_eq_some_iff.1 htj).1
    have hji : (0 : Int) ≤ (j : Int) := by omega
    have hjj : (j : Int) < (ps.length : Int) := by omega
    have hj0 : ¬ (j : Int) < 0 := by omega
    rw [hz] at HAT
    obtain ⟨b, off, cp, hve, hbb, c0, c1, c2, c3, c4, c5, c6, c7, _⟩ := HV.out.at.cells j t htj
    cases hve
    have hbw : b < w.heap.size := by omega
    have hno := HV.out.nears t (List.mem_of_getElem? htj)
    obtain ⟨pa, pc, hpn⟩ := owns_lenS hno.1
    have HCP := hide (fun W (hb : Below w.heap.size w W) => copy5_any t.1 t.2 lo W (owns_below hno.1 hb (Nat.le_refl _)) (by have := tot_mem (List.mem_of_getElem? htj); omega))
    unfold recC at HCP
    rw [hpn] at c5 HCP
    subst hty
    clear hz hy htj e1 e2 hno hpn
    go_enter Try.func38, Try.ntmps38
    go_wp2_with fail
    rw [← hwx]
    refine HAT.out.mono ?_
    rintro e w1 ⟨rfl, b1⟩
    have B1 : Below w.heap.size w w1 := BX.trans (b1.mono (by omega))
    have b1s := b1.size
    have hz1 := (b1.block _ hsx).trans hq1
    clear hwx b1 hq1 hq0 HAT
    rw [← B1.cell (p := ⟨b, off + j * 8, none⟩) hbw] at c0
    rw [← B1.cell (p := ⟨b, off + j * 8 + 1, none⟩) hbw] at c1
    rw [← B1.cell (p := ⟨b, off + j * 8 + 2, none⟩) hbw] at c2
    rw [← B1.cell (p := ⟨b, off + j * 8 + 3, none⟩) hbw] at c3
    rw [← B1.cell (p := ⟨b, off + j * 8 + 4, none⟩) hbw] at c4
    rw [← B1.cell (p := ⟨b, off + j * 8 + 5, none⟩) hbw] at c5
    rw [← B1.cell (p := ⟨b, off + j * 8 + 6, none⟩) hbw] at c6
    rw [← B1.cell (p := ⟨b, off + j * 8 + 7, none⟩) hbw] at c7
    have Z1 := hide hz1
    clear hz1
    go_wp2_with fail
    refine (HCP.out _ B1).mono ?_
    rintro e w2 ⟨v1, rfl, hn2, b2⟩
    obtain ⟨n1a, n1c, rfl⟩ := owns_lenS hn2
    have hz2 := (b2.block _ (lt_of_heap Z1.out)).trans Z1.out
    have b2s := b2.size
    have hzl := lt_of_heap Z1.out
    have u0 := cells_at hz2 0
    have u1 := cells_at hz2 1
    have u2 := cells_at hz2 2
    have u3 := cells_at hz2 3
    have u4 := cells_at hz2 4
    have u5 := cells_at hz2 5
    have u6 := cells_at hz2 6
    have u7 := cells_at hz2 7
    simp at u0 u1 u2 u3 u4 u5 u6 u7
    have fu := frozen_at hz2
    have FF := hide (fin85 t.1 (.slice n1a t.1.near.length n1c) hz2)
    have G8 := grown85 w2 (w.heap.size + 1) t.1 (.slice n1a t.1.near.length n1c)
    have O3 := hide (owns_baseS (b0 := w.heap.size) (hn2.kept G8 (by
      cases hv : (Value.slice n1a t.1.near.length n1c).ownBlock with
      | none => exact .inl rfl
      | some g => exact .inr (fun e => by have := (hn2.lt g hv).1; simp at e; omega))) (by omega))
    have B2 : Below w.heap.size w w2 := B1.trans (b2.mono (by omega))
    have BF := hide (B2.grown G8 (by omega) (fun k hk => by simp at hk; omega))
    clear hz2 hn2 b2 Z1 G8
    go_wp2_with fail
    (try simp only [Exit.inBlock, Exit.then])
    refine bodyPost_ret (results_cell_row_tmp5 rfl _ _ (w.heap.size + 1) 55 (recC t.1 (.slice n1a t.1.near.length n1c)) (0, 0) _ rfl FF.out Try.underlying55 rfl (by kernel_rfl)) rfl ?_
    exact ⟨_, rfl, O3.out, BF.out⟩

set_option maxRecDepth 100000 in
set_option maxHeartbeats 4000000 in
theorem ifind_any (v : Value) (ps : List RP) (lo hi : Nat) (r : RP) (rlo : Nat) (w : World) (hv : RecsOwn w lo hi v ps) (hhi : hi ≤ w.heap.size) (hn : tot ps ≤ 1048576) (hr : w.ownsRow rlo 91 2 r.2 r.1.near.length (flat nrE r.1.near)) :
    Calls Try.prog 39 #[v, .agg (recC r.1 r.2)] w fun e w' => ∃ u, e = .returned (.tuple #[.agg (recC (findD (fsts ps) r.1) u), .bool (findB (fsts ps) r.1)]) ∧ w'.ownsRow w.heap.size 91 2 u (findD (fsts ps) r.1).near.length (flat nrE (findD (fsts ps) r.1).near) ∧ Below w.heap.size w w' := by
  have hnl := tot_len ps
  obtain ⟨a1, c1, rfl⟩ := owns_lenS hv.row
  obtain ⟨ra, rc, hrn⟩ := owns_lenS hr
  have BX : Below w.heap.size w ((w.alloc (.cells #[.int .i64 r.1.area, .int .i64 r.1.kind, .int .i64 r.1.owner, .int .i64 r.1.key, .int .i64 r.1.seq, .slice ra r.1.near.length rc, .int .i64 r.1.cost, .bool r.1.far] 55)).alloc (.cells #[.int .i64 0, .int .i64 0, .int .i64 0, .int .i64 0, .int .i64 0, .slice none 0 0, .int .i64 0, .bool false] 55)) := below_two _ _
  have hq1 : ((w.alloc (.cells #[.int .i64 r.1.area, .int .i64 r.1.kind, .int .i64 r.1.owner, .int .i64 r.1.key, .int .i64 r.1.seq, .slice ra r.1.near.length rc, .int .i64 r.1.cost, .bool r.1.far] 55)).alloc (.cells #[.int .i64 0, .int .i64 0, .int .i64 0, .int .i64 0, .int .i64 0, .slice none 0 0, .int .i64 0, .bool false] 55)).heap[w.heap.size + 1]? = some (.cells #[.int .i64 0, .int .i64 0, .int .i64 0, .int .i64 0, .int .i64 0, .slice none 0 0, .int .i64 0, .bool false] 55) := by
    have e := heap_alloc_new (w.alloc (.cells #[.int .i64 r.1.area, .int .i64 r.1.kind, .int .i64 r.1.owner, .int .i64 r.1.key, .int .i64 r.1.seq, .slice ra r.1.near.length rc, .int .i64 r.1.cost, .bool r.1.far] 55)) (.cells #[.int .i64 0, .int .i64 0, .int .i64 0, .int .i64 0, .int .i64 0, .slice none 0 0, .int .i64 0, .bool false] 55)
    simpa using e
  have hq0 : ((w.alloc (.cells #[.int .i64 r.1.area, .int .i64 r.1.kind, .int .i64 r.1.owner, .int .i64 r.1.key, .int .i64 r.1.seq, .slice ra r.1.near.length rc, .int .i64 r.1.cost, .bool r.1.far] 55)).alloc (.cells #[.int .i64 0, .int .i64 0, .int .i64 0, .int .i64 0, .int .i64 0, .slice none 0 0, .int .i64 0, .bool false] 55)).heap[w.heap.size]? = some (.cells #[.int .i64 r.1.area, .int .i64 r.1.kind, .int .i64 r.1.owner, .int .i64 r.1.key, .int .i64 r.1.seq, .slice ra r.1.near.length rc, .int .i64 r.1.cost, .bool r.1.far] 55) := by rw [Below.heap_alloc _ _ _ (by simp), heap_alloc_new]
  obtain ⟨wx, hwx⟩ : ∃ wx, wx = (w.alloc (.cells #[.int .i64 r.1.area, .int .i64 r.1.kind, .int .i64 r.1.owner, .int .i64 r.1.key, .int .i64 r.1.seq, .slice ra r.1.near.length rc, .int .i64 r.1.cost, .bool r.1.far] 55)).alloc (.cells #[.int .i64 0, .int .i64 0, .int .i64 0, .int .i64 0, .int .i64 0, .slice none 0 0, .int .i64 0, .bool false] 55) := ⟨_, rfl⟩
  rw [← hwx] at BX hq1 hq0
  have hsx : w.heap.size + 1 < wx.heap.size := lt_of_heap hq1
  have HAT := hide (fun W (hb : Below w.heap.size w W) => place_any (.slice a1 ps.length c1) ps lo hi r.1 W (hv.below hb hhi) (by have := hb.size; omega) hn)
  unfold keyV at HAT
  have HKEY := hide (fun W => keyOf_raw r.1.area r.1.kind r.1.owner r.1.key r.1.seq (.slice ra r.1.near.length rc) r.1.cost r.1.far W)
  have HV := hide hv
  rw [hrn]
  clear hv hr hrn
  unfold recC
  unfold recC at *
  rcases atZ_cases (fsts ps) r.1 with hz | ⟨j, y, hz, hy, _⟩
  · obtain ⟨e1, e2⟩ := find_none hz
    rw [e1, e2]
    rw [hz] at HAT
    rw [show plV (-1) = .tuple #[.int .i64 0, .bool false] from rfl] at HAT
    clear hz e1 e2
    go_enter Try.func39, Try.ntmps39
    go_wp2_with fail
    rw [← hwx]
    refine (HKEY.out _).mono ?_
    rintro e wk ⟨rfl, bk⟩
    have BK : Below w.heap.size w wk := BX.trans (bk.mono (by omega))
    have bks := bk.size
    have hzk := (bk.block _ hsx).trans hq1
    clear hwx bk hq1 hq0
    go_wp2_with fail
    refine (HAT.out _ BK).mono ?_
    rintro e w1 ⟨rfl, b1⟩
    have B1 : Below w.heap.size w w1 := BK.trans (b1.mono (by omega))
    have b1s := b1.size
    have hz1 := (b1.block _ (lt_of_heap hzk)).trans hzk
    clear b1 hzk HAT HKEY
    have u0 := cells_at hz1 0
    have u1 := cells_at hz1 1
    have u2 := cells_at hz1 2
    have u3 := cells_at hz1 3
    have u4 := cells_at hz1 4
    have u5 := cells_at hz1 5
    have u6 := cells_at hz1 6
    have u7 := cells_at hz1 7
    simp at u0 u1 u2 u3 u4 u5 u6 u7
    have fu := frozen_at hz1
    have FF := hide (fin85 zeroRD (.slice none 0 0) hz1)
    have G8 := hide (grown85 w1 (w.heap.size + 1) zeroRD (.slice none 0 0))
    have hzl := lt_of_heap hz1
    clear hz1
    go_wp2_with fail
    (try simp only [Exit.inBlock, Exit.then])
    refine bodyPost_ret (results_cell_row_tmp5 rfl _ _ (w.heap.size + 1) 55 (recC zeroRD (.slice none 0 0)) (0, 0) _ rfl FF.out Try.underlying55 rfl (by kernel_rfl)) rfl ?_
    exact ⟨.slice none 0 0, rfl, World.ownsRow_nil _ _ _ _, B1.grown G8.out (by omega) (fun k hk => by simp at hk; omega)⟩
  · obtain ⟨e1, e2⟩ := find_at hz hy
    rw [e1, e2]
    obtain ⟨t, htj, hty⟩ := fsts_some5 hy
    have hjl : j < ps.length := (List.getElem?_eq_some_iff.1 htj).1
    have hji : (0 : Int) ≤ (j : Int) := by omega
    have hjj : (j : Int) < (ps.length : Int) := by omega
    have hj0 : ¬ (j : Int) < 0 := by omega
    rw [hz] at HAT
    rw [show plV (j : Int) = .tuple #[.int .i64 (j : Int), .bool true] from by unfold plV; rw [if_neg (by omega)]] at HAT
    obtain ⟨b, off, cp, hve, hbb, c0, c1, c2, c3, c4, c5, c6, c7, _⟩ := HV.out.at.cells j t htj
    cases hve
    have hbw : b < w.heap.size := by omega
    have hno := HV.out.nears t (List.mem_of_getElem? htj)
    obtain ⟨pa, pc, hpn⟩ := owns_lenS hno.1
    have HCP := hide (fun W (hb : Below w.heap.size w W) => ownRec_any t.1 t.2 lo W (owns_below hno.1 hb (Nat.le_refl _)) (by have := tot_mem (List.mem_of_getElem? htj); omega))
    unfold recC at HCP
    rw [hpn] at c5 HCP
    subst hty
    clear hz hy htj e1 e2 hno hpn
    go_enter Try.func39, Try.ntmps39
    go_wp2_with fail
    rw [← hwx]
    refine (HKEY.out _).mono ?_
    rintro e wk ⟨rfl, bk⟩
    have BK : Below w.heap.size w wk := BX.trans (bk.mono (by omega))
    have bks := bk.size
    have hzk := (bk.block _ hsx).trans hq1
    clear hwx bk hq1 hq0
    go_wp2_with fail
    refine (HAT.out _ BK).mono ?_
    rintro e w1 ⟨rfl, b1⟩
    have B1 : Below w.heap.size w w1 := BK.trans (b1.mono (by omega))
    have b1s := b1.size
    have hz1 := (b1.block _ (lt_of_heap hzk)).trans hzk
    clear b1 hzk HAT HKEY
    rw [← B1.cell (p := ⟨b, off + j * 8, none⟩) hbw] at c0
    rw [← B1.cell (p := ⟨b, off + j * 8 + 1, none⟩) hbw] at c1
    rw [← B1.cell (p := ⟨b, off + j * 8 + 2, none⟩) hbw] at c2
    rw [← B1.cell (p := ⟨b, off + j * 8 + 3, none⟩) hbw] at c3
    rw [← B1.cell (p := ⟨b, off + j * 8 + 4, none⟩) hbw] at c4
    rw [← B1.cell (p := ⟨b, off + j * 8 + 5, none⟩) hbw] at c5
    rw [← B1.cell (p := ⟨b, off + j * 8 + 6, none⟩) hbw] at c6
    rw [← B1.cell (p := ⟨b, off + j * 8 + 7, none⟩) hbw] at c7
    have Z1 := hide hz1
    clear hz1
    go_wp2_with fail
    refine (HCP.out _ B1).mono ?_
    rintro e w2 ⟨v1, rfl, hn2, b2⟩
    obtain ⟨n1a, n1c, rfl⟩ := owns_lenS hn2
    have hz2 := (b2.block _ (lt_of_heap Z1.out)).trans Z1.out
    have b2s := b2.size
    have hzl := lt_of_heap Z1.out
    have u0 := cells_at hz2 0
    have u1 := cells_at hz2 1
    have u2 := cells_at hz2 2
    have u3 := cells_at hz2 3
    have u4 := cells_at hz2 4
    have u5 := cells_at hz2 5
    have u6 := cells_at hz2 6
    have u7 := cells_at hz2 7
    simp at u0 u1 u2 u3 u4 u5 u6 u7
    have fu := frozen_at hz2
    have FF := hide (fin85 t.1 (.slice n1a t.1.near.length n1c) hz2)
    have G8 := grown85 w2 (w.heap.size + 1) t.1 (.slice n1a t.1.near.length n1c)
    have O3 := hide (owns_baseS (b0 := w.heap.size) (hn2.kept G8 (by
      cases hv : (Value.slice n1a t.1.near.length n1c).ownBlock with
      | none => exact .inl rfl
      | some g => exact .inr (fun e => by have := (hn2.lt g hv).1; simp at e; omega))) (by omega))
    have B2 : Below w.heap.size w w2 := B1.trans (b2.mono (by omega))
    have BF := hide (B2.grown G8 (by omega) (fun k hk => by simp at hk; omega))
    clear hz2 hn2 b2 Z1 G8
    go_wp2_with fail
    (try simp only [Exit.inBlock, Exit.then])
    refine bodyPost_ret (results_cell_row_tmp5 rfl _ _ (w.heap.size + 1) 55 (recC t.1 (.slice n1a t.1.near.length n1c)) (0, 0) _ rfl FF.out Try.underlying55 rfl (by kernel_rfl)) rfl ?_
    exact ⟨_, rfl, O3.out, BF.out⟩

end Go.Proofs.Ytbmphbeocbgalaa
namespace Go.Proofs.Ytbmphbeocbgalaa
open Go.RowKit

set_option linter.unusedSimpArgs false

def nodeR (area node : Int) : RecD := ⟨area, 1, node, 0, 0, [], 0, false⟩

/-- a node's record of an area -/
def nodeD (xs : List RecD) (area node : Int) : RecD := findD xs (nodeR area node)

def nodeB (xs : List RecD) (area node : Int) : Bool := findB xs (nodeR area node)

/-- what a list of neighbours tells of b -/
def tellsN (ns : List Nr) (b : Int) : Int := match ns.find? (fun n => n.to == b) with
  | some n => n.c
  | none => 0

def tellsD (xs : List RecD) (area a b : Int) : Int := tellsN (nodeD xs area a).near b

def linkedD (xs : List RecD) (area a b : Int) : Int := if tellsD xs area b a = 0 then 0 else tellsD xs area a b

theorem nears_nil (W : World) (B : Nat) : NearsAt W (.slice none 0 0) [] B := ⟨none, 0, rfl, .inl rfl⟩

set_option maxRecDepth 100000 in
set_option maxHeartbeats 4000000 in
theorem snode_any (v : Value) (ps : List RP) (hi : Nat) (area node : Int) (w : World) (hv : RecsIn w hi v ps) (hhi : hi ≤ w.heap.size) (hn : tot ps ≤ 1048576) :
    Calls Try.prog 54 #[v, .int .i64 area, .int .i64 node] w fun e w' => ∃ u, e = .returned (.tuple #[.agg (recC (nodeD (fsts ps) area node) u), .bool (nodeB (fsts ps) area node)]) ∧ NearsAt w' u (nodeD (fsts ps) area node).near hi ∧ (nodeD (fsts ps) area node).near.length ≤ 1048576 ∧ Below w.heap.size w w' := by
  have hnl := tot_len ps
  obtain ⟨a1, c1, rfl⟩ := owns_lenS hv.row
  have BX : Below w.heap.size w (w.alloc (.cells #[.int .i64 0, .int .i64 0, .int .i64 0, .int .i64 0, .int .i64 0, .slice none 0 0, .int .i64 0, .bool false] 55)) := (Below.refl _ _).alloc (Nat.le_refl _) _
  have hq := heap_alloc_new w (.cells #[.int .i64 0, .int .i64 0, .int .i64 0, .int .i64 0, .int .i64 0, .slice none 0 0, .int .i64 0, .bool false] 55)
  obtain ⟨w0, hw0⟩ : ∃ W, W = w.alloc (.cells #[.int .i64 0, .int .i64 0, .int .i64 0, .int .i64 0, .int .i64 0, .slice none 0 0, .int .i64 0, .bool false] 55) := ⟨_, rfl⟩
  rw [← hw0] at BX hq
  have hs0 := lt_of_heap hq
  have HAT := hide (satI_any (.slice a1 ps.length c1) ps hi (nodeR area node, .slice none 0 0) w0 (hv.below BX hhi) (by have := BX.size; omega) hn)
  unfold recC nodeR at HAT
  simp only [] at HAT
  have HV := hide hv
  clear hv
  unfold nodeD nodeB
  obtain ⟨nr, hnr⟩ : ∃ r, r = nodeR area node := ⟨_, rfl⟩
  rw [show (⟨area, 1, node, 0, 0, [], 0, false⟩ : RecD) = nr from hnr.symm] at HAT
  rw [← hnr]
  clear hnr
  rcases atZ_cases (fsts ps) nr with hz | ⟨j, y, hz, hy, _⟩
  · obtain ⟨e1, e2⟩ := find_none hz
    rw [e1, e2]
    rw [hz] at HAT
    clear hz e1 e2
    unfold recC
    go_enter Try.func54, Try.ntmps54
    go_wp2_with fail
    rw [← hw0]
    clear hw0
    refine HAT.out.mono ?_
    rintro e w1 ⟨rfl, b1⟩
    have B1 : Below w.heap.size w w1 := BX.trans (b1.mono BX.size)
    have hz1 := (b1.block _ hs0).trans hq
    clear b1 hq HAT
    have u0 := cells_at hz1 0
    have u1 := cells_at hz1 1
    have u2 := cells_at hz1 2
    have u3 := cells_at hz1 3
    have u4 := cells_at hz1 4
    have u5 := cells_at hz1 5
    have u6 := cells_at hz1 6
    have u7 := cells_at hz1 7
    simp at u0 u1 u2 u3 u4 u5 u6 u7
    have fu := frozen_at hz1
    have FF := hide (fin85 zeroRD (.slice none 0 0) hz1)
    have G8 := hide (grown85 w1 w.heap.size zeroRD (.slice none 0 0))
    clear hz1
    go_wp2_with fail
    (try simp only [Exit.inBlock, Exit.then])
    refine bodyPost_ret (results_cell_row_tmp5 rfl _ _ w.heap.size 55 (recC zeroRD (.slice none 0 0)) (0, 0) _ rfl FF.out Try.underlying55 rfl (by kernel_rfl)) rfl ?_
    exact ⟨.slice none 0 0, rfl, nears_nil _ _, (by simp [zeroRD]), B1.grown G8.out B1.size (fun k hk => by simp at hk; omega)⟩
  · obtain ⟨e1, e2⟩ := find_at hz hy
    rw [e1, e2]
    obtain ⟨t, htj, hty⟩ := fsts_some5 hy
    have hjl : j < ps.length := (List.getElem?_eq_some_iff.1 htj).1
    have hji : (0 : Int) ≤ (j : Int) := by omega
    have hjj : (j : Int) < (ps.length : Int) := by omega
    have hj0 : ¬ (j : Int) < 0 := by omega
    rw [hz] at HAT
    obtain ⟨b, off, cp, hve, hbb, c0, c1, c2, c3, c4, c5, c6, c7, hnr⟩ := HV.out.at.cells j t htj
    cases hve
    have hbw : b < w.heap.size := by omega
    obtain ⟨pa, pc, hpn⟩ := NearsAt.shape hnr
    rw [hpn] at c5 hnr
    have HNL := hide (show t.1.near.length ≤ 1048576 by have := tot_mem (List.mem_of_getElem? htj); omega)
    have HNR := hide hnr
    subst hty
    clear hz hy htj e1 e2 hpn hnr
    unfold recC
    go_enter Try.func54, Try.ntmps54
    go_wp2_with fail
    rw [← hw0]
    clear hw0
    refine HAT.out.mono ?_
    rintro e w1 ⟨rfl, b1⟩
    have B1 : Below w.heap.size w w1 := BX.trans (b1.mono BX.size)
    have hz1 := (b1.block _ hs0).trans hq
    clear b1 hq HAT
    rw [← B1.cell (p := ⟨b, off + j * 8, none⟩) hbw] at c0
    rw [← B1.cell (p := ⟨b, off + j * 8 + 1, none⟩) hbw] at c1
    rw [← B1.cell (p := ⟨b, off + j * 8 + 2, none⟩) hbw] at c2
    rw [← B1.cell (p := ⟨b, off + j * 8 + 3, none⟩) hbw] at c3
    rw [← B1.cell (p := ⟨b, off + j * 8 + 4, none⟩) hbw] at c4
    rw [← B1.cell (p := ⟨b, off + j * 8 + 5, none⟩) hbw] at c5
    rw [← B1.cell (p := ⟨b, off + j * 8 + 6, none⟩) hbw] at c6
    rw [← B1.cell (p := ⟨b, off + j * 8 + 7, none⟩) hbw] at c7
    obtain ⟨z, hzz⟩ : ∃ z, z = w.heap.size := ⟨_, rfl⟩
    rw [← hzz] at hz1 ⊢
    have HZ := hide hzz
    clear hzz
    have u0 := cells_at hz1 0
    have u1 := cells_at hz1 1
    have u2 := cells_at hz1 2
    have u3 := cells_at hz1 3
    have u4 := cells_at hz1 4
    have u5 := cells_at hz1 5
    have u6 := cells_at hz1 6
    have u7 := cells_at hz1 7
    simp at u0 u1 u2 u3 u4 u5 u6 u7
    have fu := frozen_at hz1
    have HZ1 := hide hz1
    have FIN : ∀ W, W = putR5 w1 z t.1 (.slice pa t.1.near.length pc) → NearsAt W (.slice pa t.1.near.length pc) t.1.near hi ∧ Below w.heap.size w W := by
      intro W hW
      have G8 := grown85 w1 z t.1 (.slice pa t.1.near.length pc)
      rw [← hW] at G8
      have BF : Below w.heap.size w W := B1.grown G8 B1.size (fun k hk => by have := HZ.out; simp at hk; omega)
      exact ⟨RowAt.later HNR.out BF hhi, BF⟩
    have HFIN := hide FIN
    clear hz1 FIN HNR B1 HV BX hs0 hjl hbb hbw
    go_wp2_with fail
    (try simp only [Exit.inBlock, Exit.then])
    refine bodyPost_ret (results_cell_row_tmp5 rfl _ _ z 55 (recC t.1 (.slice pa t.1.near.length pc)) (0, 0) _ rfl (fin85 t.1 (.slice pa t.1.near.length pc) HZ1.out) Try.underlying55 rfl (by kernel_rfl)) rfl ?_
    obtain ⟨W5, hW5⟩ : ∃ W, W = putR5 w1 z t.1 (.slice pa t.1.near.length pc) := ⟨_, rfl⟩
    have h := HFIN.out W5 hW5
    subst hW5
    exact ⟨_, rfl, h.1, HNL.out, h.2⟩

theorem tells_hit {ns : List Nr} {k : Nat} {n : Nr} {b : Int} (h : ns[k]? = some n) (hno : ∀ q ∈ ns.take k, q.to ≠ b) (hb : n.to = b) : tellsN ns b = n.c := by
  have e : ns.find? (fun x => x.to == b) = some n := by
    obtain ⟨hk, e1⟩ := List.getElem?_eq_some_iff.1 h
    rw [List.find?_eq_some_iff_append]
    refine ⟨by simpa using hb, ns.take k, ns.drop (k + 1), ?_, ?_⟩
    · rw [← e1, ← List.drop_eq_getElem_cons hk, List.take_append_drop]
    · intro x hx
      simpa using hno x hx
  unfold tellsN
  rw [e]

theorem tells_none {ns : List Nr} {b : Int} (hno : ∀ q ∈ ns, q.to ≠ b) : tellsN ns b = 0 := by
  have e : ns.find? (fun x => x.to == b) = none := by
    rw [List.find?_eq_none]
    intro x hx
    simpa using hno x hx
  unfold tellsN
  rw [e]

theorem take_allN {ns : List Nr} {k : Nat} {n : Nr} {b : Int} (h : ns[k]? = some n) (hno : ∀ q ∈ ns.take k, q.to ≠ b) (hz : n.to ≠ b) : ∀ q ∈ ns.take (k + 1), q.to ≠ b := by
  obtain ⟨hk, e⟩ := List.getElem?_eq_some_iff.1 h
  rw [List.take_succ_eq_append_getElem hk, e]
  intro q hq
  rcases List.mem_append.1 hq with h1 | h1
  · exact hno q h1
  · have : q = n := by simpa using h1
    subst this
    exact hz

set_option maxRecDepth 100000 in
set_option maxHeartbeats 4000000 in
theorem stells_any (v : Value) (ps : List RP) (hi : Nat) (area a b : Int) (w : World) (hv : RecsIn w hi v ps) (hhi : hi ≤ w.heap.size) (hn : tot ps ≤ 1048576) :
    Calls Try.prog 86 #[v, .int .i64 area, .int .i64 a, .int .i64 b] w fun e w' => e = .returned (.int .i64 (tellsD (fsts ps) area a b)) ∧ Below w.heap.size w w' := by
  have HNO := hide (snode_any v ps hi area a w hv hhi hn)
  obtain ⟨a1, c1, rfl⟩ := owns_lenS hv.row
  clear hv
  unfold tellsD
  obtain ⟨D, hD⟩ : ∃ D, D = nodeD (fsts ps) area a := ⟨_, rfl⟩
  rw [← hD] at HNO
  rw [← hD]
  clear hD
  obtain ⟨X, hX⟩ : ∃ X, X = tellsN D.near b := ⟨_, rfl⟩
  rw [← hX]
  have HX := hide hX
  clear hX
  unfold recC at HNO
  go_enter Try.func86, Try.ntmps86
  go_wp2_with fail
  refine HNO.out.mono ?_
  rintro e w1 ⟨u, rfl, hu, hul, b1⟩
  obtain ⟨ua, uc, rfl⟩ := NearsAt.shape hu
  have hx := heap_alloc_new w1 (.cells #[.int .i64 D.area, .int .i64 D.kind, .int .i64 D.owner, .int .i64 D.key, .int .i64 D.seq, .slice ua D.near.length uc, .int .i64 D.cost, .bool D.far] 55)
  have BX : Below w1.heap.size w1 (w1.alloc (.cells #[.int .i64 D.area, .int .i64 D.kind, .int .i64 D.owner, .int .i64 D.key, .int .i64 D.seq, .slice ua D.near.length uc, .int .i64 D.cost, .bool D.far] 55)) := (Below.refl _ _).alloc (Nat.le_refl _) _
  obtain ⟨w2, hw2⟩ : ∃ W, W = w1.alloc (.cells #[.int .i64 D.area, .int .i64 D.kind, .int .i64 D.owner, .int .i64 D.key, .int .i64 D.seq, .slice ua D.near.length uc, .int .i64 D.cost, .bool D.far] 55) := ⟨_, rfl⟩
  rw [← hw2] at hx BX
  have B2 : Below w.heap.size w w2 := b1.trans (BX.mono b1.size)
  have HU : Hid (NearsAt w2 (.slice ua D.near.length uc) D.near w2.heap.size) := hide ((RowAt.later hu BX (Nat.le_trans hhi b1.size)).more (Nat.le_trans hhi B2.size))
  have hs2 := lt_of_heap hx
  have HXX := hide hx
  clear hu hx
  go_wp2
  rw [← hw2]
  clear hw2
  go_loopw [11] (fun i wr => ∃ k : Nat, k ≤ D.near.length ∧ i = .int .i64 k ∧ Hid (∀ q ∈ D.near.take k, q.to ≠ b) ∧ Below w2.heap.size w2 wr) (fun i _ => D.near.length - (intOf i).toNat)
  case atStart => exact ⟨0, by omega, rfl, hide (by simp), Below.refl _ _⟩
  case round =>
    obtain ⟨k, hk, rfl, HNN, hnx⟩ := hrel
    have hx2 := (hnx.block _ hs2).trans HXX.out
    have d5 := cells_at hx2 5
    simp at d5
    clear hx2
    have BWR : Below w.heap.size w wr := B2.trans (hnx.mono B2.size)
    by_cases hlt : k < D.near.length
    · obtain ⟨n, hnk⟩ : ∃ n, D.near[k]? = some n := ⟨D.near[k], List.getElem?_eq_getElem hlt⟩
      obtain ⟨g, off, cap', hve, hbb, c0, c1⟩ := HU.out.cells k n hnk
      cases hve
      rw [← hnx.cell (p := ⟨g, off + k * 2, none⟩) hbb] at c0
      rw [← hnx.cell (p := ⟨g, off + k * 2 + 1, none⟩) hbb] at c1
      have hki : (0 : Int) ≤ (k : Int) := by omega
      have hkj : (k : Int) < (D.near.length : Int) := by omega
      by_cases hzz : n.to = b
      · have HF := hide (HX.out.trans (tells_hit hnk HNN.out hzz))
        rw [hzz] at c0
        clear hnk hzz
        go_wp2
        go_ret
        exact ⟨by rw [HF.out]; rfl, BWR⟩
      · have HN := hide (take_allN hnk HNN.out hzz)
        have hd : (n.to == b) = false := by simpa using hzz
        clear hnk
        go_wp2
        go_roundw
        case rel => exact ⟨k + 1, by omega, by go_num, HN, hnx⟩
        case measure => simp [intOf]; omega
    · have HF := hide (HX.out.trans (tells_none (by have h := HNN.out; rw [List.take_of_length_le (by omega)] at h; exact h)))
      go_wp2
      go_ret
      exact ⟨by rw [HF.out]; rfl, BWR⟩
end Go.Proofs.Ytbmphbeocbgalaa
