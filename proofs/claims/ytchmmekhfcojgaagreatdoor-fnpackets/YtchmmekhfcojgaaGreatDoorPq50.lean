/-
  laws.FnExactReadPacket: its walk.
  One byte turned: not unsealed. A text sealed: unsealed as it was.
  '[]byte(t)': a new row (cut out of Turned).
  spec.DrawPlaces: some twelve numbers (DrawSum's, over the draws of nets and records).
  laws.sameInts: its contract.
-/
import Derived.Test.YtchmmekhfcojgaaGreatDoorPq49
import Derived.Test.YtchmmekhfcojgaaGreatDoorPq3
import Derived.Test.YtchmmekhfcojgaaGreatDoorPq10
import Derived.Stop.LaidErr
import Derived.MakeChecks
import Derived.WalkSmall
import Derived.OpenShut
import Derived.Test.YtchmmekhfcojgaaGreatDoorPq36
import Derived.Test.YtchmmekhfcojgaaGreatDoorPq12
import Derived.Test.YtchmmekhfcojgaaGreatDoorPq24
import Derived.Test.YtchmmekhfcojgaaGreatDoorPq9
namespace Go.Proofs.YtchmmekhfcojgaaGreatDoor
open Go.RowKit

set_option linter.unusedSimpArgs false

theorem srp_any (T : ByteArray) (w : World) (hT : T.size ≤ 1048576) :
    Calls Tryz.prog 13 #[.string T] w fun e w' => ∃ x' v1 v2 ps m b, e = .returned (.tuple #[pkV x' v1 v2, .bool b]) ∧ RpRes T x' (fsts ps) b ∧ PkOwn w' w.heap.size w'.heap.size v1 v2 x' ps m ∧ Below w.heap.size w w' := by
  by_cases h : ∃ y ys, pkB y ys = true ∧ T = sealB (pkL y ys)
  · obtain ⟨y, ys, h1, h2⟩ := h
    exact srp_core T y ys True (fun _ => ⟨h1, h2⟩) (fun k => absurd trivial k) w hT
  · exact srp_core T zeroPk [] False (fun k => absurd k id) (fun _ y ys h1 h2 => h ⟨y, ys, h1, h2⟩) w hT

theorem rp_small {T : ByteArray} {x : PkD} {ps : List RP} {b : Bool} (h : RpRes T x (fsts ps) b) : totP x ps ≤ 1048576 := by
  obtain ⟨h1, h2, h3⟩ := h.small
  have h4 := tot_small h3
  have h5 : (fsts ps).length = ps.length := by simp [fsts]
  unfold totP
  omega

end Go.Proofs.YtchmmekhfcojgaaGreatDoor
namespace Go.Proofs.YtchmmekhfcojgaaGreatDoor
open Go.RowKit

theorem ba_ext {a b : ByteArray} (h : a.data.toList = b.data.toList) : a = b := by
  cases a
  cases b
  congr 1
  exact Array.toList_inj.1 h

theorem ext_list (s : ByteArray) (a b : Nat) : (s.extract a b).data.toList = (s.data.toList.take b).drop a := by
  simp [List.extract_eq_take_drop, List.drop_take]

theorem size_list (s : ByteArray) : s.size = s.data.toList.length := by simp

theorem unT_list (s : ByteArray) (n : Nat) : unT s n ↔ s.data.toList.drop n = fourL (upL 4294967295 (s.data.toList.take n)) := by
  unfold unT sumS
  rw [ext_list]
  constructor
  · intro h
    have := congrArg (fun b : ByteArray => b.data.toList) h
    simp only [ext_list] at this
    rw [size_list, List.take_length] at this
    simpa [bs] using this
  · intro h
    apply ba_ext
    rw [ext_list, size_list, List.take_length, h]
    simp [bs]

theorem seal_listT (s : ByteArray) : (s ++ bs (fourL (sumS s))).data.toList = s.data.toList ++ fourL (upL 4294967295 s.data.toList) := by
  simp [bs, sumS]

theorem un_sealT (s t : ByteArray) (ht : t = s ++ bs (fourL (sumS s))) (hs : s.size ≤ 20000) : unV t = .tuple #[.string s, .bool true] := by
  have hl : t.data.toList = s.data.toList ++ fourL (upL 4294967295 s.data.toList) := by rw [ht, seal_listT]
  have hz : t.size = s.size + 4 := by rw [size_list, hl, size_list]; simp [fourL_len]
  have hn : t.size - 4 = s.data.toList.length := by rw [hz, size_list]; omega
  have e : t.extract 0 (t.size - 4) = s := by
    apply ba_ext
    rw [ext_list, hn, hl]
    simp
  rw [unV_yes (by omega) (by omega) ?_, e]
  · rw [unT_list, hn, hl]
    simp

theorem set_ne {l : List UInt8} {i : Nat} {c : UInt8} (hi : i < l.length) (hc : c ≠ l[i]) : l.set i c ≠ l := by
  intro h
  have := congrArg (fun x : List UInt8 => x[i]?) h
  simp [hi] at this
  exact hc this

theorem set_split (l : List UInt8) (i : Nat) (c : UInt8) (hi : i < l.length) : l = l.take i ++ l[i] :: l.drop (i + 1) ∧ l.set i c = l.take i ++ c :: l.drop (i + 1) := by
  constructor
  · simp
  · exact List.set_eq_take_append_cons_drop.trans (by rw [if_pos hi])

theorem turned_no (s t : ByteArray) (i : Nat) (c : UInt8) (hi : i < s.size + 4)
    (hl : t.data.toList = (s.data.toList ++ fourL (upL 4294967295 s.data.toList)).set i c)
    (hc : ∀ h : i < (s.data.toList ++ fourL (upL 4294967295 s.data.toList)).length, c ≠ (s.data.toList ++ fourL (upL 4294967295 s.data.toList))[i]) : unV t = .tuple #[.string (bs []), .bool false] := by
  apply unV_no
  rintro ⟨h1, h2, h3⟩
  have hsz := size_list s
  generalize s.data.toList = sl at *
  have hz : t.size = sl.length + 4 := by rw [size_list, hl]; simp [fourL_len]
  have hn : t.size - 4 = sl.length := by omega
  rw [unT_list, hn, hl] at h3
  have hlen : i < (sl ++ fourL (upL 4294967295 sl)).length := by simp [fourL_len]; omega
  have hc' := hc hlen
  by_cases hin : i < sl.length
  · rw [List.set_append_left _ _ hin] at h3
    have e1 : (sl.set i c ++ fourL (upL 4294967295 sl)).drop sl.length = fourL (upL 4294967295 sl) := by
      rw [List.drop_append_of_le_length (by simp), List.drop_eq_nil_of_le (by simp)]
      rfl
    have e2 : (sl.set i c ++ fourL (upL 4294967295 sl)).take sl.length = sl.set i c := by
      rw [List.take_append_of_le_length (by simp), List.take_of_length_le (by simp)]
    rw [e1, e2] at h3
    have e3 := fourL_inj (upL_lt _ _ (by omega)) (upL_lt _ _ (by omega)) h3
    obtain ⟨k1, k2⟩ := set_split sl i c hin
    rw [k2] at e3
    have e4 : upL 4294967295 (sl.take i ++ sl[i] :: sl.drop (i + 1)) = upL 4294967295 (sl.take i ++ c :: sl.drop (i + 1)) := by rw [← k1]; exact e3
    have := upL_turn _ _ _ _ _ (by omega) e4
    rw [List.getElem_append_left hin] at hc'
    exact hc' this.symm
  · rw [List.set_append_right _ _ (by omega)] at h3
    have e1 : (sl ++ (fourL (upL 4294967295 sl)).set (i - sl.length) c).drop sl.length = (fourL (upL 4294967295 sl)).set (i - sl.length) c := by simp
    have e2 : (sl ++ (fourL (upL 4294967295 sl)).set (i - sl.length) c).take sl.length = sl := by simp
    rw [e1, e2] at h3
    rw [List.getElem_append_right (by omega)] at hc'
    exact set_ne (by rw [fourL_len]; omega) hc' h3

theorem xor_u8 (b : UInt8) (c : Nat) (hc : c < 256) : bits .xor .u8 (b.toNat : Int) (c : Int) = ((b ^^^ UInt8.ofNat c).toNat : Int) := by
  have e : bits .xor .u8 (b.toNat : Int) (c : Int) = IntKind.u8.wrap ((BitVec.ofInt 8 (b.toNat : Int) ^^^ BitVec.ofInt 8 (c : Int)).toNat : Nat) := rfl
  have hb := b.toNat_lt
  have h : b.toNat ^^^ c < 256 := Nat.xor_lt_two_pow (n := 8) hb hc
  rw [e, BitVec.toNat_xor]
  simp only [BitVec.ofInt_natCast, BitVec.toNat_ofNat]
  rw [Nat.mod_eq_of_lt hb, Nat.mod_eq_of_lt hc]
  simp only [UInt8.toNat_xor, UInt8.toNat_ofNat']
  rw [Nat.mod_eq_of_lt hc]
  simp only [IntKind.wrap, IntKind.signed, IntKind.bits]
  simp
  omega

theorem xor_ne (b : UInt8) (c : Nat) (h0 : 0 < c) (hc : c < 256) : b ^^^ UInt8.ofNat c ≠ b := by
  intro h
  have h2 := congrArg UInt8.toNat h
  rw [UInt8.toNat_xor, UInt8.toNat_ofNat', Nat.mod_eq_of_lt hc] at h2
  have h3 : b.toNat ^^^ (b.toNat ^^^ c) = b.toNat ^^^ b.toNat := by rw [h2]
  rw [← Nat.xor_assoc, Nat.xor_self, Nat.zero_xor] at h3
  omega

end Go.Proofs.YtchmmekhfcojgaaGreatDoor
namespace Go.Proofs.YtchmmekhfcojgaaGreatDoor
open Go.RowKit

/-- '[]byte(t)': a new row -/
theorem bytes_of (t : ByteArray) (w : World) : ∃ (C : Nat) (W : World), (convert 9 22 (.string t)).run Tryz.prog w = .ok (.slice (some ⟨w.heap.size, 0, none⟩) t.size C) W ∧
    (∀ j (h : j < t.size), W.cell? ⟨w.heap.size, j, none⟩ = some (.int .u8 (t[j].toNat : Int))) ∧ (∀ j, j < t.size → W.frozen? ⟨w.heap.size, j, none⟩ = false) ∧ Below w.heap.size w W ∧ w.heap.size < W.heap.size := by
  refine ⟨_, _, run_bytes_of_string w 9 22 5 t Tryz.underlying9 Tryz.underlying22 Tryz.underlying5, ?_, ?_, ?_, ?_⟩
  · intro j h
    generalize grownCap w t.size 0 5 = C
    have e : (w.drew.alloc (.cells (bytesRow t C) 5 ((bytesRow t C).size, (bytesRow t C).size + 1))).heap[w.heap.size]? = some (.cells (bytesRow t C) 5 ((bytesRow t C).size, (bytesRow t C).size + 1)) := heap_alloc_new w.drew _
    simp only [World.cell?, e]
    exact bytesRow_at t C j h
  · intro j h
    generalize grownCap w t.size 0 5 = C
    have e : (w.drew.alloc (.cells (bytesRow t C) 5 ((bytesRow t C).size, (bytesRow t C).size + 1))).heap[w.heap.size]? = some (.cells (bytesRow t C) 5 ((bytesRow t C).size, (bytesRow t C).size + 1)) := heap_alloc_new w.drew _
    have hz : t.size ≤ (bytesRow t C).size := by simp [bytesRow]
    simp only [World.frozen?, e]
    simp
    omega
  · exact (Below.refl w.heap.size w).drew.alloc (Nat.le_refl _) _
  · simp

end Go.Proofs.YtchmmekhfcojgaaGreatDoor
namespace Go.Proofs.YtchmmekhfcojgaaGreatDoor
open Go.RowKit

set_option maxRecDepth 100000 in
set_option maxHeartbeats 1000000 in
theorem drawPlaces_any (a : Option Addr) (len cap : Nat) (w : World) (hc : Code w a len w.heap.size) :
    Calls Tryz.prog 11 #[.slice a len cap] w fun e w' => ∃ (v : Value) (l : List Int), e = .returned v ∧ l.length = 12 ∧ (∀ z ∈ l, 0 ≤ z ∧ z ≤ 9999) ∧ w'.ownsRow w.heap.size 3 1 v 12 (intsOf l) ∧ Below w.heap.size w w' := by
  have HC := hide hc
  clear hc
  go_enter Tryz.func11, Tryz.ntmps11
  go_wp2_with fail
  refine (new_any a len cap _ HC.out).mono ?_
  rintro e w1 ⟨rfl, hc1, hb1⟩
  have hp1 := lt_of_cur hc1
  have HC1 := hide hc1
  clear hc1
  go_wp2_with fail
  refine (byte_any w.heap.size a len cap _ HC1.out).mono ?_
  rintro e w2 ⟨x0, rfl, _, _, hc2, hg2⟩
  have hb2 := hb1.trans (below_of_grown hg2 (by omega))
  have hp2 := lt_of_cur hc2
  have HC2 := hide hc2
  clear hc2 hg2 hb1 HC1
  go_wp2
  go_loopw [4, 5] (fun v i wr => ∃ (k : Nat) (l : List Int), k ≤ 12 ∧ i = .int .i64 k ∧ l.length = k ∧ (∀ z ∈ l, 0 ≤ z ∧ z ≤ 9999) ∧ wr.ownsRow w2.heap.size 3 1 v l.length (intsOf l) ∧ Cur wr w.heap.size a len cap ∧ Below w.heap.size w wr ∧ w2.heap.size ≤ wr.heap.size) (fun _ i _ => 12 - (intOf i).toNat)
  case atStart =>
    refine ⟨0, [], by omega, rfl, rfl, by simp, ?_, ?_, hb2.alloc (by omega) _, by simp⟩
    · exact World.ownsRow_lit _ _ 0 (by simp) (by decide) rfl
    · exact cur_alloc HC2.out _
  case round =>
    obtain ⟨k, l, hk, rfl, hlk, hall, hown, hcr, hnx, hsz⟩ := hrel
    have HLK := hide hlk
    have hll : l.length ≤ k := by omega
    have HALL := hide hall
    clear hlk hall
    by_cases hlt : k < 12
    · have OW := hide hown
      have CR := hide hcr
      clear hown hcr
      go_wp2_with fail
      refine (below_any w.heap.size a len cap _ _ CR.out (by omega) (by omega)).mono ?_
      rintro e w3 ⟨x, rfl, hx0, hx1, hc1, hg1⟩
      have hown1 : w3.ownsRow w2.heap.size 3 1 u4 l.length (intsOf l) := OW.out.kept hg1 (by
        rcases OW.out.2 with ⟨e, _⟩ | ⟨g, cp, cur, e, hb, _⟩
        · exact .inl (by rw [e]; rfl)
        · refine .inr ?_
          rw [e]
          intro h
          simp [Value.ownBlock] at h
          omega)
      have hb1 : Below w.heap.size w w3 := hnx.grown hg1 (by omega) (fun k hk => by simp at hk; omega)
      have hs1 : w2.heap.size ≤ w3.heap.size := Nat.le_trans hsz hg1.size
      have HC1 := hide hc1
      clear hc1 hg1
      go_wp2_with (first
        | (at_builtin; refine wpList_append_int _ rfl _ _ 24 rfl w2.heap.size 3 Tryz.underlying24 Tryz.info3 u4 l x rfl (hown1.alloc _) ⟨w3.heap.size, 0, none⟩ 1 rfl ?_ (by omega) (by simp; omega) ?_))
      · rw [add_zero', World.cell?_alloc_at _ _ _ _ rfl]; rfl
      intro v' w4 l' hl' hown' hgrow
      have hc2 := HC1.out.appended _ hown1 hp2 hgrow
      have hb2' : Below w.heap.size w w4 := (hb1.alloc (by omega) _).grown hgrow (by simp; omega) (fun k hk => by have := (hown1.lt k hk).1; omega)
      have hs2 : w2.heap.size ≤ w4.heap.size := by have := hgrow.size; simp at this; omega
      have HC2' := hide hc2
      have OW2 := hide hown'
      clear hgrow hown1 hown' hc2
      go_wp2
      go_roundw
      case rel => exact ⟨k + 1, l', by omega, by go_num, by rw [hl'.out]; simp [HLK.out], (by
          rw [hl'.out]; intro z hz
          rcases List.mem_append.1 hz with h | h
          · exact HALL.out z h
          · simp at h; subst h; omega), OW2.out, HC2'.out, hb2', hs2⟩
      case measure => simp [intOf]; omega
    · have CR := hide hcr
      have OW := hide hown
      clear hcr hown
      go_wp2
      go_ret
      have e12 : l.length = 12 := by have := HLK.out; omega
      refine ⟨_, l, rfl, e12, HALL.out, ?_, hnx⟩
      have h3 := OW.out
      rw [e12] at h3
      exact owns_base h3 (by omega)
end Go.Proofs.YtchmmekhfcojgaaGreatDoor
namespace Go.Proofs.YtchmmekhfcojgaaGreatDoor
open Go.RowKit

set_option maxRecDepth 100000 in
set_option maxHeartbeats 1000000 in
theorem sameI_any (v1 v2 : Value) (xs ys : List Int) (w : World) (h1 : IntsAt w v1 xs w.heap.size) (h2 : IntsAt w v2 ys w.heap.size) (hn : xs.length ≤ 1048576) :
    Calls Tryz.prog 9 #[v1, v2] w fun e w' => e = .returned (.bool (decide (xs = ys))) ∧ Below w.heap.size w w' := by
  obtain ⟨a1, c1, rfl, k1⟩ := h1
  obtain ⟨a2, c2, rfl, k2⟩ := h2
  by_cases hl : xs.length = ys.length
  · have K1 := hide k1
    have K2 := hide k2
    clear k1 k2
    go_enter Tryz.func9, Tryz.ntmps9
    go_wp2
    go_loopw [5] (fun i wr => ∃ k : Nat, k ≤ xs.length ∧ i = .int .i64 k ∧ (∀ j, j < k → xs.getD j 0 = ys.getD j 0) ∧ Below w.heap.size w wr) (fun i _ => xs.length - (intOf i).toNat)
    case atStart => exact ⟨0, by omega, rfl, by omega, Below.refl _ _⟩
    case round =>
      obtain ⟨k, hk, rfl, hall, hnx⟩ := hrel
      have HALL := hide hall
      clear hall
      by_cases hlt : k < xs.length
      · obtain ⟨b1, o1, ha1, hb1, d1⟩ : ∃ b1 o1, a1 = some ⟨b1, o1, none⟩ ∧ b1 < w.heap.size ∧ wr.cell? ⟨b1, o1 + k, none⟩ = some (.int .i64 (xs.getD k 0)) := by
          rcases K1.out with h0 | ⟨b, off, ha, hb, hx⟩
          · omega
          · exact ⟨b, off, ha, hb, by rw [hnx.cell (p := ⟨b, off + k, none⟩) hb, hx k (by omega)]; rfl⟩
        obtain ⟨b2, o2, ha2, hb2, d2⟩ : ∃ b2 o2, a2 = some ⟨b2, o2, none⟩ ∧ b2 < w.heap.size ∧ wr.cell? ⟨b2, o2 + k, none⟩ = some (.int .i64 (ys.getD k 0)) := by
          rcases K2.out with h0 | ⟨b, off, ha, hb, hx⟩
          · omega
          · exact ⟨b, off, ha, hb, by rw [hnx.cell (p := ⟨b, off + k, none⟩) hb, hx k (by omega)]; rfl⟩
        subst ha1 ha2
        have hki : (0 : Int) ≤ (k : Int) := by omega
        have hkj : (k : Int) < (xs.length : Int) := by omega
        have hkl : (k : Int) < (ys.length : Int) := by omega
        obtain ⟨x, hx⟩ : ∃ x, x = xs.getD k 0 := ⟨_, rfl⟩
        obtain ⟨y, hy⟩ : ∃ y, y = ys.getD k 0 := ⟨_, rfl⟩
        rw [← hx] at d1
        rw [← hy] at d2
        have HX := hide hx
        have HY := hide hy
        clear hx hy
        by_cases hxy : x = y
        · subst hxy
          go_wp2
          go_quiet (fail)
          go_wp2
          go_roundw
          case rel => exact ⟨k + 1, by omega, by go_num, (fun j hj => by
            by_cases e : j = k
            · subst e; rw [← HX.out, ← HY.out]
            · exact HALL.out j (by omega)), below_drewN hnx _⟩
          case measure => simp [intOf]; omega
        · have hd : (x != y) = true := by simpa using hxy
          go_wp2
          go_quiet (fail)
          go_wp2
          go_ret
          exact ⟨ret_bool_no (list_ne_at (k := k) (by rw [← HX.out, ← HY.out]; exact hxy)), below_drewN hnx _⟩
      · have hkn : k = xs.length := by omega
        have KN := hide hkn
        clear hkn
        go_wp2
        go_ret
        exact ⟨ret_bool_yes (list_eq_all hl (by rw [← KN.out]; exact HALL.out)), hnx⟩
  · clear k1 k2
    have hd : ((xs.length : Int) != (ys.length : Int)) = true := by simp; omega
    go_enter Tryz.func9, Tryz.ntmps9
    go_wp2
    go_ret
    exact ⟨ret_bool_no (fun h => hl (by rw [h])), Below.refl _ _⟩

end Go.Proofs.YtchmmekhfcojgaaGreatDoor
