/-
  laws.szNet, toNet, eqNet: their contracts.
  'append(out, x)' of a struct of four cells, out a row that the call itself made.
  impl.PartsOf: its contract.
  spec.l14Lines: its contract.
-/
import Derived.Test.YtpiookjdeopmgaaDoorRd7
namespace Go.Proofs.YtpiookjdeopmgaaDoor
open Go.RowKit

structure NetD where
  n : Int
  ls : List Lk
  ts : List Th
  deriving DecidableEq

/-- the value v is the net x, whose rows lie below B -/
def NetAt (W : World) (v : Value) (x : NetD) (B : Nat) : Prop := ∃ v1 v2, v = .agg #[.int .i64 x.n, v1, v2] ∧ LinksAt W v1 x.ls B ∧ ThingsAt W v2 x.ts B

theorem NetAt.then {W W' : World} {v : Value} {x : NetD} (h : NetAt W v x W.heap.size) (hb : Below W.heap.size W W') : NetAt W' v x W'.heap.size := by
  obtain ⟨v1, v2, hv, h1, h2⟩ := h
  exact ⟨v1, v2, hv, h1.then hb, h2.then hb⟩

set_option maxRecDepth 100000 in
set_option maxHeartbeats 1000000 in
theorem eqNet_any (v1 v2 : Value) (x y : NetD) (w : World) (h1 : NetAt w v1 x w.heap.size) (h2 : NetAt w v2 y w.heap.size) (hl : x.ls.length ≤ 1048576) (ht : x.ts.length ≤ 1048576) :
    Calls Tryd.prog 7 #[v1, v2] w fun e w' => e = .returned (.bool (decide (x = y))) ∧ Below w.heap.size w w' := by
  obtain ⟨n, ls, ts⟩ := x
  obtain ⟨m, ls', ts'⟩ := y
  obtain ⟨a1, a2, rfl, k1, k2⟩ := h1
  obtain ⟨b1, b2, rfl, j1, j2⟩ := h2
  have K1 := hide k1
  have K2 := hide k2
  have J1 := hide j1
  have J2 := hide j2
  clear k1 k2 j1 j2
  by_cases hnm : n = m
  · subst hnm
    go_enter Tryd.func7, Tryd.ntmps7
    go_wp2_with fail
    refine (eqLinkS_any a1 b1 ls ls' _ (K1.out.then (below_two _ _)) (J1.out.then (below_two _ _)) hl).mono ?_
    rintro e w1 ⟨rfl, bb1⟩
    have bw1 : Below w.heap.size w w1 := (below_two _ _).trans (bb1.mono (by simp; omega))
    have hw0 : w1.heap[w.heap.size]? = some (.cells #[.int .i64 n, a1, a2] 25) := by
      rw [bb1.block _ (by simp; omega), Below.heap_alloc _ _ _ (by simp), heap_alloc_new]
    have hw1 : w1.heap[w.heap.size + 1]? = some (.cells #[.int .i64 n, b1, b2] 25) := by
      rw [bb1.block _ (by simp)]
      have := heap_alloc_new (w.alloc (.cells #[.int .i64 n, a1, a2] 25)) (.cells #[.int .i64 n, b1, b2] 25)
      simpa using this
    have s1 := cells_at hw0 2
    have s2 := cells_at hw1 2
    simp at s1 s2
    clear bb1 hw0 hw1
    by_cases hls : ls = ls'
    · subst hls
      have hd : decide (ls = ls) = true := by simp
      rw [hd]
      clear hd
      go_wp2_with fail
      refine (eqThingS_any a2 b2 ts ts' _ (K2.out.then bw1) (J2.out.then bw1) ht).mono ?_
      rintro e w2 ⟨rfl, bb2⟩
      have bw2 : Below w.heap.size w w2 := bw1.trans (bb2.mono bw1.size)
      by_cases hts : ts = ts'
      · subst hts
        have hd : decide (ts = ts) = true := by simp
        rw [hd]
        clear hd
        go_wp2
        go_ret
        exact ⟨by simp, bw2⟩
      · rw [decide_eq_false hts]
        have hne : decide (({ n := n, ls := ls, ts := ts } : NetD) = { n := n, ls := ls, ts := ts' }) = false := decide_eq_false (fun h => by cases h; exact hts rfl)
        have HNE := hide hne
        clear hne
        go_wp2
        go_ret
        exact ⟨by rw [HNE.out]; rfl, bw2⟩
    · rw [decide_eq_false hls]
      have hne : decide (({ n := n, ls := ls, ts := ts } : NetD) = { n := n, ls := ls', ts := ts' }) = false := decide_eq_false (fun h => by cases h; exact hls rfl)
      have HNE := hide hne
      clear hne
      go_wp2
      go_ret
      exact ⟨by rw [HNE.out]; rfl, bw1⟩
  · have hd : (n != m) = true := by simpa using hnm
    have hne : decide (({ n := n, ls := ls, ts := ts } : NetD) = { n := m, ls := ls', ts := ts' }) = false := decide_eq_false (fun h => by cases h; exact hnm rfl)
    rw [hne]
    clear hne
    go_enter Tryd.func7, Tryd.ntmps7
    go_wp2
    go_ret
    exact ⟨rfl, below_two _ _⟩
end Go.Proofs.YtpiookjdeopmgaaDoor
namespace Go.Proofs.YtpiookjdeopmgaaDoor
open Go.RowKit

end Go.Proofs.YtpiookjdeopmgaaDoor
namespace Go.Proofs.YtpiookjdeopmgaaDoor
open Go.RowKit

set_option maxHeartbeats 400000 in
theorem cloneP_any (s : ByteArray) (w : World) (hs : s.size ≤ 1048576) : Calls Tryd.prog 98 #[.string s] w fun e w' => e = .returned (.string s) ∧ Below w.heap.size w w' := by
  go_enter Tryd.func98, Tryd.ntmps98
  go_wp2_with (first | (go_at_call 113; refine (Tryd.stringslite_Clone _ _ (by omega)).mono ?_; rintro e w' ⟨rfl, hb⟩))
  go_ret
  exact ⟨rfl, hb⟩

theorem fields_size (s : List UInt8) : ∀ l cur x, x ∈ Lib.fieldsGo cur l → cur.length + l.length ≤ s.length → x.length ≤ s.length
  | [], cur, x, hx, hl => by
    simp only [Lib.fieldsGo] at hx
    split at hx
    · cases hx
    · simp at hx; subst hx; simpa using hl
  | b :: l, cur, x, hx, hl => by
    simp only [Lib.fieldsGo] at hx
    simp only [List.length_cons] at hl
    split at hx
    · split at hx
      · exact fields_size s l [] x hx (by simp; omega)
      · rcases List.mem_cons.1 hx with h | h
        · subst h; omega
        · exact fields_size s l [] x h (by simp; omega)
    · exact fields_size s l (cur ++ [b]) x hx (by simp; omega)

theorem okL_ascii {l : List UInt8} (h : okL l = true) : ∀ (j : Nat) b, l[j]? = some b → b.toNat < 128 := by
  intro j b hj
  have := List.all_eq_true.1 h b (List.mem_of_getElem? hj)
  simp [okB] at this
  omega

theorem fields_row (l : List UInt8) : ((Lib.fields l).map fun l => Value.string ⟨l.toArray⟩) = strs (Lib.fields l) := rfl

theorem cntF_le : ∀ (l : List UInt8) (ws : Bool), Lib.cntF ws l ≤ l.length
  | [], _ => by simp [Lib.cntF]
  | b :: l, ws => by
    have := cntF_le l (Lib.isSp b)
    simp only [Lib.cntF, List.length_cons]
    split <;> omega

theorem fields_small (s : ByteArray) (F : List (List UInt8)) (hF : F = Lib.fields s.data.toList) (hs : s.size ≤ 1048576) : ∀ k, k < F.length → (bs (F.getD k [])).size ≤ 1048576 := fun k hk => by
  have h1 : F.getD k [] ∈ F := by
    have : F.getD k [] = F[k] := by simp [List.getElem?_eq_getElem hk]
    rw [this]
    exact List.getElem_mem hk
  have h3 : F.getD k [] ∈ Lib.fieldsGo [] s.data.toList := by
    have h4 : Lib.fieldsGo [] s.data.toList = F := hF.symm
    rw [h4]
    exact h1
  have h2 := fields_size s.data.toList s.data.toList [] _ h3 (by simp)
  have h5 : s.data.toList.length = s.size := by simp
  rw [bsz]
  omega

theorem strs_set_same (F : List (List UInt8)) (k : Nat) (h : k < F.length) : (strs F).set k (.string (bs (F.getD k []))) = strs F := by
  rw [strs_set]
  congr 1
  have : F.getD k [] = F[k] := by simp [List.getElem?_eq_getElem h]
  rw [this, List.set_getElem_self]

set_option maxRecDepth 100000 in
set_option maxHeartbeats 2000000 in
theorem ipt_any (s : ByteArray) (w : World) (hs : s.size ≤ 1048576) (htab : Lib.TabIs Tryd.prog w "strings.asciiSpace" .u8 Lib.asciiSpaceTab) :
    Calls Tryd.prog 82 #[.string s] w fun e w' => ∃ v, e = .returned (.tuple #[v, .bool (goodS s)]) ∧ w'.ownsRow w.heap.size 9 1 v (prL s).length (strs (prL s)) ∧ Below w.heap.size w w' := by
  by_cases h600 : (600 : Int) < (s.size : Int)
  · have hg : goodS s = false := by simp [goodS]; omega
    rw [prL_no hg, hg]
    clear hg htab
    go_enter Tryd.func82, Tryd.ntmps82
    go_wp2
    go_ret2
    exact ⟨_, rfl, World.ownsRow_nil _ _ _ _, Below.refl _ _⟩
  obtain ⟨G, hG⟩ : ∃ G, G = goodS s := ⟨_, rfl⟩
  obtain ⟨L, hL⟩ : ∃ L, L = prL s := ⟨_, rfl⟩
  rw [← hG, ← hL]
  have GL : Hid (G = goodS s ∧ L = prL s) := ⟨hG, hL⟩
  have HT := hide htab
  clear hG hL htab
  go_enter Tryd.func82, Tryd.ntmps82
  go_wp2
  go_loop [12] (fun i => ∃ k : Nat, k ≤ s.size ∧ i = .int .i64 k ∧ Hid (okL (s.data.toList.take k) = true)) (fun i => s.size - (intOf i).toNat)
  case atStart => exact ⟨0, by omega, rfl, rfl⟩
  case round =>
    obtain ⟨k, hk, rfl, hp⟩ := hrel
    by_cases hlt : k < s.size
    · obtain ⟨c, hc⟩ : ∃ c : Nat, c = s[k].toNat := ⟨_, rfl⟩
      have hcb : c < 256 := by have := s[k].toNat_lt; omega
      have hix := idx_str Tryd.underlying9 s k c hlt hc
      have C : Hid (c = s[k].toNat) := hc
      clear hc
      have h3 : c < 32 ∨ 126 < c ∨ (32 ≤ c ∧ c ≤ 126) := by omega
      rcases h3 with h | h | ⟨h, h'⟩
      iterate 2
        · have hg : goodS s = false := by simp [goodS, okL_bad s k hlt (by have := C.out; omega)]
          have HG := hide hg
          clear hg
          go_wp2
          go_ret2
          refine ⟨_, by rw [GL.out.1, HG.out]; rfl, ?_, Below.refl _ _⟩
          rw [GL.out.2, prL_no HG.out]
          exact World.ownsRow_nil _ _ _ _
      · go_wp2
        go_round
        case rel => exact ⟨k + 1, by omega, by go_num, by show okL _ = true; rw [okL_take s k hlt, hp.out]; have := C.out; simp [okB]; omega⟩
        case measure => simp [intOf]; omega
    · have hall : s.data.toList.take k = s.data.toList := List.take_of_length_le (by simp; omega)
      have hok := hp.out
      rw [hall] at hok
      have OK := hide hok
      clear hall hok hp
      obtain ⟨F, hF⟩ : ∃ F, F = Lib.fields s.data.toList := ⟨_, rfl⟩
      have HF := hide hF
      clear hF
      go_wp2_with fail
      refine (Tryd.strings_Fields s w (by omega) (okL_ascii OK.out) HT.out).mono ?_
      rw [fields_row, ← HF.out]
      rintro e w1 ⟨rfl, rfl⟩
      have hFl : F.length ≤ s.size := by
        rw [HF.out, Lib.fields_length]
        have := cntF_le s.data.toList true
        simpa using this
      have hown0 : (w.alloc (.cells (strs F).toArray 9)).ownsRow w.heap.size 9 1 (.slice (some ⟨w.heap.size, 0, none⟩) F.length F.length) F.length (strs F) := by
        have := World.ownsRow_lit (e := 9) (size := 1) w (strs F).toArray F.length (Nat.le_refl _) (by unfold maxLen; omega) (by simp [strs])
        simpa using this
      have hb0 : Below w.heap.size w (w.alloc (.cells (strs F).toArray 9)) := (Below.refl _ _).alloc (Nat.le_refl _) _
      have hFs := fields_small s F HF.out (by omega)
      obtain ⟨W1, hW1⟩ : ∃ W1, W1 = w.alloc (.cells (strs F).toArray 9) := ⟨_, rfl⟩
      rw [← hW1] at hown0 hb0 ⊢
      have OW0 := hide hown0
      have FS := hide hFs
      clear hown0 hFs hW1
      by_cases h10 : (10 : Int) < (F.length : Int)
      · have hg : goodS s = false := by
          rw [goodS, ← HF.out]
          simp
          omega
        have HG := hide hg
        clear hg
        go_wp2
        go_ret2
        refine ⟨_, by rw [GL.out.1, HG.out]; rfl, ?_, hb0⟩
        rw [GL.out.2, prL_no HG.out]
        exact World.ownsRow_nil _ _ _ _
      · have hg : goodS s = true := by
          rw [goodS, ← HF.out, OK.out]
          simp
          omega
        have HG := hide hg
        clear hg
        go_wp2
        go_loopw [33] (fun i wr => ∃ k : Nat, k ≤ F.length ∧ i = .int .i64 k ∧ wr.ownsRow w.heap.size 9 1 (.slice (some ⟨w.heap.size, 0, none⟩) F.length F.length) F.length (strs F) ∧ Below w.heap.size w wr) (fun i _ => F.length - (intOf i).toNat)
        case atStart => exact ⟨0, by omega, rfl, OW0.out, hb0⟩
        case round =>
          clear hb0
          obtain ⟨k, hk, rfl, hown, hnx⟩ := hrel
          have hsz := hnx.size
          by_cases hlt : k < F.length
          · have hki : (0 : Int) ≤ (k : Int) := by omega
            have hkj : (k : Int) < (F.length : Int) := by omega
            obtain ⟨t, ht⟩ : ∃ t, t = bs (F.getD k []) := ⟨_, rfl⟩
            have d1 : wr.cell? ⟨w.heap.size, k, none⟩ = some (.string t) := by rw [hown.cellAt k (by omega), ht]; exact strs_get F k hlt
            have hts : t.size ≤ 1048576 := by rw [ht]; exact FS.out k hlt
            have OW := hide hown
            have TT := hide ht
            clear hown ht
            go_wp2_with fail
            refine (cloneP_any t _ hts).mono ?_
            rintro e w2 ⟨rfl, hb2⟩
            have hgw : w.heap.size < wr.heap.size := by
              obtain ⟨g', c', e1, _, e2⟩ := owns_shape OW.out (by omega)
              cases e1
              exact e2
            have hown2 := owns_below OW.out hb2 (Nat.le_refl _)
            have hfr2 := hown2.frozenAt k
            have d2 : w2.cell? ⟨w.heap.size, k, none⟩ = some (.string t) := by rw [hb2.cell (p := ⟨w.heap.size, k, none⟩) hgw]; exact d1
            have hst := (hown2.stored k (.string t)).1
            rw [TT.out, strs_set_same F k hlt, ← TT.out] at hst
            have ST := hide hst
            clear hst hown2 d1
            go_wp2
            go_roundw
            case rel => exact ⟨k + 1, by omega, by go_num, ST.out, (hnx.trans (hb2.mono hsz)).setCell (Nat.le_refl _) _⟩
            case measure => simp [intOf]; omega
          · have OW := hide hown
            clear hown
            go_wp2
            go_ret2
            refine ⟨_, by rw [GL.out.1, HG.out]; rfl, ?_, hnx⟩
            rw [GL.out.2, prL_yes HG.out, ← HF.out]
            exact OW.out
end Go.Proofs.YtpiookjdeopmgaaDoor
namespace Go.Proofs.YtpiookjdeopmgaaDoor
open Go.RowKit
set_option linter.unusedSimpArgs false

theorem extract_to_end (s : ByteArray) (b : Nat) : s.extract b s.size = bs (s.data.toList.drop b) := by
  rw [extract_bs]
  congr 1
  exact List.take_of_length_le (by simp)

theorem sl_str_from {P : Program} {t : TypeId} (hu : P.underlying t = some .string) (s u : ByteArray) (i : Int) (h0 : 0 ≤ i) (h2 : i ≤ s.size) (he : u = s.extract i.toNat s.size) (w : World) :
    (Instr.slice t (.string s) (some (.int .i64 i)) none none).run P w = .ok (.string u) w := by
  rw [he, run_slice_string_l w t s hu .i64 i h0 h2]

set_option maxRecDepth 100000 in
set_option maxHeartbeats 2000000 in
theorem slines_any (s : ByteArray) (w : World) (hs : s.size ≤ 1048576) :
    Calls Tryd.prog 18 #[.string s] w fun e w' => ∃ v, e = .returned v ∧ w'.ownsRow w.heap.size 9 1 v (lnsOf s.data.toList).length (strs (lnsOf s.data.toList)) ∧ Below w.heap.size w w' := by
  obtain ⟨L, hL⟩ : ∃ L, L = lnsOf s.data.toList := ⟨_, rfl⟩
  rw [← hL]
  have GL : Hid (L = lnsOf s.data.toList) := hL
  clear hL
  go_enter Tryd.func18, Tryd.ntmps18
  go_wp2
  go_loopw [3, 4, 5] (fun v bb i wr => ∃ (k b : Nat) (done : List (List UInt8)), k ≤ s.size ∧ b ≤ k ∧ done.length ≤ k ∧ i = .int .i64 k ∧ bb = .int .i64 b ∧ Hid (Lt s b k done) ∧ wr.ownsRow w.heap.size 9 1 v done.length (strs done) ∧ Below w.heap.size w wr)
    (fun _ _ i _ => s.size - (intOf i).toNat)
  case atStart =>
    exact ⟨0, 0, [], by omega, by omega, by simp, rfl, rfl, Lt.first s, owns_empty w _ (Nat.le_refl _), (Below.refl _ _).alloc (Nat.le_refl _) _⟩
  case round =>
    obtain ⟨k, b, done, hk, hbk, hdl, rfl, rfl, hp, hown, hnx⟩ := hrel
    have hsz := hnx.size
    by_cases hlt : k < s.size
    · obtain ⟨c, hc⟩ : ∃ c : Nat, c = s[k].toNat := ⟨_, rfl⟩
      have hcb : c < 256 := by have := s[k].toNat_lt; omega
      have hix := idx_str Tryd.underlying9 s k c hlt hc
      have C : Hid (c = s[k].toNat) := hc
      clear hc
      by_cases h10 : c = 10
      · have hp' := hide (hp.out.line hlt (by have := C.out; omega))
        have hne : ((c : Int) == 10) = true := by simp; omega
        have hc1 : 10 ≤ c := by omega
        have hc2 : c ≤ 10 := by omega
        obtain ⟨t, ht⟩ : ∃ t : ByteArray, t = s.extract b k := ⟨_, rfl⟩
        have hsl := sl_str Tryd.underlying9 s t (b : Int) (k : Int) (by omega) (by omega) (by omega) (by rw [ht]; rfl)
        have TT := hide ht
        clear ht h10
        go_wp2_with (first
          | (at_builtin; refine wpList_append_str _ rfl _ _ rfl w.heap.size u3 done ((s.data.toList.drop b).take (k - b)) rfl (hown.alloc _) ⟨wr.heap.size, 0, none⟩ rfl (news_str t _ _ (by rw [TT.out, extract_bs])) (by omega) (by simp; omega) ?_))
        intro v' w1 xs' hx' hown' hgrow
        have hb1 := below_append _ hnx hown (Nat.le_refl _) hsz hgrow
        clear hgrow hnx hown
        go_wp2
        go_roundw
        case rel => exact ⟨k + 1, k + 1, xs', by omega, by omega, by rw [hx'.out]; simp; omega, by go_num, by go_num, by rw [hx'.out]; exact hp'.out, hown', hb1⟩
        case measure => simp [intOf]; omega
      · have hp' := hide (hp.out.more hlt (by have := C.out; omega))
        have hne : ((c : Int) == 10) = false := by simp; omega
        go_wp2
        go_roundw
        case rel => exact ⟨k + 1, b, done, by omega, by omega, by omega, by go_num, rfl, hp'.out, hown, hnx⟩
        case measure => simp [intOf]; omega
    · by_cases hb : b < s.size
      · have he := hide (hp.out.last hlt hb)
        obtain ⟨t, ht⟩ : ∃ t : ByteArray, t = s.extract b s.size := ⟨_, rfl⟩
        have hsl := sl_str_from Tryd.underlying9 s t (b : Int) (by omega) (by omega) (by rw [ht]; rfl)
        have TT := hide ht
        clear ht
        go_wp2_with (first
          | (at_builtin; refine wpList_append_str _ rfl _ _ rfl w.heap.size u3 done (s.data.toList.drop b) rfl (hown.alloc _) ⟨wr.heap.size, 0, none⟩ rfl (news_str t _ _ (by rw [TT.out, extract_to_end s b])) (by omega) (by simp; omega) ?_))
        intro v' w1 xs' hx' hown' hgrow
        have hb1 := below_append _ hnx hown (Nat.le_refl _) hsz hgrow
        have E := hide (show xs' = L by rw [hx'.out, GL.out, he.out])
        clear hgrow hnx hown
        go_wp2
        go_ret
        exact ⟨_, rfl, by rw [← E.out]; exact hown', hb1⟩
      · have E := hide (show done = L by rw [GL.out, hp.out.none hlt hb])
        go_wp2
        go_ret
        exact ⟨_, rfl, by rw [← E.out]; exact hown, hnx⟩
end Go.Proofs.YtpiookjdeopmgaaDoor
