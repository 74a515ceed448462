/-
  The developers' reader of fields inside a struct of any tag: oneByte, number.
  laws.markNearS, heldNearS, markRecord, heldRecord: only the row's own memory turns; what was marked is held.
  'append(out, x)' of a struct of four cells, out a row that the call itself made.
  Lists of records, each with a row of its own.
  laws.szRecordS, toRecordS, eqRecordS: their contracts.
  spec.l04Copy, impl.ownRecord: a record with a row of its own.
-/
import Derived.Test.YtfccainebmbbdaaDoorRq3
import Derived.Test.YtfccainebmbbdaaDoorRq1
import Derived.Laws.AppendOwnNone
namespace Go.Proofs.YtfccainebmbbdaaDoor
open Go.RowKit

set_option maxRecDepth 100000 in
set_option maxHeartbeats 400000 in
theorem oneJ_any (t : TypeId) (z p : Nat) (s : ByteArray) (b : Bool) (w : World) (hs : s.size ≤ 1048576) (hp : p ≤ s.size) (h : RdAt w z t s p b) :
    Calls Tryd.prog 55 #[.pointer (some ⟨z, 0, none⟩)] w fun e w' => e = .returned (.int .i64 (oneR s p b).v) ∧ RdAt w' z t s (oneR s p b).p (oneR s p b).b ∧ w.grownBy w' (some z) := by
  unfold RdAt at h
  have c0 := cells_at h 0
  have c1 := cells_at h 1
  have c2 := cells_at h 2
  have f1 := frozen_at h 1
  have f2 := frozen_at h 2
  simp at c0 c1 c2
  have HH := hide h
  clear h
  cases b
  · by_cases hlt : p < s.size
    · have hv : oneR s p false = ⟨(s[p].toNat : Int), p + 1, false⟩ := by unfold oneR; simp [hlt]
      rw [hv]
      obtain ⟨c, hc⟩ : ∃ c : Nat, c = s[p].toNat := ⟨_, rfl⟩
      have hcb : c < 256 := by have := s[p].toNat_lt; omega
      have hix := idx_str Tryd.underlying9 s p c hlt hc
      have HC := hide hc
      have h1 : ¬ (s.size : Int) ≤ (p : Int) := by omega
      have h2 : IntKind.i64.wrap ((p : Int) + 1) = (p : Int) + 1 := wrap_fit _ (by omega) (by omega)
      clear hc hv
      go_enter Tryd.func55, Tryd.ntmps55
      go_wp2
      go_quiet (fail)
      go_wp2
      have hh2 : ((w.drewN nq).setCell ⟨z, 1, none⟩ (.int .i64 ((p : Int) + 1))).heap[z]? = some (.cells #[.string s, .int .i64 (((p + 1 : Nat)) : Int), .bool false] t (0, 0)) := by
        rw [heap_setCell_same (w.drewN nq) z 1 _ _ _ HH.out]; rfl
      have hg : w.grownBy ((w.drewN nq).setCell ⟨z, 1, none⟩ (.int .i64 ((p : Int) + 1))) (some z) := grown_trans (grown_drewN w nq _) (grown_set _ z 1 _)
      generalize (w.drewN nq).setCell ⟨z, 1, none⟩ (.int .i64 ((p : Int) + 1)) = w3 at hh2 hg ⊢
      have d0 := cells_at hh2 0
      have d1 := cells_at hh2 1
      simp at d0 d1
      have HH2 := hide hh2
      clear hh2 c0 c1 c2 f1 f2 HH
      go_quiet (fail)
      go_wp2
      go_ret
      exact ⟨by rw [← HC.out]; rfl, HH2.out, grown_trans hg (grown_drewN _ _ _)⟩
    · have hv : oneR s p false = ⟨0, p, true⟩ := by unfold oneR; simp [hlt]
      rw [hv]
      have h1 : (s.size : Int) ≤ (p : Int) := by omega
      clear hv
      go_enter Tryd.func55, Tryd.ntmps55
      go_wp2
      go_quiet (fail)
      go_wp2
      go_ret
      exact ⟨rfl, heap_setCell_same (w.drewN nq) z 2 _ _ _ HH.out, grown_trans (grown_drewN w nq _) (grown_set _ z 2 _)⟩
  · have hv : oneR s p true = ⟨0, p, true⟩ := oneR_bad s p
    rw [hv]
    clear hv
    go_enter Tryd.func55, Tryd.ntmps55
    go_wp2
    go_quiet (fail)
    go_wp2
    go_ret
    exact ⟨rfl, heap_setCell_same (w.drewN nq) z 2 _ _ _ HH.out, grown_trans (grown_drewN w nq _) (grown_set _ z 2 _)⟩

set_option maxRecDepth 100000 in
set_option maxHeartbeats 400000 in
theorem numJ_any (t : TypeId) (z p : Nat) (s : ByteArray) (b : Bool) (w : World) (hs : s.size ≤ 1048576) (hp : p ≤ s.size) (h : RdAt w z t s p b) :
    Calls Tryd.prog 66 #[.pointer (some ⟨z, 0, none⟩)] w fun e w' => e = .returned (.int .i64 (varR s p b).v) ∧ RdAt w' z t s (varR s p b).p (varR s p b).b ∧ w.grownBy w' (some z) := by
  unfold RdAt at h
  have c0 := cells_at h 0
  have c1 := cells_at h 1
  simp at c0 c1
  have hz := lt_of_heap h
  have HH := hide h
  have HRV := hide (irv_any s (p : Int))
  obtain ⟨v1, v2, v3, hv⟩ := rdV_three s (p : Int)
  rw [hv] at HRV
  have HV := hide hv
  clear h hv
  go_enter Tryd.func66, Tryd.ntmps66
  go_wp2
  go_region_held3 (fun W => W.cell? ⟨z, 0, none⟩ = some (.string s) ∧ W.cell? ⟨z, 1, none⟩ = some (.int .i64 (p : Int))) (first | go_keep | (refine ⟨?_, ?_⟩ <;> (refine Eq.trans (Below.cell (B := w.heap.size) (w := w.drew) ?_ ?_) ?_ <;> first | assumption | (go_grown; done)))) (first | (go_at_call 76; refine (HRV.out _ hs).mono ?_; rintro e w1 ⟨rfl, b1⟩))
  have hh1 : w1.heap[z]? = _ := (b1.block _ hz).trans HH.out
  have hg1 : w.grownBy w1 (some z) := ⟨b1.os, b1.tape, b1.output, b1.size, fun k hk _ => b1.block k hk⟩
  have d2 := cells_at hh1 2
  have f1 := frozen_at hh1 1
  have f2 := frozen_at hh1 2
  have d1 := cells_at hh1 1
  simp at d1 d2
  have HH1 := hide hh1
  clear hh1 b1 c0 c1 HH HRV
  cases b
  · cases hr : rdO s p with
    | none =>
      have e := (rdV_none hp hr).symm.trans HV.out
      simp only [Value.tuple.injEq, Array.mk.injEq, List.cons.injEq, Value.int.injEq, Value.bool.injEq, true_and, and_true] at e
      obtain ⟨e1, e2, rfl⟩ := e
      have hvr : varR s p false = ⟨0, p, true⟩ := by unfold varR; rw [hr]; rfl
      have HVR := hide hvr
      clear hvr e1 e2 hr
      go_wp2
      go_ret
      rw [HVR.out]
      exact ⟨rfl, heap_setCell_same _ z 2 _ _ _ HH1.out, grown_trans hg1 (grown_set _ z 2 _)⟩
    | some x =>
      obtain ⟨v, k⟩ := x
      have e := (rdV_good hp hr).symm.trans HV.out
      simp only [Value.tuple.injEq, Array.mk.injEq, List.cons.injEq, Value.int.injEq, Value.bool.injEq, true_and, and_true] at e
      obtain ⟨rfl, rfl, rfl⟩ := e
      have hvr : varR s p false = ⟨(v : Int), p + k, false⟩ := by unfold varR; rw [hr]; rfl
      have HVR := hide hvr
      clear hvr hr
      go_wp2
      go_ret
      rw [HVR.out]
      exact ⟨rfl, heap_setCell_same _ z 1 _ _ _ HH1.out, grown_trans hg1 (grown_set _ z 1 _)⟩
  · go_wp2
    go_ret
    rw [varR_bad]
    exact ⟨rfl, heap_setCell_same _ z 2 _ _ _ HH1.out, grown_trans hg1 (grown_set _ z 2 _)⟩

end Go.Proofs.YtfccainebmbbdaaDoor
namespace Go.Proofs.YtfccainebmbbdaaDoor
open Go.RowKit

def mk (q : Int) (i : Nat) : Nr := ⟨q + 2 * (i : Int), q + 2 * (i : Int) + 1⟩

def marks (q : Int) (n : Nat) : List Nr := (List.range n).map (mk q)

theorem marks_len (q : Int) (n : Nat) : (marks q n).length = n := by simp [marks]

theorem marks_all {q : Int} {n : Nat} {ys : List Nr} (hl : ys.length = n) (h : ∀ j, j < n → ys[j]? = some (mk q j)) : ys = marks q n := by
  apply List.ext_getElem?
  intro i
  by_cases hi : i < n
  · rw [h i hi]
    simp [marks, hi]
  · rw [List.getElem?_eq_none (by omega), List.getElem?_eq_none (by rw [marks_len]; omega)]

theorem owns_shapeS {w : World} {base size : Nat} {e : TypeId} {v : Value} {n : Nat} {xs : List Value} (h : w.ownsRow base e size v n xs) (hn : 0 < n) :
    ∃ g cap, v = .slice (some ⟨g, 0, none⟩) n cap ∧ base ≤ g ∧ g < w.heap.size := by
  rcases h.2 with ⟨_, h0⟩ | ⟨g, cap, cur, hv, hb, hg, _⟩
  · omega
  · exact ⟨g, cap, hv, hb, lt_of_heap hg⟩

theorem own_cell {w : World} {base size g cap : Nat} {e : TypeId} {n : Nat} {xs : List Value} (h : w.ownsRow base e size (.slice (some ⟨g, 0, none⟩) n cap) n xs) (j : Nat) (hj : j < n * size) : ∃ u, w.cell? ⟨g, j, none⟩ = some u := by
  rw [h.cellAt j hj]
  have hl : j < xs.length := by rw [h.1]; exact hj
  exact ⟨_, List.getElem?_eq_getElem hl⟩

theorem grown_refl (w : World) (r : Option Nat) : w.grownBy w r := ⟨rfl, rfl, rfl, Nat.le_refl _, fun _ _ _ => rfl⟩

theorem ret_int1 {a b : Int} (h : a = b) : Ending.returned (.int .i64 a) = .returned (.int .i64 b) := by rw [h]

set_option maxRecDepth 100000 in
set_option maxHeartbeats 1000000 in
theorem markNearS_any (v : Value) (base n : Nat) (ns : List Nr) (q : Int) (w : World) (hn0 : ns.length = n) (h1 : w.ownsRow base 55 2 v n (flat nrE ns)) (hn : n ≤ 1048576) (hq : 0 ≤ q) (hq2 : q ≤ 1000000000) :
    Calls Tryd.prog 44 #[v, .int .i64 q] w fun e w' => e = .returned (.int .i64 (q + 2 * (n : Int))) ∧ w'.ownsRow base 55 2 v n (flat nrE (marks q n)) ∧ w.grownBy w' v.ownBlock := by
  by_cases h0 : n = 0
  · subst h0
    obtain ⟨a1, c1, rfl⟩ := owns_lenS h1
    have hnn : ns = [] := List.length_eq_zero_iff.1 hn0
    have H1 := hide h1
    rw [hnn] at H1
    clear h1 hn0 hnn
    go_enter Tryd.func44, Tryd.ntmps44
    go_wp2
    refine wp_loop_rounds 1 ?_
    rw [rounds_succ]
    go_wp2
    go_ret
    exact ⟨by simp, H1.out, grown_refl _ _⟩
  · obtain ⟨g1, c1, rfl, hg1, hl1⟩ := owns_shapeS h1 (by omega)
    have H1 := hide h1
    have HN0 := hide hn0
    clear h1 h0 hn0
    go_enter Tryd.func44, Tryd.ntmps44
    go_wp2
    go_loopw [5, 1] (fun i r wr => ∃ (k : Nat) (ys : List Nr), k ≤ n ∧ i = .int .i64 k ∧ r = .int .i64 (q + 2 * (k : Int)) ∧ ys.length = n ∧ (∀ j, j < k → ys[j]? = some (mk q j)) ∧ wr.ownsRow base 55 2 (.slice (some ⟨g1, 0, none⟩) n c1) n (flat nrE ys) ∧ w.grownBy wr (some g1)) (fun i _ _ => n - (intOf i).toNat)
    case atStart => exact ⟨0, ns, by omega, rfl, by simp, HN0.out, by omega, H1.out, grown_refl _ _⟩
    case round =>
      clear H1
      obtain ⟨k, ys, hk, rfl, rfl, hyl, hys, hown, hnx⟩ := hrel
      by_cases hlt : k < n
      · have hki : (0 : Int) ≤ (k : Int) := by omega
        have hkj : (k : Int) < (n : Int) := by omega
        obtain ⟨u0, d0⟩ := own_cell hown (k * 2) (by omega)
        obtain ⟨u1, d1⟩ := own_cell hown (k * 2 + 1) (by omega)
        have f0 := hown.frozenAt (k * 2)
        have f1 := hown.frozenAt (k * 2 + 1)
        have st := ((hown.stored (k * 2) (.int .i64 (q + 2 * (k : Int)))).1.stored (k * 2 + 1) (.int .i64 (q + 2 * (k : Int) + 1))).1
        have e1 : ((flat nrE ys).set (k * 2) (.int .i64 (q + 2 * (k : Int)))).set (k * 2 + 1) (.int .i64 (q + 2 * (k : Int) + 1)) = flat nrE (ys.set k (mk q k)) := flat_set nrE_len ys k (mk q k) (by omega)
        rw [e1] at st
        have ST := hide st
        have HYL := hide hyl
        have HYS := hide hys
        clear hown st e1 hyl hys
        go_wp2
        refine ⟨⟨k + 1, ys.set k (mk q k), by omega, by go_num, by go_num, by simp [HYL.out], ?_, ST.out, grown_trans (grown_trans hnx (grown_set _ _ _ _)) (grown_set _ _ _ _)⟩, by simp [intOf]; omega⟩
        intro j hj
        by_cases e : j = k
        · subst e
          rw [List.getElem?_set_self (by rw [HYL.out]; exact hlt)]
        · rw [List.getElem?_set_ne (by omega)]
          exact HYS.out j (by omega)
      · have hkn : k = n := by omega
        have hm : ys = marks q n := marks_all hyl (by rw [← hkn]; exact hys)
        have OW := hide hown
        have HM := hide hm
        have KN := hide hkn
        clear hkn hown hm hyl hys
        go_wp2
        go_ret
        exact ⟨ret_int1 (by rw [KN.out]), by rw [← HM.out]; exact OW.out, hnx⟩

set_option maxRecDepth 100000 in
set_option maxHeartbeats 1000000 in
theorem heldNearS_any (v : Value) (n : Nat) (q : Int) (w : World) (h1 : NearsAt w v (marks q n) w.heap.size) (hn : n ≤ 1048576) (hq : 0 ≤ q) (hq2 : q ≤ 1000000000) :
    Calls Tryd.prog 45 #[v, .int .i64 q] w fun e w' => e = .returned (.int .i64 (q + 2 * (n : Int))) ∧ w = w' := by
  obtain ⟨a, cap, rfl⟩ := h1.shape
  rw [marks_len] at *
  have H1 := hide h1
  clear h1
  go_enter Tryd.func45, Tryd.ntmps45
  go_wp2
  go_loop [5, 1] (fun i r => ∃ k : Nat, k ≤ n ∧ i = .int .i64 k ∧ r = .int .i64 (q + 2 * (k : Int))) (fun i _ => n - (intOf i).toNat)
  case atStart => exact ⟨0, by omega, rfl, by simp⟩
  case round =>
    obtain ⟨k, hk, rfl, rfl⟩ := hrel
    by_cases hlt : k < n
    · have hki : (0 : Int) ≤ (k : Int) := by omega
      have hkj : (k : Int) < (n : Int) := by omega
      obtain ⟨b, off, cap', hve, hbb, s0, s1⟩ := H1.out.cells k (mk q k) (by simp [marks, hlt])
      rw [marks_len] at hve
      cases hve
      simp only [mk] at s0 s1
      go_wp2
      go_round
      case rel => exact ⟨k + 1, by omega, by go_num, by go_num⟩
      case measure => simp [intOf]; omega
    · have hkn : k = n := by omega
      have KN := hide hkn
      clear hkn
      go_wp2
      go_ret
      exact ⟨ret_int1 (by rw [KN.out]), rfl⟩
end Go.Proofs.YtfccainebmbbdaaDoor
namespace Go.Proofs.YtfccainebmbbdaaDoor
open Go.RowKit

theorem flat_append {α : Type} {enc : α → List Value} (xs ys : List α) : flat enc (xs ++ ys) = flat enc xs ++ flat enc ys := by simp [flat]

theorem wpList_append_struct {α : Type} {enc : α → List Value} {sz bytes : Nat} (hlen : ∀ a, (enc a).length = sz) (hpos : 0 < sz) (hone : ∀ a, ∀ u ∈ enc a, u.oneCell' = true) (hbb : bytes ≤ 100) {P : Program} (w : World) {ops : Array Oper} {rest : List Oper} {o : Oper} {a : Act} {Q : Exit → Act → World → Prop} (hgd : o.guard = none) (s x : Operand) (t : TypeId)
    (ho : o.op = .call { callee := .builtin .append, args := #[s, x], argTypes := #[t, t] }) (base : Nat) (e : TypeId) (ht : P.underlying t = some (.slice e)) (zv : Value) (hzv : zv.cells.size = sz)
    (hinfo : (P.info? e).map (fun i => (i.zero, i.size, i.bytes)) = some (some zv, sz, bytes))
    (v : Value) (l : List α) (y : α) (hs : a.eval s = v) (hown : w.ownsRow base e sz v l.length (flat enc l))
    (ad : Addr) (c : Nat) (hx : a.eval x = .slice (some ad) 1 c) (hnews : ∀ j u, (enc y)[j]? = some u → w.cell? (ad.add j) = some u)
    (hl : l.length + 1 ≤ 1000000000) (hbase : base ≤ w.heap.size)
    (h : ∀ v' w' l', Hid (l' = l ++ [y]) → w'.ownsRow base e sz v' l'.length (flat enc l') → w.grownBy w' v.ownBlock → wpList P ops Q rest (a.put o.dst v') w') : wpList P ops Q (o :: rest) a w := by
  obtain ⟨i0, hi, hz0, hz1, hz2⟩ := info_parts hinfo
  refine wpList_append_own w hgd s x t ho base e i0 zv sz bytes ht hi hz0 hz1 hz2 hzv hpos v l.length (flat enc l) hs hown ad 1 c (enc y) hx (by rw [hlen]; omega) hnews (hone y) (by unfold maxLen; omega) ?_ hbase ?_
  · have : (l.length + 1) * bytes ≤ 1000000000 * 100 := Nat.mul_le_mul hl hbb
    omega
  · intro v' w' h1 h2 _
    have e1 : flat enc l ++ enc y = flat enc (l ++ [y]) := by rw [flat_append]; simp [flat]
    rw [e1] at h1
    exact h v' w' (l ++ [y]) rfl (by simpa using h1) h2

theorem news_struct {w : World} {cs : List Value} {t : TypeId} : ∀ (j : Nat) (u : Value), cs[j]? = some u → (w.alloc (.cells cs.toArray t)).cell? ((⟨w.heap.size, 0, none⟩ : Addr).add j) = some u := by
  intro j u hj
  have e : (⟨w.heap.size, 0, none⟩ : Addr).add j = ⟨w.heap.size, j, none⟩ := by
    simp only [Addr.add]
    split <;> simp_all
  rw [e, World.cell?_alloc_at _ _ _ _ rfl]
  simpa using hj
end Go.Proofs.YtfccainebmbbdaaDoor
namespace Go.Proofs.YtfccainebmbbdaaDoor
open Go.RowKit

/-- a record, and the value of its row -/
abbrev RP := RecD × Value

def encP (p : RP) : List Value := [.int .i64 p.1.area, .int .i64 p.1.kind, .int .i64 p.1.owner, .int .i64 p.1.key, .int .i64 p.1.seq, p.2, .int .i64 p.1.cost, .bool p.1.far]

theorem encP_len (p : RP) : (encP p).length = 8 := rfl

def zeroRD : RecD := ⟨0, 0, 0, 0, 0, [], 0, false⟩

def zP : RP := (zeroRD, .slice none 0 0)

/-- a list to read: its cells, and each record's row, below B -/
def RecsAt (W : World) (v : Value) (ps : List RP) (B : Nat) : Prop := StructsAt encP 8 W v ps B ∧ ∀ p ∈ ps, NearsAt W p.2 p.1.near B

theorem RecsAt.shape {W : World} {v : Value} {ps : List RP} {B : Nat} (h : RecsAt W v ps B) : ∃ a cap, v = .slice a ps.length cap := by
  obtain ⟨⟨a, cap, h, _⟩, _⟩ := h
  exact ⟨a, cap, h⟩

theorem RecsAt.later {W W' : World} {v : Value} {ps : List RP} {B C : Nat} (h : RecsAt W v ps B) (hb : Below C W W') (hBC : B ≤ C) : RecsAt W' v ps B :=
  ⟨RowAt.later h.1 hb hBC, fun p hp => RowAt.later (h.2 p hp) hb hBC⟩

theorem RecsAt.more {W : World} {v : Value} {ps : List RP} {B C : Nat} (h : RecsAt W v ps B) (hBC : B ≤ C) : RecsAt W v ps C :=
  ⟨RowAt.more h.1 hBC, fun p hp => RowAt.more (h.2 p hp) hBC⟩

theorem RecsAt.then {W W' : World} {v : Value} {ps : List RP} (h : RecsAt W v ps W.heap.size) (hb : Below W.heap.size W W') : RecsAt W' v ps W'.heap.size := (h.later hb (Nat.le_refl _)).more hb.size

theorem RecsAt.cells {W : World} {v : Value} {ps : List RP} {B : Nat} (h : RecsAt W v ps B) (i : Nat) (p : RP) (hp : ps[i]? = some p) :
    ∃ b off cap, v = .slice (some ⟨b, off, none⟩) ps.length cap ∧ b < B ∧ W.cell? ⟨b, off + i * 8, none⟩ = some (.int .i64 p.1.area) ∧ W.cell? ⟨b, off + i * 8 + 1, none⟩ = some (.int .i64 p.1.kind) ∧ W.cell? ⟨b, off + i * 8 + 2, none⟩ = some (.int .i64 p.1.owner) ∧ W.cell? ⟨b, off + i * 8 + 3, none⟩ = some (.int .i64 p.1.key) ∧ W.cell? ⟨b, off + i * 8 + 4, none⟩ = some (.int .i64 p.1.seq) ∧ W.cell? ⟨b, off + i * 8 + 5, none⟩ = some p.2 ∧ W.cell? ⟨b, off + i * 8 + 6, none⟩ = some (.int .i64 p.1.cost) ∧ W.cell? ⟨b, off + i * 8 + 7, none⟩ = some (.bool p.1.far) ∧ NearsAt W p.2 p.1.near B := by
  obtain ⟨b, off, cap, hv, hb, hc⟩ := StructsAt.cell h.1 encP_len i p hp
  exact ⟨b, off, cap, hv, hb, hc 0 _ rfl, hc 1 _ rfl, hc 2 _ rfl, hc 3 _ rfl, hc 4 _ rfl, hc 5 _ rfl, hc 6 _ rfl, hc 7 _ rfl, h.2 p (List.mem_of_getElem? hp)⟩

/-- its row is the caller's own, in blocks of lo .. hi -/
def NearOwn (W : World) (lo hi : Nat) (p : RP) : Prop := W.ownsRow lo 55 2 p.2 p.1.near.length (flat nrE p.1.near) ∧ ∀ k, p.2.ownBlock = some k → k < hi

def Apart (p q : RP) : Prop := ∀ k, p.2.ownBlock = some k → q.2.ownBlock ≠ some k

/-- a list of the caller's own: its row and those of its records, no two in one block, all in blocks of lo .. hi -/
structure RecsOwn (W : World) (lo hi : Nat) (v : Value) (ps : List RP) : Prop where
  row : W.ownsRow lo 39 8 v ps.length (flat encP ps)
  top : ∀ k, v.ownBlock = some k → k < hi
  nears : ∀ p ∈ ps, NearOwn W lo hi p
  apart : ps.Pairwise Apart

theorem owns_keepB {W W' : World} {base size : Nat} {e : TypeId} {v : Value} {n : Nat} {xs : List Value} (h : W.ownsRow base e size v n xs) (hk : ∀ k, v.ownBlock = some k → W'.heap[k]? = W.heap[k]?) : W'.ownsRow base e size v n xs := by
  refine ⟨h.1, ?_⟩
  rcases h.2 with h2 | ⟨g, cap, cur, hv, hg, hh, r⟩
  · exact .inl h2
  · exact .inr ⟨g, cap, cur, hv, hg, by rw [hk g (by rw [hv]; rfl)]; exact hh, r⟩

theorem owns_up {W : World} {base b2 size : Nat} {e : TypeId} {v : Value} {n : Nat} {xs : List Value} (h : W.ownsRow base e size v n xs) (hk : ∀ k, v.ownBlock = some k → b2 ≤ k) : W.ownsRow b2 e size v n xs := by
  refine ⟨h.1, ?_⟩
  rcases h.2 with h2 | ⟨g, cap, cur, hv, hg, r⟩
  · exact .inl h2
  · exact .inr ⟨g, cap, cur, hv, hk g (by rw [hv]; rfl), r⟩

theorem NearOwn.keep {W W' : World} {lo hi : Nat} {p : RP} (h : NearOwn W lo hi p) (hk : ∀ k, lo ≤ k → k < hi → k < W.heap.size → W'.heap[k]? = W.heap[k]?) : NearOwn W' lo hi p :=
  ⟨owns_keepB h.1 (fun k e => hk k (h.1.lt k e).1 (h.2 k e) (h.1.lt k e).2), h.2⟩

theorem NearOwn.wide {W : World} {lo hi lo' hi' : Nat} {p : RP} (h : NearOwn W lo hi p) (hl : lo' ≤ lo) (hh : hi ≤ hi') : NearOwn W lo' hi' p :=
  ⟨owns_baseS h.1 hl, fun k e => Nat.lt_of_lt_of_le (h.2 k e) hh⟩

theorem NearOwn.at {W : World} {lo hi : Nat} {p : RP} (h : NearOwn W lo hi p) : NearsAt W p.2 p.1.near hi := by
  have h1 := owns_rowAt h.1
  obtain ⟨a, cap, hv, h2⟩ := h1
  refine ⟨a, cap, hv, ?_⟩
  rcases h2 with h0 | ⟨b, off, ha, hb1, hx⟩
  · exact .inl h0
  · exact .inr ⟨b, off, ha, h.2 b (by rw [hv, ha]; rfl), hx⟩

theorem RecsOwn.keep {W W' : World} {lo hi : Nat} {v : Value} {ps : List RP} (h : RecsOwn W lo hi v ps) (hk : ∀ k, lo ≤ k → k < hi → k < W.heap.size → W'.heap[k]? = W.heap[k]?) : RecsOwn W' lo hi v ps where
  row := owns_keepB h.row (fun k e => hk k (h.row.lt k e).1 (h.top k e) (h.row.lt k e).2)
  top := h.top
  nears := fun p hp => (h.nears p hp).keep hk
  apart := h.apart

theorem RecsOwn.below {W W' : World} {lo hi B : Nat} {v : Value} {ps : List RP} (h : RecsOwn W lo hi v ps) (hb : Below B W W') (hB : hi ≤ B) : RecsOwn W' lo hi v ps := h.keep (fun k _ h2 _ => hb.block k (by omega))

theorem RecsOwn.wide {W : World} {lo hi lo' hi' : Nat} {v : Value} {ps : List RP} (h : RecsOwn W lo hi v ps) (hl : lo' ≤ lo) (hh : hi ≤ hi') : RecsOwn W lo' hi' v ps where
  row := owns_baseS h.row hl
  top := fun k e => Nat.lt_of_lt_of_le (h.top k e) hh
  nears := fun p hp => (h.nears p hp).wide hl hh
  apart := h.apart

theorem RecsOwn.at {W : World} {lo hi : Nat} {v : Value} {ps : List RP} (h : RecsOwn W lo hi v ps) : RecsAt W v ps hi := by
  refine ⟨?_, fun p hp => (h.nears p hp).at⟩
  have h1 := owns_rowAt h.row
  obtain ⟨a, cap, hv, h2⟩ := h1
  refine ⟨a, cap, hv, ?_⟩
  rcases h2 with h0 | ⟨b, off, ha, hb1, hx⟩
  · exact .inl h0
  · exact .inr ⟨b, off, ha, h.top b (by rw [hv, ha]; rfl), hx⟩

/-- what a marking leaves: only blocks of lo .. hi turn -/
structure Frame (lo hi : Nat) (w w' : World) : Prop where
  os : w'.os = w.os
  tape : w'.tape = w.tape
  output : w'.output = w.output
  size : w.heap.size ≤ w'.heap.size
  block : ∀ k, k < w.heap.size → (k < lo ∨ hi ≤ k) → w'.heap[k]? = w.heap[k]?

theorem Frame.refl (lo hi : Nat) (w : World) : Frame lo hi w w := ⟨rfl, rfl, rfl, Nat.le_refl _, fun _ _ _ => rfl⟩

theorem Frame.trans {lo hi : Nat} {a b c : World} (h : Frame lo hi a b) (k : Frame lo hi b c) : Frame lo hi a c :=
  ⟨k.os.trans h.os, k.tape.trans h.tape, k.output.trans h.output, Nat.le_trans h.size k.size, fun i hi hr => (k.block i (Nat.lt_of_lt_of_le hi h.size) hr).trans (h.block i hi hr)⟩

theorem Frame.grown {lo hi : Nat} {a b : World} {row : Option Nat} (g : a.grownBy b row) (hr : ∀ k, row = some k → lo ≤ k ∧ k < hi) : Frame lo hi a b :=
  ⟨g.os, g.tape, g.output, g.size, fun k hk hh => g.block k hk (fun e => by have := hr k e.symm; omega)⟩

theorem Frame.set {lo hi : Nat} (w : World) (p j : Nat) (u : Value) (h1 : lo ≤ p) (h2 : p < hi) : Frame lo hi w (w.setCell ⟨p, j, none⟩ u) := Frame.grown (grown_set w p j u) (fun k e => by simp at e; omega)

theorem Frame.below {lo hi : Nat} {w w' : World} (h : Frame lo hi w w') (hw : lo ≤ w.heap.size) : Below lo w w' := (Below.refl _ _).trans ⟨h.os, h.tape, h.output, h.size, fun k hk => h.block k (by omega) (.inl hk)⟩

theorem RecsOwn.frame {W W' : World} {lo hi l2 h2 : Nat} {v : Value} {ps : List RP} (h : RecsOwn W lo hi v ps) (hb : Frame l2 h2 W W') (hB : hi ≤ l2 ∨ h2 ≤ lo) : RecsOwn W' lo hi v ps := h.keep (fun k h1 h2 h3 => hb.block k h3 (by omega))

/-- eight cells laid at o of block g -/
abbrev putP (W : World) (g o : Nat) (p : RP) : World := (((((((W.setCell ⟨g, o, none⟩ (.int .i64 p.1.area)).setCell ⟨g, o + 1, none⟩ (.int .i64 p.1.kind)).setCell ⟨g, o + 2, none⟩ (.int .i64 p.1.owner)).setCell ⟨g, o + 3, none⟩ (.int .i64 p.1.key)).setCell ⟨g, o + 4, none⟩ (.int .i64 p.1.seq)).setCell ⟨g, o + 5, none⟩ p.2).setCell ⟨g, o + 6, none⟩ (.int .i64 p.1.cost)).setCell ⟨g, o + 7, none⟩ (.bool p.1.far)

theorem putP_grown (W : World) (g o : Nat) (p : RP) : W.grownBy (putP W g o p) (some g) :=
  grown_trans (grown_trans (grown_trans (grown_trans (grown_trans (grown_trans (grown_trans (grown_set W g _ _) (grown_set _ g _ _)) (grown_set _ g _ _)) (grown_set _ g _ _)) (grown_set _ g _ _)) (grown_set _ g _ _)) (grown_set _ g _ _)) (grown_set _ g _ _)

theorem putP_owns {W : World} {base g cap n j : Nat} {xs : List RP} {p : RP} (h : W.ownsRow base 39 8 (.slice (some ⟨g, 0, none⟩) n cap) n (flat encP xs)) (hj : j < xs.length) :
    (putP W g (j * 8) p).ownsRow base 39 8 (.slice (some ⟨g, 0, none⟩) n cap) n (flat encP (xs.set j p)) := by
  have e : (((((((((flat encP xs).set (j * 8) (.int .i64 p.1.area)).set (j * 8 + 1) (.int .i64 p.1.kind)).set (j * 8 + 2) (.int .i64 p.1.owner)).set (j * 8 + 3) (.int .i64 p.1.key)).set (j * 8 + 4) (.int .i64 p.1.seq)).set (j * 8 + 5) p.2).set (j * 8 + 6) (.int .i64 p.1.cost)).set (j * 8 + 7) (.bool p.1.far)) = flat encP (xs.set j p) := flat_set encP_len xs j p hj
  rw [← e]
  exact ((((((((h.stored (j * 8) _).1.stored (j * 8 + 1) _).1.stored (j * 8 + 2) _).1.stored (j * 8 + 3) _).1.stored (j * 8 + 4) _).1.stored (j * 8 + 5) _).1.stored (j * 8 + 6) _).1.stored (j * 8 + 7) _).1

/-- near rows of new records are behind all that was there -/
theorem apart_add {W : World} {lo hi : Nat} {ps : List RP} {p : RP} (h : ps.Pairwise Apart) (hn : ∀ q ∈ ps, NearOwn W lo hi q) (hp : ∀ k, p.2.ownBlock = some k → hi ≤ k) : (ps ++ [p]).Pairwise Apart := by
  rw [List.pairwise_append]
  refine ⟨h, by simp, ?_⟩
  intro a ha b hb
  have : b = p := by simpa using hb
  subst this
  intro k hk he
  have h1 := (hn a ha).2 k hk
  have h2 := hp k he
  omega

/-- how many numbers a list has -/
def tot (ps : List RP) : Nat := (ps.map (fun p => 1 + p.1.near.length)).sum

theorem tot_cons (p : RP) (ps : List RP) : tot (p :: ps) = 1 + p.1.near.length + tot ps := by simp [tot]

theorem tot_append (a b : List RP) : tot (a ++ b) = tot a + tot b := by simp [tot]

theorem tot_len (ps : List RP) : ps.length ≤ tot ps := by
  induction ps with
  | nil => simp [tot]
  | cons p ps ih => rw [tot_cons, List.length_cons]; omega

theorem tot_mem {ps : List RP} {p : RP} (h : p ∈ ps) : p.1.near.length ≤ tot ps := by
  induction ps with
  | nil => simp at h
  | cons q ps ih =>
    rw [tot_cons]
    rcases List.mem_cons.1 h with rfl | h1
    · omega
    · have := ih h1; omega

theorem tot_map {ps qs : List RP} (h : ps.map (·.1) = qs.map (·.1)) : tot ps = tot qs := by
  have e : ∀ l : List RP, tot l = ((l.map (·.1)).map (fun x => 1 + x.near.length)).sum := fun l => by simp [tot, List.map_map, Function.comp_def]
  rw [e, e, h]

theorem tot_take {ps : List RP} {k : Nat} {p : RP} (h : ps[k]? = some p) : tot (ps.take (k + 1)) = tot (ps.take k) + (1 + p.1.near.length) := by
  obtain ⟨hk, e⟩ := List.getElem?_eq_some_iff.1 h
  rw [List.take_succ_eq_append_getElem hk, tot_append, e]
  simp [tot]

theorem map_take {ps : List RP} {k : Nat} {p : RP} (h : ps[k]? = some p) : (ps.take (k + 1)).map (·.1) = (ps.take k).map (·.1) ++ [p.1] := by
  obtain ⟨hk, e⟩ := List.getElem?_eq_some_iff.1 h
  rw [List.take_succ_eq_append_getElem hk, List.map_append, e]
  rfl
end Go.Proofs.YtfccainebmbbdaaDoor
namespace Go.Proofs.YtfccainebmbbdaaDoor
open Go.RowKit

theorem szR_neg {q : Int} {n : Nat} : szR q n < 0 ∨ (0 ≤ szR q n ∧ szR q n = q - (n : Int)) := by
  unfold szR
  split <;> omega

theorem Tryd.infoRec : (Tryd.prog.info? 39).map (fun i => (i.zero, i.size, i.bytes)) = some (some (.agg (recC zeroRD (.slice none 0 0))), 8, 80) := by kernel_rfl

def fsts (ps : List RP) : List RecD := ps.map (·.1)

theorem fsts_at {ps : List RP} {i : Nat} {p : RP} (h : ps[i]? = some p) : (fsts ps)[i]? = some p.1 := by simp [fsts, h]

set_option maxRecDepth 100000 in
set_option maxHeartbeats 2000000 in
theorem eqRecordS_any (v1 v2 : Value) (ps qs : List RP) (w : World) (h1 : RecsAt w v1 ps w.heap.size) (h2 : RecsAt w v2 qs w.heap.size) (hn : ps.length ≤ 1048576) (hns : ∀ p ∈ ps, p.1.near.length ≤ 1048576) :
    Calls Tryd.prog 19 #[v1, v2] w fun e w' => e = .returned (.bool (decide (fsts ps = fsts qs))) ∧ Below w.heap.size w w' := by
  obtain ⟨a1, c1, rfl⟩ := h1.shape
  obtain ⟨a2, c2, rfl⟩ := h2.shape
  by_cases hl : ps.length = qs.length
  · have K1 := hide h1
    have K2 := hide h2
    have HLN := hide hl
    have HNS := hide hns
    rw [← hl]
    clear h1 h2 hl hns
    go_enter Tryd.func19, Tryd.ntmps19
    go_wp2
    go_loopw [5] (fun i wr => ∃ k : Nat, k ≤ ps.length ∧ i = .int .i64 k ∧ (∀ j, j < k → (fsts ps)[j]? = (fsts qs)[j]?) ∧ Below w.heap.size w wr) (fun i _ => ps.length - (intOf i).toNat)
    case atStart => exact ⟨0, by omega, rfl, by omega, Below.refl _ _⟩
    case round =>
      obtain ⟨k, hk, rfl, hall, hnx⟩ := hrel
      have HALL := hide hall
      clear hall
      by_cases hlt : k < ps.length
      · obtain ⟨p, hp⟩ : ∃ l, ps[k]? = some l := ⟨ps[k], List.getElem?_eq_getElem hlt⟩
        obtain ⟨r, hr⟩ : ∃ l, qs[k]? = some l := ⟨qs[k], List.getElem?_eq_getElem (by have := HLN.out; omega)⟩
        obtain ⟨b1, o1, cp1, hv1, hb1, c0, c1', c2', c3, c4, c5, c6, c7, n1⟩ := K1.out.cells k p hp
        obtain ⟨b2, o2, cp2, hv2, hb2, d0, d1, d2, d3, d4, d5, d6, d7, n2⟩ := K2.out.cells k r hr
        cases hv1
        cases hv2
        rw [← hnx.cell (p := ⟨b1, o1 + k * 8, none⟩) hb1] at c0
        rw [← hnx.cell (p := ⟨b1, o1 + k * 8 + 1, none⟩) hb1] at c1'
        rw [← hnx.cell (p := ⟨b1, o1 + k * 8 + 2, none⟩) hb1] at c2'
        rw [← hnx.cell (p := ⟨b1, o1 + k * 8 + 3, none⟩) hb1] at c3
        rw [← hnx.cell (p := ⟨b1, o1 + k * 8 + 4, none⟩) hb1] at c4
        rw [← hnx.cell (p := ⟨b1, o1 + k * 8 + 5, none⟩) hb1] at c5
        rw [← hnx.cell (p := ⟨b1, o1 + k * 8 + 6, none⟩) hb1] at c6
        rw [← hnx.cell (p := ⟨b1, o1 + k * 8 + 7, none⟩) hb1] at c7
        rw [← hnx.cell (p := ⟨b2, o2 + k * 8, none⟩) hb2] at d0
        rw [← hnx.cell (p := ⟨b2, o2 + k * 8 + 1, none⟩) hb2] at d1
        rw [← hnx.cell (p := ⟨b2, o2 + k * 8 + 2, none⟩) hb2] at d2
        rw [← hnx.cell (p := ⟨b2, o2 + k * 8 + 3, none⟩) hb2] at d3
        rw [← hnx.cell (p := ⟨b2, o2 + k * 8 + 4, none⟩) hb2] at d4
        rw [← hnx.cell (p := ⟨b2, o2 + k * 8 + 5, none⟩) hb2] at d5
        rw [← hnx.cell (p := ⟨b2, o2 + k * 8 + 6, none⟩) hb2] at d6
        rw [← hnx.cell (p := ⟨b2, o2 + k * 8 + 7, none⟩) hb2] at d7
        have hzr := hnx.size
        have hb1' : b1 < wr.heap.size := by omega
        have hb2' : b2 < wr.heap.size := by omega
        have hki : (0 : Int) ≤ (k : Int) := by omega
        have hkj : (k : Int) < (ps.length : Int) := by omega
        have hkd : Below w.heap.size w wr.drew := hnx.drew
        have m1 := (RowAt.later n1 hkd (Nat.le_refl _)).more hkd.size
        have m2 := (RowAt.later n2 hkd (Nat.le_refl _)).more hkd.size
        have hq := eqRecord_any (.agg (recC p.1 p.2)) (.agg (recC r.1 r.2)) p.1 r.1 wr.drew ⟨_, rfl, m1⟩ ⟨_, rfl, m2⟩ (HNS.out p (List.mem_of_getElem? hp))
        unfold recC at hq
        obtain ⟨q, hqq⟩ : ∃ q, q = decide (p.1 = r.1) := ⟨_, rfl⟩
        rw [← hqq] at hq
        have HQ := hide hq
        have HQQ := hide hqq
        have HX := hide (fsts_at hp)
        have HY := hide (fsts_at hr)
        clear hq hqq hp hr n1 n2 m1 m2
        cases q
        · go_wp2
          go_region_held3 (fun W => W.cell? ⟨b1, o1 + k * 8, none⟩ = some (.int .i64 p.1.area) ∧ W.cell? ⟨b1, o1 + k * 8 + 1, none⟩ = some (.int .i64 p.1.kind) ∧ W.cell? ⟨b1, o1 + k * 8 + 2, none⟩ = some (.int .i64 p.1.owner) ∧ W.cell? ⟨b1, o1 + k * 8 + 3, none⟩ = some (.int .i64 p.1.key) ∧ W.cell? ⟨b1, o1 + k * 8 + 4, none⟩ = some (.int .i64 p.1.seq) ∧ W.cell? ⟨b1, o1 + k * 8 + 5, none⟩ = some (p.2) ∧ W.cell? ⟨b1, o1 + k * 8 + 6, none⟩ = some (.int .i64 p.1.cost) ∧ W.cell? ⟨b1, o1 + k * 8 + 7, none⟩ = some (.bool p.1.far) ∧ W.cell? ⟨b2, o2 + k * 8, none⟩ = some (.int .i64 r.1.area) ∧ W.cell? ⟨b2, o2 + k * 8 + 1, none⟩ = some (.int .i64 r.1.kind) ∧ W.cell? ⟨b2, o2 + k * 8 + 2, none⟩ = some (.int .i64 r.1.owner) ∧ W.cell? ⟨b2, o2 + k * 8 + 3, none⟩ = some (.int .i64 r.1.key) ∧ W.cell? ⟨b2, o2 + k * 8 + 4, none⟩ = some (.int .i64 r.1.seq) ∧ W.cell? ⟨b2, o2 + k * 8 + 5, none⟩ = some (r.2) ∧ W.cell? ⟨b2, o2 + k * 8 + 6, none⟩ = some (.int .i64 r.1.cost) ∧ W.cell? ⟨b2, o2 + k * 8 + 7, none⟩ = some (.bool r.1.far)) (first | go_keep | (refine ⟨?_, ?_, ?_, ?_, ?_, ?_, ?_, ?_, ?_, ?_, ?_, ?_, ?_, ?_, ?_, ?_⟩ <;> (rw [hbc.cell (by assumption)]; assumption))) (first | (go_at_call 43; refine HQ.out.mono ?_; rintro e w1 ⟨rfl, hbc⟩))
          go_wp2
          go_ret
          exact ⟨ret_bool_no (ne_at HX.out HY.out (of_decide_eq_false HQQ.out.symm)), hnx.trans ((Below.refl _ _).drew.trans (hbc.mono hzr))⟩
        · go_wp2
          go_region_held3 (fun W => W.cell? ⟨b1, o1 + k * 8, none⟩ = some (.int .i64 p.1.area) ∧ W.cell? ⟨b1, o1 + k * 8 + 1, none⟩ = some (.int .i64 p.1.kind) ∧ W.cell? ⟨b1, o1 + k * 8 + 2, none⟩ = some (.int .i64 p.1.owner) ∧ W.cell? ⟨b1, o1 + k * 8 + 3, none⟩ = some (.int .i64 p.1.key) ∧ W.cell? ⟨b1, o1 + k * 8 + 4, none⟩ = some (.int .i64 p.1.seq) ∧ W.cell? ⟨b1, o1 + k * 8 + 5, none⟩ = some (p.2) ∧ W.cell? ⟨b1, o1 + k * 8 + 6, none⟩ = some (.int .i64 p.1.cost) ∧ W.cell? ⟨b1, o1 + k * 8 + 7, none⟩ = some (.bool p.1.far) ∧ W.cell? ⟨b2, o2 + k * 8, none⟩ = some (.int .i64 r.1.area) ∧ W.cell? ⟨b2, o2 + k * 8 + 1, none⟩ = some (.int .i64 r.1.kind) ∧ W.cell? ⟨b2, o2 + k * 8 + 2, none⟩ = some (.int .i64 r.1.owner) ∧ W.cell? ⟨b2, o2 + k * 8 + 3, none⟩ = some (.int .i64 r.1.key) ∧ W.cell? ⟨b2, o2 + k * 8 + 4, none⟩ = some (.int .i64 r.1.seq) ∧ W.cell? ⟨b2, o2 + k * 8 + 5, none⟩ = some (r.2) ∧ W.cell? ⟨b2, o2 + k * 8 + 6, none⟩ = some (.int .i64 r.1.cost) ∧ W.cell? ⟨b2, o2 + k * 8 + 7, none⟩ = some (.bool r.1.far)) (first | go_keep | (refine ⟨?_, ?_, ?_, ?_, ?_, ?_, ?_, ?_, ?_, ?_, ?_, ?_, ?_, ?_, ?_, ?_⟩ <;> (rw [hbc.cell (by assumption)]; assumption))) (first | (go_at_call 43; refine HQ.out.mono ?_; rintro e w1 ⟨rfl, hbc⟩))
          go_wp2
          go_roundw
          case rel => exact ⟨k + 1, by omega, by go_num, (fun j hj => by
            by_cases e : j = k
            · subst e; rw [HX.out, HY.out, of_decide_eq_true HQQ.out.symm]
            · exact HALL.out j (by omega)), hnx.trans ((Below.refl _ _).drew.trans (hbc.mono hzr))⟩
          case measure => simp [intOf]; omega
      · have hkn : k = ps.length := by omega
        have KN := hide hkn
        clear hkn
        go_wp2
        go_ret
        exact ⟨ret_bool_yes (eq_all (by simp [fsts, HLN.out]) (by have := HALL.out; rw [KN.out] at this; simpa [fsts] using this)), hnx⟩
  · clear h1 h2
    have hd : ((ps.length : Int) != (qs.length : Int)) = true := by simp; omega
    go_enter Tryd.func19, Tryd.ntmps19
    go_wp2
    go_ret
    exact ⟨ret_bool_no (fun h => hl (by have := congrArg List.length h; simpa [fsts] using this)), Below.refl _ _⟩
end Go.Proofs.YtfccainebmbbdaaDoor
namespace Go.Proofs.YtfccainebmbbdaaDoor
open Go.RowKit

set_option linter.unusedSimpArgs false

theorem nrE_one5 (a : Nr) : ∀ u ∈ nrE a, u.oneCell' = true := by
  intro u hu
  simp [nrE] at hu
  rcases hu with rfl | rfl <;> rfl

/-- 'append(out, xs...)' of a row of structs, both the caller's own -/
theorem append_row5 {α : Type} {enc : α → List Value} {sz bytes : Nat} (hlen : ∀ l : List α, (flat enc l).length = l.length * sz) (hpos : 0 < sz) (hone : ∀ a, ∀ u ∈ enc a, u.oneCell' = true) (hbb : bytes ≤ 100) {P : Program} (w : World) {ops : Array Oper} {rest : List Oper} {o : Oper} {a : Act} {Q : Exit → Act → World → Prop} (hgd : o.guard = none) (s x : Operand) (t : TypeId)
    (ho : o.op = .call { callee := .builtin .append, args := #[s, x], argTypes := #[t, t] }) (base : Nat) (e : TypeId) (ht : P.underlying t = some (.slice e)) (zv : Value) (hzv : zv.cells.size = sz)
    (hinfo : (P.info? e).map (fun i => (i.zero, i.size, i.bytes)) = some (some zv, sz, bytes))
    (v : Value) (l : List α) (hs : a.eval s = v) (hown : w.ownsRow base e sz v l.length (flat enc l))
    (base2 : Nat) (v2 : Value) (l2 : List α) (hx : a.eval x = v2) (hown2 : w.ownsRow base2 e sz v2 l2.length (flat enc l2))
    (hl : l.length + l2.length ≤ 1000000000) (hbase : base ≤ w.heap.size)
    (h : ∀ v' w', w'.ownsRow base e sz v' (l ++ l2).length (flat enc (l ++ l2)) → w.grownBy w' v.ownBlock → wpList P ops Q rest (a.put o.dst v') w') : wpList P ops Q (o :: rest) a w := by
  obtain ⟨i0, hi, hz0, hz1, hz2⟩ := info_parts hinfo
  rcases hown2.2 with ⟨e1, e2⟩ | ⟨g, cap, cur, e1, _⟩
  · have e3 : l2 = [] := List.eq_nil_of_length_eq_zero e2
    subst e3
    refine wpList_append_own_none hgd s x t ho base e i0 sz ht hi v l.length (flat enc l) hs hown (hx.trans e1) ?_
    exact h v w (by simpa using hown) (grown_refl w _)
  · refine wpList_append_own w hgd s x t ho base e i0 zv sz bytes ht hi hz0 hz1 hz2 hzv hpos v l.length (flat enc l) hs hown ⟨g, 0, none⟩ l2.length cap (flat enc l2) (hx.trans e1) (hlen l2) (hown2.cells (by rw [e1]; rfl)) ?_ (by unfold maxLen; omega) ?_ hbase ?_
    · intro u hu
      simp only [flat, List.mem_flatMap] at hu
      obtain ⟨b, _, hb⟩ := hu
      exact hone b u hb
    · have : (l.length + l2.length) * bytes ≤ 1000000000 * 100 := Nat.mul_le_mul hl hbb
      omega
    · intro v' w' h1 h2 _
      have e1 : flat enc l ++ flat enc l2 = flat enc (l ++ l2) := by rw [flat_append]
      rw [e1] at h1
      exact h v' w' (by simpa using h1) h2

abbrev putR5 (W : World) (g : Nat) (x : RecD) (v : Value) : World := (((((((W.setCell ⟨g, 0, none⟩ (.int .i64 x.area)).setCell ⟨g, 1, none⟩ (.int .i64 x.kind)).setCell ⟨g, 2, none⟩ (.int .i64 x.owner)).setCell ⟨g, 3, none⟩ (.int .i64 x.key)).setCell ⟨g, 4, none⟩ (.int .i64 x.seq)).setCell ⟨g, 5, none⟩ v).setCell ⟨g, 6, none⟩ (.int .i64 x.cost)).setCell ⟨g, 7, none⟩ (.bool x.far)

set_option maxHeartbeats 1000000 in
theorem fin85 {W : World} {B0 : Nat} {c0 c1 c2 c3 c4 c5 c6 c7 : Value} (x : RecD) (v : Value) (hr : W.heap[B0]? = some (.cells #[c0, c1, c2, c3, c4, c5, c6, c7] 39)) :
    (putR5 W B0 x v).heap[B0]? = some (.cells (recC x v) 39) := by
  have k1 := heap_setCell_same _ _ 0 _ _ (.int .i64 x.area) hr
  have k2 := heap_setCell_same _ _ 1 _ _ (.int .i64 x.kind) k1
  have k3 := heap_setCell_same _ _ 2 _ _ (.int .i64 x.owner) k2
  have k4 := heap_setCell_same _ _ 3 _ _ (.int .i64 x.key) k3
  have k5 := heap_setCell_same _ _ 4 _ _ (.int .i64 x.seq) k4
  have k6 := heap_setCell_same _ _ 5 _ _ v k5
  have k7 := heap_setCell_same _ _ 6 _ _ (.int .i64 x.cost) k6
  have k8 := heap_setCell_same _ _ 7 _ _ (.bool x.far) k7
  simp only [List.setIfInBounds_toArray, List.set_cons_zero, List.set_cons_succ] at k8
  unfold putR5 recC
  exact k8

theorem grown85 (W : World) (g : Nat) (x : RecD) (v : Value) : W.grownBy (putR5 W g x v) (some g) :=
  grown_trans (grown_trans (grown_trans (grown_trans (grown_trans (grown_trans (grown_trans (grown_set W g _ _) (grown_set _ g _ _)) (grown_set _ g _ _)) (grown_set _ g _ _)) (grown_set _ g _ _)) (grown_set _ g _ _)) (grown_set _ g _ _)) (grown_set _ g _ _)

theorem nr_flat5 (l : List Nr) : (flat nrE l).length = l.length * 2 := flat_len nrE_len l

theorem own_lit05 (W : World) (g base : Nat) (hg : g = W.heap.size) (hb : base ≤ W.heap.size) : (W.alloc (.cells #[] 55)).ownsRow base 55 2 (.slice (some ⟨g, 0, none⟩) 0 0) 0 (flat nrE []) := by
  subst hg
  exact World.ownsRow_lit W #[] 0 hb (by unfold maxLen; omega) (by simp)

set_option maxRecDepth 100000 in
set_option maxHeartbeats 1000000 in
theorem copy5_any (x : RecD) (v : Value) (base : Nat) (w : World) (ho : w.ownsRow base 55 2 v x.near.length (flat nrE x.near)) (hn : x.near.length ≤ 1048576) :
    Calls Tryd.prog 52 #[.agg (recC x v)] w fun e w' => ∃ v', e = .returned (.agg (recC x v')) ∧ w'.ownsRow w.heap.size 55 2 v' x.near.length (flat nrE x.near) ∧ Below w.heap.size w w' := by
  obtain ⟨va, vc, rfl⟩ := owns_lenS ho
  have OW := hide ho
  clear ho
  go_enter Tryd.func52, Tryd.ntmps52
  unfold recC
  go_wp2_with (first
    | (at_builtin; refine append_row5 nr_flat5 (by omega) nrE_one5 (by omega) _ rfl _ _ 37 rfl (w.heap.size + 2) 55 Tryd.underlying37 (nrV nr0) rfl Tryd.infoNr _ [] rfl ?own0 base _ x.near rfl (((OW.out.alloc _).alloc _).alloc _) (by simp; omega) (by simp) ?_))
  case own0 =>
    exact own_lit05 _ _ _ (by simp) (by simp)
  intro v' w4 hown' hgrow
  obtain ⟨na, nc, rfl⟩ := owns_lenS hown'
  simp only [Value.ownBlock] at hgrow
  have hb4 : Below w.heap.size w w4 := ((((Below.refl w.heap.size w).alloc (by simp) _).alloc (by simp) _).alloc (by simp; omega) _).grown hgrow (by simp; omega) (fun k hk => by simp at hk; omega)
  have q0 : w4.heap[w.heap.size]? = some (.cells #[.int .i64 x.area, .int .i64 x.kind, .int .i64 x.owner, .int .i64 x.key, .int .i64 x.seq, .slice va x.near.length vc, .int .i64 x.cost, .bool x.far] 39) := by
    rw [hgrow.block w.heap.size (by simp; omega) (by simp; omega), Below.heap_alloc _ _ _ (by simp; omega), Below.heap_alloc _ _ _ (by simp), heap_alloc_new]
  have q1 : w4.heap[w.heap.size + 1]? = some (.cells #[.int .i64 0, .int .i64 0, .int .i64 0, .int .i64 0, .int .i64 0, .slice none 0 0, .int .i64 0, .bool false] 39) := by
    rw [hgrow.block (w.heap.size + 1) (by simp) (by simp), Below.heap_alloc _ _ _ (by simp)]
    have e := heap_alloc_new (w.alloc (.cells #[.int .i64 x.area, .int .i64 x.kind, .int .i64 x.owner, .int .i64 x.key, .int .i64 x.seq, .slice va x.near.length vc, .int .i64 x.cost, .bool x.far] 39)) (.cells #[.int .i64 0, .int .i64 0, .int .i64 0, .int .i64 0, .int .i64 0, .slice none 0 0, .int .i64 0, .bool false] 39)
    rw [show (w.alloc (.cells #[.int .i64 x.area, .int .i64 x.kind, .int .i64 x.owner, .int .i64 x.key, .int .i64 x.seq, .slice va x.near.length vc, .int .i64 x.cost, .bool x.far] 39)).heap.size = w.heap.size + 1 by simp] at e
    exact e
  have r5 := cells_at q0 5
  have f0 := frozen_at q0
  simp at r5
  have q2 := heap_setCell_same w4 w.heap.size 5 _ _ (.slice na x.near.length nc) q0
  simp only [List.setIfInBounds_toArray, List.set_cons_zero, List.set_cons_succ] at q2
  have q3 : (w4.setCell ⟨w.heap.size, 5, none⟩ (.slice na x.near.length nc)).heap[w.heap.size + 1]? = some (.cells #[.int .i64 0, .int .i64 0, .int .i64 0, .int .i64 0, .int .i64 0, .slice none 0 0, .int .i64 0, .bool false] 39) := by
    rw [heap_setCell_other w4 ⟨w.heap.size, 5, none⟩ _ _ (by show w.heap.size + 1 ≠ w.heap.size; omega)]; exact q1
  have y0 := cells_at q2 0
  have y1 := cells_at q2 1
  have y2 := cells_at q2 2
  have y3 := cells_at q2 3
  have y4 := cells_at q2 4
  have y5 := cells_at q2 5
  have y6 := cells_at q2 6
  have y7 := cells_at q2 7
  simp at y0 y1 y2 y3 y4 y5 y6 y7
  have u0 := cells_at q3 0
  have u1 := cells_at q3 1
  have u2 := cells_at q3 2
  have u3 := cells_at q3 3
  have u4 := cells_at q3 4
  have u5 := cells_at q3 5
  have u6 := cells_at q3 6
  have u7 := cells_at q3 7
  simp at u0 u1 u2 u3 u4 u5 u6 u7
  have fu := frozen_at q3
  have F := fin85 x (.slice na x.near.length nc) q3
  have hown2 := owns_set (j := 5) (u := .slice na x.near.length nc) hown' (show w.heap.size < w.heap.size + 2 by omega)
  have G8 := grown85 (w4.setCell ⟨w.heap.size, 5, none⟩ (.slice na x.near.length nc)) (w.heap.size + 1) x (.slice na x.near.length nc)
  have hown3 := owns_baseS (b0 := w.heap.size) (hown2.kept G8 (by
    cases hv : (Value.slice na x.near.length nc).ownBlock with
    | none => exact .inl rfl
    | some g => exact .inr (fun e => by have := (hown2.lt g hv).1; simp at e; omega))) (by omega)
  have hb5 : Below w.heap.size w (putR5 (w4.setCell ⟨w.heap.size, 5, none⟩ (.slice na x.near.length nc)) (w.heap.size + 1) x (.slice na x.near.length nc)) := (hb4.setCell (p := ⟨w.heap.size, 5, none⟩) (Nat.le_refl _) _).grown G8 (by have := lt_of_heap q3; omega) (fun k hk => by simp at hk; omega)
  have FF := hide F
  have H3 := hide hown3
  have H5 := hide hb5
  clear F hown3 hb5 hown2 G8 hb4 hown' hgrow q0 q1 q2 q3 OW
  go_wp2_with fail
  (try simp only [Exit.inBlock, Exit.then])
  refine bodyPost_ret (results_cell_row rfl _ _ (w.heap.size + 1) 39 (recC _ _) (0, 0) _ rfl FF.out Tryd.underlying39 rfl (by kernel_rfl)) rfl ?_
  exact ⟨_, rfl, H3.out, H5.out⟩

end Go.Proofs.YtfccainebmbbdaaDoor
