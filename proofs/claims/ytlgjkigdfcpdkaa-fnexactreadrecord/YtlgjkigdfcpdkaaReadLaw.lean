/-
  laws.FnExactReadRecord: its walk.
-/
import Derived.Test.YtlgjkigdfcpdkaaReadS
import Derived.Test.YtlgjkigdfcpdkaaMarkR
import Derived.Test.YtlgjkigdfcpdkaaRecLaw
namespace Go.Proofs.Ytlgjkigdfcpdkaa
open Go.RowKit

theorem own_type_ne {W : World} {base size n z : Nat} {e t : TypeId} {v : Value} {xs : List Value} {C : Array Value} {fr : Nat × Nat} (ho : W.ownsRow base e size v n xs) (h : W.heap[z]? = some (.cells C t fr)) (hne : e ≠ t) : some z ≠ v.ownBlock := by
  intro eq
  rcases ho.2 with ⟨h1, _⟩ | ⟨g', cap', cur', hv', _, hh', _⟩
  · rw [h1] at eq; simp [Value.ownBlock] at eq
  · rw [hv'] at eq
    simp [Value.ownBlock] at eq
    subst eq
    rw [h] at hh'
    simp at hh'
    exact hne hh'.2.1.symm

theorem owns_marks {W : World} {b n : Nat} {v : Value} {q : Int} (h : W.ownsRow b 51 2 v n (flat nrE (marks q n))) : NearsAt W v (marks q n) W.heap.size := owns_rowAt (xs := marks q n) (by rw [marks_len]; exact h)

theorem readD_len (s : ByteArray) : (readD s).near.length ≤ 6 := by
  unfold readD
  cases h : okI s with
  | false => simp [zeroR]
  | true =>
    have : recOkB (recP s (cntI s)) = true := by
      unfold okI at h
      simp only [Bool.and_eq_true] at h
      exact h.2
    simpa using recOk_six this

set_option maxRecDepth 100000 in
set_option maxHeartbeats 2000000 in
theorem fnExactReadRecord_walk (s : ByteArray) (w : World) (_ : s.size ≤ maxLen) :
    Calls Try.prog 10 #[.string s] w fun e w' => e = .returned (.bool true) ∧ Below w.heap.size w w' := by
  by_cases hs : (1048576 : Int) < (s.size : Int)
  · go_enter Try.func10, Try.ntmps10
    go_wp2
    go_ret
    exact ⟨rfl, Below.refl _ _⟩
  have CS := hide (fun W => sreadR_any s W (by omega))
  have CI := hide (fun W => ireadR_any s W (by omega))
  have hln := readD_len s
  obtain ⟨D, hD⟩ : ∃ D, D = readD s := ⟨_, rfl⟩
  obtain ⟨O, hO⟩ : ∃ O, O = okI s := ⟨_, rfl⟩
  rw [← hD] at CS CI hln
  rw [← hO] at CS CI
  clear hD hO
  have HEQ := hide eqRecord_any
  have HMK := hide markRecord_any
  have HHD := hide heldRecord_any
  unfold recC at *
  go_enter Try.func10, Try.ntmps10
  go_wp2_with fail
  refine (CS.out _).mono ?_
  rintro e w1 ⟨u, rfl, o1, b1⟩
  obtain ⟨wa, wc, rfl⟩ := owns_lenS o1
  have N1 := hide (owns_rowAt o1)
  have z1 := heap_alloc_new w1 (.cells #[.int .i64 D.area, .int .i64 D.kind, .int .i64 D.owner, .int .i64 D.key, .int .i64 D.seq, .slice wa D.near.length wc, .int .i64 D.cost, .bool D.far] 26)
  have b2 : Below w1.heap.size w1 (w1.alloc (.cells #[.int .i64 D.area, .int .i64 D.kind, .int .i64 D.owner, .int .i64 D.key, .int .i64 D.seq, .slice wa D.near.length wc, .int .i64 D.cost, .bool D.far] 26)) := (Below.refl _ _).alloc (Nat.le_refl _) _
  have B2 : Below w.heap.size w (w1.alloc (.cells #[.int .i64 D.area, .int .i64 D.kind, .int .i64 D.owner, .int .i64 D.key, .int .i64 D.seq, .slice wa D.near.length wc, .int .i64 D.cost, .bool D.far] 26)) := b1.trans (b2.mono b1.size)
  have N2 := hide (RowAt.then N1.out b2)
  have Z1 := hide z1
  obtain ⟨zw, hzw⟩ : ∃ z, z = w1.heap.size := ⟨_, rfl⟩
  clear o1 b1 z1 N1 CS
  go_wp2_with fail
  rw [← hzw] at Z1 ⊢
  generalize w1.alloc (.cells #[.int .i64 D.area, .int .i64 D.kind, .int .i64 D.owner, .int .i64 D.key, .int .i64 D.seq, .slice wa D.near.length wc, .int .i64 D.cost, .bool D.far] 26) = w2 at *
  clear hzw b2
  refine (CI.out _).mono ?_
  rintro e w3 ⟨u, rfl, o3, b3⟩
  obtain ⟨ga, gc, rfl⟩ := owns_lenS o3
  have hz2 := lt_of_heap Z1.out
  have Z3 : w3.heap[zw]? = _ := (b3.block _ hz2).trans Z1.out
  have N3 := RowAt.later N2.out b3 (Nat.le_refl _)
  have B3 : Below w.heap.size w w3 := B2.trans (b3.mono B2.size)
  obtain ⟨bs3, hbs3⟩ : ∃ b, b = w2.heap.size := ⟨_, rfl⟩
  rw [← hbs3] at o3 N3 hz2
  have hs3 : bs3 ≤ w3.heap.size := by rw [hbs3]; exact b3.size
  have hwb : w.heap.size ≤ bs3 := by rw [hbs3]; exact B2.size
  clear hbs3 b3 Z1 N2 B2
  have ob4 : Below w3.heap.size w3 (w3.alloc (.cells #[.int .i64 D.area, .int .i64 D.kind, .int .i64 D.owner, .int .i64 D.key, .int .i64 D.seq, .slice ga D.near.length gc, .int .i64 D.cost, .bool D.far] 26)) := (Below.refl _ _).alloc (Nat.le_refl _) _
  have g4 := heap_alloc_new w3 (.cells #[.int .i64 D.area, .int .i64 D.kind, .int .i64 D.owner, .int .i64 D.key, .int .i64 D.seq, .slice ga D.near.length gc, .int .i64 D.cost, .bool D.far] 26)
  have Z4 := (ob4.block _ (lt_of_heap Z3)).trans Z3
  have N4 := RowAt.later N3 ob4 hs3
  have o4 := o3.alloc (.cells #[.int .i64 D.area, .int .i64 D.kind, .int .i64 D.owner, .int .i64 D.key, .int .i64 D.seq, .slice ga D.near.length gc, .int .i64 D.cost, .bool D.far] 26)
  have B4 : Below w.heap.size w (w3.alloc (.cells #[.int .i64 D.area, .int .i64 D.kind, .int .i64 D.owner, .int .i64 D.key, .int .i64 D.seq, .slice ga D.near.length gc, .int .i64 D.cost, .bool D.far] 26)) := B3.alloc B3.size _
  have hs4 : bs3 < (w3.alloc (.cells #[.int .i64 D.area, .int .i64 D.kind, .int .i64 D.owner, .int .i64 D.key, .int .i64 D.seq, .slice ga D.near.length gc, .int .i64 D.cost, .bool D.far] 26)).heap.size := by simp; omega
  obtain ⟨zg, hzg⟩ : ∃ z, z = w3.heap.size := ⟨_, rfl⟩
  have hgb : bs3 ≤ zg := by rw [hzg]; exact hs3
  rw [← hzg] at g4
  have s0 := cells_at Z4 0
  have s1 := cells_at Z4 1
  have s2 := cells_at Z4 2
  have s3 := cells_at Z4 3
  have s4 := cells_at Z4 4
  have s5 := cells_at Z4 5
  have s6 := cells_at Z4 6
  have s7 := cells_at Z4 7
  simp at s0 s1 s2 s3 s4 s5 s6 s7
  have t0 := cells_at g4 0
  have t1 := cells_at g4 1
  have t2 := cells_at g4 2
  have t3 := cells_at g4 3
  have t4 := cells_at g4 4
  have t5 := cells_at g4 5
  have t6 := cells_at g4 6
  have t7 := cells_at g4 7
  simp at t0 t1 t2 t3 t4 t5 t6 t7
  have GG4 := hide g4
  have ZZ4 := hide Z4
  have NN4 := hide N4
  have OO4 := hide o4
  clear ob4 Z3 N3 o3 B3 g4 Z4 N4 o4 hs3
  rw [hzg] at t0 t1 t2 t3 t4 t5 t6 t7
  go_wp2_with fail
  rw [← hzg] at t0 t1 t2 t3 t4 t5 t6 t7 ⊢
  generalize w3.alloc (.cells #[.int .i64 D.area, .int .i64 D.kind, .int .i64 D.owner, .int .i64 D.key, .int .i64 D.seq, .slice ga D.near.length gc, .int .i64 D.cost, .bool D.far] 26) = w4 at *
  clear hzg
  refine (HEQ.out _ _ D D _ ⟨_, rfl, owns_rowAt OO4.out⟩ ⟨_, rfl, RowAt.more NN4.out (Nat.le_of_lt hs4)⟩ (by omega)).mono ?_
  rintro e w5 ⟨rfl, b5⟩
  have B5 : Below w.heap.size w w5 := B4.trans (b5.mono B4.size)
  have G5 := hide ((b5.block _ (lt_of_heap GG4.out)).trans GG4.out)
  have Z5 := hide ((b5.block _ (lt_of_heap ZZ4.out)).trans ZZ4.out)
  have N5 := hide (RowAt.later NN4.out b5 (Nat.le_of_lt hs4))
  have O5 := hide (owns_below OO4.out b5 (Nat.le_refl _))
  have hs5 : bs3 < w5.heap.size := Nat.lt_of_lt_of_le hs4 b5.size
  clear s0 s1 s2 s3 s4 s5 s6 s7 t0 t1 t2 t3 t4 t5 t6 t7 b5 GG4 ZZ4 NN4 OO4 B4 hs4
  have t0 := cells_at G5.out 0
  have t1 := cells_at G5.out 1
  have t2 := cells_at G5.out 2
  have t3 := cells_at G5.out 3
  have t4 := cells_at G5.out 4
  have t5 := cells_at G5.out 5
  have t6 := cells_at G5.out 6
  have t7 := cells_at G5.out 7
  simp at t0 t1 t2 t3 t4 t5 t6 t7
  cases O
  all_goals
    go_wp2_with fail
    refine (HMK.out _ D bs3 1 _ O5.out (by omega) (by omega) (by omega)).mono ?_
    rintro e w6 ⟨rfl, o6, k6⟩
    have kb : Below bs3 w5 w6 := (Below.refl _ _).grown k6 (Nat.le_of_lt hs5) (fun k hk => (O5.out.lt k hk).1)
    have B6 : Below w.heap.size w w6 := B5.trans (kb.mono hwb)
    have hgne : some zg ≠ (Value.slice ga D.near.length gc).ownBlock := own_type_ne O5.out G5.out (by decide)
    have G6 := hide ((k6.block _ (lt_of_heap G5.out) hgne).trans G5.out)
    have Z6 := hide ((kb.block _ hz2).trans Z5.out)
    have N6 := hide (RowAt.later N5.out kb (Nat.le_refl _))
    have O6 := hide o6
    have hs6 : bs3 < w6.heap.size := Nat.lt_of_lt_of_le hs5 k6.size
    clear t0 t1 t2 t3 t4 t5 t6 t7 o6 k6 kb
    have t0 := cells_at G6.out 0
    have t1 := cells_at G6.out 1
    have t2 := cells_at G6.out 2
    have t3 := cells_at G6.out 3
    have t4 := cells_at G6.out 4
    have t5 := cells_at G6.out 5
    have t6 := cells_at G6.out 6
    have t7 := cells_at G6.out 7
    simp at t0 t1 t2 t3 t4 t5 t6 t7
    go_wp2_with fail
    refine (HHD.out _ D D.near.length 1 _ (owns_marks O6.out) (by omega) (by omega) (by omega)).mono ?_
    rintro e w7 ⟨rfl, b7⟩
    have B7 : Below w.heap.size w w7 := B6.trans (b7.mono B6.size)
    have G7 := hide ((b7.block _ (lt_of_heap G6.out)).trans G6.out)
    have Z7 := hide ((b7.block _ (lt_of_heap Z6.out)).trans Z6.out)
    have N7 := hide (RowAt.later N6.out b7 (Nat.le_of_lt hs6))
    have O7 := hide (owns_below O6.out b7 (Nat.le_refl _))
    have hs7 : bs3 < w7.heap.size := Nat.lt_of_lt_of_le hs6 b7.size
    have hnn : ¬ 1 + 2 * (D.near.length : Int) < 0 := by omega
    clear t0 t1 t2 t3 t4 t5 t6 t7 b7 G6 Z6 N6 O6 B6 hs6 G5 Z5 N5 O5 B5 hs5
    go_wp2_with fail
    refine (CI.out _).mono ?_
    rintro e w8 ⟨u, rfl, o8, b8⟩
    obtain ⟨ha, hc, rfl⟩ := owns_lenS o8
    have B8 : Below w.heap.size w w8 := B7.trans (b8.mono B7.size)
    have G8 := hide ((b8.block _ (lt_of_heap G7.out)).trans G7.out)
    have Z8 := hide ((b8.block _ (lt_of_heap Z7.out)).trans Z7.out)
    have N8 := hide (RowAt.later N7.out b8 (Nat.le_of_lt hs7))
    have O8 := hide (owns_below O7.out b8 (Nat.le_refl _))
    have hs8 : bs3 < w8.heap.size := Nat.lt_of_lt_of_le hs7 b8.size
    have H8 := hide o8
    clear b8 o8 G7 Z7 N7 O7 B7 hs7
    have ob9 : Below w8.heap.size w8 (w8.alloc (.cells #[.int .i64 D.area, .int .i64 D.kind, .int .i64 D.owner, .int .i64 D.key, .int .i64 D.seq, .slice ha D.near.length hc, .int .i64 D.cost, .bool D.far] 26)) := (Below.refl _ _).alloc (Nat.le_refl _) _
    have h9 := heap_alloc_new w8 (.cells #[.int .i64 D.area, .int .i64 D.kind, .int .i64 D.owner, .int .i64 D.key, .int .i64 D.seq, .slice ha D.near.length hc, .int .i64 D.cost, .bool D.far] 26)
    have Z9 := (ob9.block _ (lt_of_heap Z8.out)).trans Z8.out
    have G9 := (ob9.block _ (lt_of_heap G8.out)).trans G8.out
    have N9 := RowAt.later N8.out ob9 (Nat.le_of_lt hs8)
    have O9 := O8.out.alloc (.cells #[.int .i64 D.area, .int .i64 D.kind, .int .i64 D.owner, .int .i64 D.key, .int .i64 D.seq, .slice ha D.near.length hc, .int .i64 D.cost, .bool D.far] 26)
    have HR9 := H8.out.alloc (.cells #[.int .i64 D.area, .int .i64 D.kind, .int .i64 D.owner, .int .i64 D.key, .int .i64 D.seq, .slice ha D.near.length hc, .int .i64 D.cost, .bool D.far] 26)
    have B9 : Below w.heap.size w (w8.alloc (.cells #[.int .i64 D.area, .int .i64 D.kind, .int .i64 D.owner, .int .i64 D.key, .int .i64 D.seq, .slice ha D.near.length hc, .int .i64 D.cost, .bool D.far] 26)) := B8.alloc B8.size _
    have hs9 : bs3 < (w8.alloc (.cells #[.int .i64 D.area, .int .i64 D.kind, .int .i64 D.owner, .int .i64 D.key, .int .i64 D.seq, .slice ha D.near.length hc, .int .i64 D.cost, .bool D.far] 26)).heap.size := by simp; omega
    have s0 := cells_at Z9 0
    have s1 := cells_at Z9 1
    have s2 := cells_at Z9 2
    have s3 := cells_at Z9 3
    have s4 := cells_at Z9 4
    have s5 := cells_at Z9 5
    have s6 := cells_at Z9 6
    have s7 := cells_at Z9 7
    simp at s0 s1 s2 s3 s4 s5 s6 s7
    have t0 := cells_at h9 0
    have t1 := cells_at h9 1
    have t2 := cells_at h9 2
    have t3 := cells_at h9 3
    have t4 := cells_at h9 4
    have t5 := cells_at h9 5
    have t6 := cells_at h9 6
    have t7 := cells_at h9 7
    simp at t0 t1 t2 t3 t4 t5 t6 t7
    have ZZ9 := hide Z9
    have GG9 := hide G9
    have NN9 := hide N9
    have OO9 := hide O9
    have HH9 := hide HR9
    clear ob9 h9 Z9 G9 N9 O9 HR9 B8 G8 Z8 N8 O8 H8 hs8
    go_wp2_with fail
    generalize w8.alloc (.cells #[.int .i64 D.area, .int .i64 D.kind, .int .i64 D.owner, .int .i64 D.key, .int .i64 D.seq, .slice ha D.near.length hc, .int .i64 D.cost, .bool D.far] 26) = w9 at *
    refine (HEQ.out _ _ D D _ ⟨_, rfl, owns_rowAt HH9.out⟩ ⟨_, rfl, RowAt.more NN9.out (Nat.le_of_lt hs9)⟩ (by omega)).mono ?_
    rintro e w10 ⟨rfl, b10⟩
    have B10 : Below w.heap.size w w10 := B9.trans (b10.mono B9.size)
    have G10 := hide ((b10.block _ (lt_of_heap GG9.out)).trans GG9.out)
    have O10 := hide (owns_below OO9.out b10 (Nat.le_refl _))
    clear s0 s1 s2 s3 s4 s5 s6 s7 t0 t1 t2 t3 t4 t5 t6 t7 b10 ZZ9 GG9 NN9 OO9 HH9 B9 hs9
    have t0 := cells_at G10.out 0
    have t1 := cells_at G10.out 1
    have t2 := cells_at G10.out 2
    have t3 := cells_at G10.out 3
    have t4 := cells_at G10.out 4
    have t5 := cells_at G10.out 5
    have t6 := cells_at G10.out 6
    have t7 := cells_at G10.out 7
    simp at t0 t1 t2 t3 t4 t5 t6 t7
    go_wp2_with fail
    refine (HHD.out _ D D.near.length 1 _ (owns_marks O10.out) (by omega) (by omega) (by omega)).mono ?_
    rintro e w11 ⟨rfl, b11⟩
    have B11 : Below w.heap.size w w11 := B10.trans (b11.mono B10.size)
    clear t0 t1 t2 t3 t4 t5 t6 t7 b11 G10 O10
    go_wp2
    go_ret
    exact ⟨rfl, B11⟩
end Go.Proofs.Ytlgjkigdfcpdkaa
