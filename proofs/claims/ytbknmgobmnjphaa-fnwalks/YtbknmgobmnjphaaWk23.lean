/-
  The ideal records, as values.
  append of a row of structs, each of one cell a field.
  spec.l13Beyond: its walk.
-/
import Derived.Test.YtbknmgobmnjphaaWk9
import Derived.Test.YtbknmgobmnjphaaWk20
import Derived.Test.YtbknmgobmnjphaaWk22
import Derived.Test.YtbknmgobmnjphaaWk2
namespace Go.Proofs.Ytbknmgobmnjphaa
open Go.RowKit

/-- is node k + 1 up? -/
def upB (zs : List Bool) (k : Nat) : Bool := (zs[k]?).getD false

/-- what node v hears of nodes 1 .. k in an area -/
def nearK (ls : List Lk) (bs zs : List Bool) (v a : Int) : Nat → List Nr
  | 0 => []
  | k + 1 => nearK ls bs zs v a k ++ (if decide (0 < openN ls bs v ((k : Int) + 1) a) && upB zs k then [⟨(k : Int) + 1, openN ls bs v ((k : Int) + 1) a⟩] else [])

theorem nearK_len (ls : List Lk) (bs zs : List Bool) (v a : Int) : ∀ k, (nearK ls bs zs v a k).length ≤ k
  | 0 => by simp [nearK]
  | k + 1 => by
    have := nearK_len ls bs zs v a k
    unfold nearK
    rw [List.length_append]
    split <;> simp <;> omega

def nodRec (v a : Int) (near : List Nr) : RecD := ⟨a, 1, v, 0, 1, near, 0, false⟩

def thgRec (t : Th) : RecD := ⟨9, 3, t.o, t.k, 1, [], t.c, t.f⟩

/-- the records of node v in the first j of the areas al, put into xs -/
def areaK (ls : List Lk) (bs zs : List Bool) (N : Nat) (v : Int) (al : List Int) (xs : List RecD) : Nat → List RecD
  | 0 => xs
  | j + 1 => putD (areaK ls bs zs N v al xs j) (nodRec v (al.getD j 0) (nearK ls bs zs v (al.getD j 0) N))

/-- the records of nodes 1 .. k -/
def idA (ls : List Lk) (bs zs : List Bool) (N : Nat) : Nat → List RecD
  | 0 => []
  | k + 1 => if upB zs k then areaK ls bs zs N ((k : Int) + 1) (areasL ls ((k : Int) + 1)) (idA ls bs zs N k) (areasL ls ((k : Int) + 1)).length else idA ls bs zs N k

/-- and of the first k things -/
def idB (ts : List Th) (zs : List Bool) (xs : List RecD) : Nat → List RecD
  | 0 => xs
  | k + 1 => match ts[k]? with
    | some t => if upB zs (t.o - 1).toNat then putD (idB ts zs xs k) (thgRec t) else idB ts zs xs k
    | none => idB ts zs xs k

/-- what borders of 1 .. k tell of beyond -/
noncomputable def idC (ls : List Lk) (zs : List Bool) (xs : List RecD) : Nat → List RecD
  | 0 => xs
  | k + 1 => if upB zs k && bordB ls ((k : Int) + 1) then beyD (idC ls zs xs k) (areasL ls ((k : Int) + 1)) ((k : Int) + 1) else idC ls zs xs k

noncomputable def idR (ls : List Lk) (zs : List Bool) (N : Nat) (xs : List RecD) : Nat → List RecD
  | 0 => xs
  | r + 1 => idC ls zs (idR ls zs N xs r) N

noncomputable def idealD (ls : List Lk) (ts : List Th) (bs zs : List Bool) (N : Nat) : List RecD := idR ls zs N (idB ts zs (idA ls bs zs N N) ts.length) 3

theorem areasL_len (ls : List Lk) (v : Int) : (areasL ls v).length ≤ 3 := by
  unfold areasL
  exact Nat.le_trans (List.length_filter_le _ _) (by simp)

theorem upB_at {zs : List Bool} {k : Nat} {b : Bool} (h : zs[k]? = some b) : upB zs k = b := by simp [upB, h]

theorem areaK_step {ls : List Lk} {bs zs : List Bool} {N : Nat} {v : Int} {al : List Int} {xs : List RecD} {j : Nat} {a : Int} (h : al[j]? = some a) : areaK ls bs zs N v al xs (j + 1) = putD (areaK ls bs zs N v al xs j) (nodRec v a (nearK ls bs zs v a N)) := by
  have : al.getD j 0 = a := by simp [List.getD, h]
  simp only [areaK, this]

theorem nearK_yes {ls : List Lk} {bs zs : List Bool} {v a q : Int} {k : Nat} (hq : q = openN ls bs v ((k : Int) + 1) a) (h0 : 0 < q) (hz : zs[k]? = some true) : nearK ls bs zs v a (k + 1) = nearK ls bs zs v a k ++ [⟨(k : Int) + 1, q⟩] := by
  subst hq
  simp only [nearK, upB_at hz, decide_eq_true h0, Bool.and_self, if_true]

theorem nearK_no {ls : List Lk} {bs zs : List Bool} {v a q : Int} {k : Nat} {b : Bool} (hq : q = openN ls bs v ((k : Int) + 1) a) (hz : zs[k]? = some b) (h0 : ¬ 0 < q ∨ b = false) : nearK ls bs zs v a (k + 1) = nearK ls bs zs v a k := by
  subst hq
  simp only [nearK, upB_at hz]
  rcases h0 with h | h
  · simp [h]
  · subst h; simp

theorem idA_up {ls : List Lk} {bs zs : List Bool} {N k : Nat} (hz : zs[k]? = some true) : idA ls bs zs N (k + 1) = areaK ls bs zs N ((k : Int) + 1) (areasL ls ((k : Int) + 1)) (idA ls bs zs N k) (areasL ls ((k : Int) + 1)).length := by
  simp only [idA, upB_at hz, if_true]

theorem idA_down {ls : List Lk} {bs zs : List Bool} {N k : Nat} (hz : zs[k]? = some false) : idA ls bs zs N (k + 1) = idA ls bs zs N k := by
  simp [idA, upB_at hz]

theorem idB_up {ts : List Th} {zs : List Bool} {xs : List RecD} {k m : Nat} {t : Th} (ht : ts[k]? = some t) (hm : t.o = (m : Int) + 1) (hz : zs[m]? = some true) : idB ts zs xs (k + 1) = putD (idB ts zs xs k) (thgRec t) := by
  have : (t.o - 1).toNat = m := by omega
  simp only [idB, ht, this, upB_at hz, if_true]

theorem idB_down {ts : List Th} {zs : List Bool} {xs : List RecD} {k m : Nat} {t : Th} (ht : ts[k]? = some t) (hm : t.o = (m : Int) + 1) (hz : zs[m]? = some false) : idB ts zs xs (k + 1) = idB ts zs xs k := by
  have : (t.o - 1).toNat = m := by omega
  simp [idB, ht, this, upB_at hz]

theorem idC_yes {ls : List Lk} {zs : List Bool} {xs : List RecD} {k : Nat} (hz : zs[k]? = some true) (hb : bordB ls ((k : Int) + 1) = true) : idC ls zs xs (k + 1) = beyD (idC ls zs xs k) (areasL ls ((k : Int) + 1)) ((k : Int) + 1) := by
  simp [idC, upB_at hz, hb]

theorem idC_no {ls : List Lk} {zs : List Bool} {xs : List RecD} {k : Nat} {b : Bool} (hz : zs[k]? = some b) (hb : b = false ∨ bordB ls ((k : Int) + 1) = false) : idC ls zs xs (k + 1) = idC ls zs xs k := by
  rcases hb with h | h
  · subst h; simp [idC, upB_at hz]
  · simp [idC, h]
end Go.Proofs.Ytbknmgobmnjphaa
namespace Go.Proofs.Ytbknmgobmnjphaa
open Go.RowKit

/-- 'append(out, xs...)' of a row of structs, both the caller's own -/
theorem append_rowM {α : Type} {enc : α → List Value} {sz bytes : Nat} (hlen : ∀ l : List α, (flat enc l).length = l.length * sz) (hpos : 0 < sz) (hbb : bytes ≤ 100) {P : Program} (w : World) {ops : Array Oper} {rest : List Oper} {o : Oper} {a : Act} {Q : Exit → Act → World → Prop} (hgd : o.guard = none) (s x : Operand) (t : TypeId)
    (ho : o.op = .call { callee := .builtin .append, args := #[s, x], argTypes := #[t, t] }) (base : Nat) (e : TypeId) (ht : P.underlying t = some (.slice e)) (zv : Value) (hzv : zv.cells.size = sz)
    (hinfo : (P.info? e).map (fun i => (i.zero, i.size, i.bytes)) = some (some zv, sz, bytes))
    (v : Value) (l : List α) (hs : a.eval s = v) (hown : w.ownsRow base e sz v l.length (flat enc l))
    (base2 : Nat) (v2 : Value) (l2 : List α) (hone : ∀ a ∈ l2, ∀ u ∈ enc a, u.oneCell' = true) (hx : a.eval x = v2) (hown2 : w.ownsRow base2 e sz v2 l2.length (flat enc l2))
    (hl : l.length + l2.length ≤ 1000000000) (hbase : base ≤ w.heap.size)
    (h : ∀ v' w', w'.ownsRow base e sz v' (l ++ l2).length (flat enc (l ++ l2)) → w.grownBy w' v.ownBlock → wpList P ops Q rest (a.put o.dst v') w') : wpList P ops Q (o :: rest) a w := by
  obtain ⟨i0, hi, hz0, hz1, hz2⟩ := info_parts hinfo
  rcases hown2.2 with ⟨e1, e2⟩ | ⟨g, cap, cur, e1, _⟩
  · have e3 : l2 = [] := List.eq_nil_of_length_eq_zero e2
    subst e3
    refine wpList_append_own_none hgd s x t ho base e i0 sz ht hi v l.length (flat enc l) hs hown (hx.trans e1) ?_
    exact h v w (by simpa using hown) (grown_refl w _)
  · refine wpList_append_own w hgd s x t ho base e i0 zv sz bytes ht hi hz0 hz1 hz2 hzv hpos v l.length (flat enc l) hs hown ⟨g, 0, none⟩ l2.length cap (flat enc l2) (hx.trans e1) (hlen l2) (hown2.cells (by rw [e1]; rfl)) ?_ (by unfold maxLen; omega) ?_ hbase ?_
    · intro u hu
      simp only [flat, List.mem_flatMap] at hu
      obtain ⟨b, hbm, hb⟩ := hu
      exact hone b hbm u hb
    · have : (l.length + l2.length) * bytes ≤ 1000000000 * 100 := Nat.mul_le_mul hl hbb
      omega
    · intro v' w' h1 h2 _
      have e1 : flat enc l ++ flat enc l2 = flat enc (l ++ l2) := by rw [flat_append]
      rw [e1] at h1
      exact h v' w' (by simpa using h1) h2
end Go.Proofs.Ytbknmgobmnjphaa
namespace Go.Proofs.Ytbknmgobmnjphaa
open Go.RowKit

set_option linter.unusedSimpArgs false

theorem near_oneP {W : World} {lo hi : Nat} {r : RP} (h : NearOwn W lo hi r) : ∀ u ∈ encP r, u.oneCell' = true := by
  obtain ⟨a, c, e⟩ := owns_lenS h.1
  obtain ⟨x, v⟩ := r
  simp only at e
  subst e
  exact encP_one x a _ c

theorem tot_told {qs : List RP} {xs : List RecD} {al : List Int} {src area : Int} (h : IsTold xs al src area (fsts qs)) : tot qs ≤ 6 := by
  have ht := h.tot
  have : ∀ l : List RP, (∀ r ∈ fsts l, r.near = []) → tot l ≤ l.length := by
    intro l
    induction l with
    | nil => intro _; simp [tot]
    | cons q l ih =>
      intro h
      rw [tot_cons, List.length_cons]
      have h1 := h q.1 (by simp [fsts])
      have h2 := ih (fun r hr => h r (by simp only [fsts, List.map_cons, List.mem_cons] at hr ⊢; exact .inr hr))
      rw [h1]
      simp only [List.length_nil]
      omega
  have h1 := this qs ht.2
  have h2 : qs.length ≤ 6 := by simpa [fsts] using ht.1
  omega

def filtK (ps : List RP) (node : Int) (k : Nat) : List RP := (ps.take k).filter (fun p => notHis node p.1)

theorem filtK_len (ps : List RP) (node : Int) (k : Nat) : (filtK ps node k).length ≤ k := by
  unfold filtK
  exact Nat.le_trans (List.length_filter_le _ _) (by rw [List.length_take]; omega)

theorem tot_filtK (ps : List RP) (node : Int) : tot (filtK ps node ps.length) ≤ tot ps := by
  unfold filtK
  rw [List.take_length]
  exact tot_filt _ ps

theorem filtK_fsts (ps : List RP) (node : Int) : fsts (filtK ps node ps.length) = (fsts ps).filter (notHis node) := by
  unfold filtK fsts
  rw [List.take_length, List.filter_map]
  rfl

set_option maxRecDepth 100000 in
set_option maxHeartbeats 4000000 in
theorem l13b_any (v u : Value) (ps : List RP) (al : List Int) (hi : Nat) (node : Int) (w : World) (hv : RecsIn w hi v ps) (ha : HopsAt w u al hi) (hhi : hi ≤ w.heap.size) (hn : tot ps ≤ 100000) (hal : al.length ≤ 1000) :
    Calls Try.prog 20 #[v, u, .int .i64 node] w fun e w' => ∃ x qs, e = .returned x ∧ fsts qs = beyD (fsts ps) al node ∧ RecsIn w' w'.heap.size x qs ∧ tot qs ≤ tot ps + 6 * al.length ∧ Below w.heap.size w w' := by
  have hnl := tot_len ps
  obtain ⟨a1, c1, rfl⟩ := owns_lenS hv.row
  obtain ⟨a2, c2, rfl⟩ := ha.shape
  have LIT := recs_lit w w.heap.size (Nat.le_refl _)
  have BX : Below w.heap.size w (w.alloc (.cells #[] 55)) := (Below.refl _ _).alloc (Nat.le_refl _) _
  obtain ⟨w0, hw0⟩ : ∃ W, W = w.alloc (.cells #[] 55) := ⟨_, rfl⟩
  rw [← hw0] at BX LIT
  have HTL := hide (fun (area : Int) W (hb : Below w.heap.size w W) => stell_any (.slice a1 ps.length c1) (.slice a2 al.length c2) ps al hi node area W (hv.below hb hhi) (RowAt.later ha hb hhi) (Nat.le_trans hhi hb.size) (by omega) (by omega))
  have HV := hide hv
  have HA := hide ha
  have HLIT := hide LIT
  clear hv ha LIT
  go_enter Try.func20, Try.ntmps20
  go_wp2
  rw [← hw0]
  clear hw0
  go_loopw [8, 7] (fun i o wr => ∃ (k : Nat) (x : Value) (qs : List RP), k ≤ al.length ∧ i = .int .i64 (k : Int) ∧ o = x ∧ RecsOwn wr w.heap.size wr.heap.size x qs ∧ Hid (fsts qs = allTold (fsts ps) al node (al.take k)) ∧ tot qs ≤ 6 * k ∧ Below w.heap.size w wr) (fun i _ _ => al.length - (intOf i).toNat)
  case atStart => exact ⟨0, _, [], by omega, rfl, rfl, HLIT.out, hide (by simp [allTold, fsts]), by simp [tot], BX⟩
  case round =>
    obtain ⟨k, x, qs, hk, rfl, rfl, hown, HF, htq, hnx⟩ := hrel
    clear HLIT BX
    obtain ⟨xa, xc, rfl⟩ := owns_lenS hown.row
    have hsz := hnx.size
    have hql := tot_len qs
    by_cases hlt : k < al.length
    · obtain ⟨area, har⟩ : ∃ a, al[k]? = some a := ⟨al[k], List.getElem?_eq_getElem hlt⟩
      obtain ⟨b, off, cap', hve, hbb, c0⟩ := HA.out.cell k area har
      cases hve
      rw [← hnx.cell (p := ⟨b, off + k, none⟩) (by show b < w.heap.size; omega)] at c0
      have hki : (0 : Int) ≤ (k : Int) := by omega
      have hkj : (k : Int) < (al.length : Int) := by omega
      have HAR := hide har
      have HOW := hide hown
      clear har hown
      go_wp2_with fail
      refine (HTL.out area _ hnx).mono ?_
      rintro e w2 ⟨y, bs, rfl, hbs, hob, b2⟩
      obtain ⟨ya, yc, rfl⟩ := owns_lenS hob.row
      have hb2 := b2.size
      have htb := tot_told hbs
      have hbl := tot_len bs
      have HF2 := hide (show fsts (qs ++ bs) = allTold (fsts ps) al node (al.take (k + 1)) by
        rw [allTold_step HAR.out, ← HF.out, ← hbs.eq]
        simp [fsts])
      have HOB := hide hob
      have HB2 := hide b2
      have OW := hide (owns_below HOW.out.row b2 (Nat.le_refl _))
      clear hbs hob b2
      go_wp2_with (first
        | (at_builtin; refine append_rowM (fun l => flat_len encP_len l) (by omega) (by omega) _ rfl _ _ 31 rfl w.heap.size 55 Try.underlying31 (.agg (recC zeroRD (.slice none 0 0))) rfl Try.infoRec _ qs rfl OW.out wr.heap.size _ bs (fun q hq => near_oneP (HOB.out.nears q hq)) rfl HOB.out.row (by omega) (by omega) ?_))
      intro v' w3 hown' hgrow
      have N1 := hide (HOW.out.join HB2.out hsz HOB.out (by rw [List.length_append]; exact hown') hgrow)
      have N2 := hide ((hnx.trans (HB2.out.mono hsz)).grown hgrow (by omega) (fun j hj => (HOW.out.row.lt j hj).1))
      have ht2 : tot (qs ++ bs) ≤ 6 * (k + 1) := by rw [tot_append]; omega
      obtain ⟨va, vc, rfl⟩ := owns_lenS hown'
      clear hown' hgrow OW HOB HOW HB2
      go_wp2
      go_roundw
      case rel => exact ⟨k + 1, _, qs ++ bs, by omega, by go_num, rfl, by simpa using N1.out, HF2, ht2, N2.out⟩
      case measure => simp [intOf]; omega
    · have hkn : ¬ (k : Int) < (al.length : Int) := by omega
      have HFA := hide (show fsts qs = allTold (fsts ps) al node al by have h := HF.out; rw [List.take_of_length_le (by omega)] at h; exact h)
      have HOW := hide hown
      have ht6 : tot qs ≤ 6 * al.length := by omega
      rename World => wo
      have OL : (wo.alloc (.cells #[] 55)).ownsRow wo.heap.size 55 8 (.slice (some ⟨wo.heap.size, 0, none⟩) 0 0) 0 (flat encP []) := World.ownsRow_lit wo #[] 0 (Nat.le_refl _) (by unfold maxLen; omega) (by simp)
      have BL : Below wo.heap.size wo (wo.alloc (.cells #[] 55)) := (Below.refl _ _).alloc (Nat.le_refl _) _
      obtain ⟨w4, hw4⟩ : ∃ W, W = wo.alloc (.cells #[] 55) := ⟨_, rfl⟩
      rw [← hw4] at OL BL
      have HOL := hide OL
      clear hown HF OL HTL
      go_wp2
      rw [← hw4]
      clear hw4
      go_loopw [10, 9] (fun i o wr => ∃ (j : Nat) (x : Value), j ≤ ps.length ∧ i = .int .i64 (j : Int) ∧ o = x ∧ wr.ownsRow wo.heap.size 55 8 x (filtK ps node j).length (flat encP (filtK ps node j)) ∧ Below wo.heap.size wo wr) (fun i _ _ => ps.length - (intOf i).toNat)
      case atStart => exact ⟨0, _, by omega, rfl, rfl, HOL.out, BL⟩
      case round =>
        obtain ⟨j, x, hj, rfl, rfl, hown, hnx2⟩ := hrel
        clear HOL BL
        obtain ⟨ya, yc, rfl⟩ := owns_lenS hown
        have hsz2 := hnx2.size
        have BW : Below w.heap.size w wr := hnx.trans (hnx2.mono hsz)
        have hfl := filtK_len ps node j
        have OW := hide hown
        clear hown
        by_cases hjl : j < ps.length
        · obtain ⟨p, hp⟩ : ∃ p, ps[j]? = some p := ⟨ps[j], List.getElem?_eq_getElem hjl⟩
          obtain ⟨bb, off, cap', hve, hbb, c0, c1, c2, c3, c4, c5, c6, c7, hnr⟩ := HV.out.at.cells j p hp
          cases hve
          obtain ⟨pa, pc, hpn⟩ := NearsAt.shape hnr
          rw [hpn] at c5
          rw [← BW.cell (p := ⟨bb, off + j * 8, none⟩) (Nat.lt_of_lt_of_le hbb hhi)] at c0
          rw [← BW.cell (p := ⟨bb, off + j * 8 + 1, none⟩) (Nat.lt_of_lt_of_le hbb hhi)] at c1
          rw [← BW.cell (p := ⟨bb, off + j * 8 + 2, none⟩) (Nat.lt_of_lt_of_le hbb hhi)] at c2
          rw [← BW.cell (p := ⟨bb, off + j * 8 + 3, none⟩) (Nat.lt_of_lt_of_le hbb hhi)] at c3
          rw [← BW.cell (p := ⟨bb, off + j * 8 + 4, none⟩) (Nat.lt_of_lt_of_le hbb hhi)] at c4
          rw [← BW.cell (p := ⟨bb, off + j * 8 + 5, none⟩) (Nat.lt_of_lt_of_le hbb hhi)] at c5
          rw [← BW.cell (p := ⟨bb, off + j * 8 + 6, none⟩) (Nat.lt_of_lt_of_le hbb hhi)] at c6
          rw [← BW.cell (p := ⟨bb, off + j * 8 + 7, none⟩) (Nat.lt_of_lt_of_le hbb hhi)] at c7
          have HP := hide hp
          have HPN := hide hpn
          obtain ⟨C, hC⟩ : ∃ C, C = filtK ps node j := ⟨_, rfl⟩
          rw [← hC] at OW hfl ⊢
          have HC := hide hC
          have hki : (0 : Int) ≤ (j : Int) := by omega
          have hkj : (j : Int) < (ps.length : Int) := by omega
          clear hp hpn hnr hC
          by_cases hK : p.1.kind = 2
          · have hdK : (p.1.kind != 2) = false := by simpa using hK
            clear hK
            by_cases hO : p.1.owner = node
            · have hdO : (p.1.owner != node) = false := by simpa using hO
              have HN := hide (show wr.ownsRow wo.heap.size 55 8 (.slice ya C.length yc) (filtK ps node (j + 1)).length (flat encP (filtK ps node (j + 1))) by
                have e : filtK ps node (j + 1) = C := by
                  rw [HC.out]
                  unfold filtK
                  rw [filt_take (fun p => notHis node p.1) HP.out, show notHis node p.1 = false by simp [notHis, hdK, hdO]]
                  simp
                rw [e]
                exact OW.out)
              clear hO OW
              go_wp2
              go_roundw
              case rel => exact ⟨j + 1, _, by omega, by go_num, rfl, HN.out, hnx2⟩
              case measure => simp [intOf]; omega
            · have hdO : (p.1.owner != node) = true := by simpa using hO
              clear hO
              have HST := hide (show filtK ps node (j + 1) = C ++ [(p.1, .slice pa p.1.near.length pc)] by
                rw [HC.out]
                unfold filtK
                rw [filt_take (fun p => notHis node p.1) HP.out, show notHis node p.1 = true by simp [notHis, hdO]]
                simp [← HPN.out])
              go_wp2_with (first
                | (at_builtin; refine append_struct5 encP_len (by omega) (by omega) _ rfl _ _ 31 rfl wo.heap.size 55 Try.underlying31 (.agg (recC zeroRD (.slice none 0 0))) rfl Try.infoRec _ C (p.1, .slice pa p.1.near.length pc) (encP_one _ _ _ _) rfl (OW.out.alloc _) ⟨wr.heap.size, 0, none⟩ 1 rfl (news_struct (cs := encP (p.1, .slice pa p.1.near.length pc))) (by omega) (by simp; omega) ?_))
              intro v' w6 hown' hgrow
              have N1 := hide (show w6.ownsRow wo.heap.size 55 8 v' (filtK ps node (j + 1)).length (flat encP (filtK ps node (j + 1))) by rw [HST.out]; simpa using hown')
              have N2 := hide ((hnx2.alloc hsz2 _).grown hgrow (by simp; omega) (fun i hi => (OW.out.lt i hi).1))
              obtain ⟨va, vc, rfl⟩ := owns_lenS hown'
              clear hown' hgrow OW HST
              go_wp2
              go_roundw
              case rel => exact ⟨j + 1, _, by omega, by go_num, rfl, N1.out, N2.out⟩
              case measure => simp [intOf]; omega
          · have hdK : (p.1.kind != 2) = true := by simpa using hK
            clear hK
            have HST := hide (show filtK ps node (j + 1) = C ++ [(p.1, .slice pa p.1.near.length pc)] by
              rw [HC.out]
              unfold filtK
              rw [filt_take (fun p => notHis node p.1) HP.out, show notHis node p.1 = true by simp [notHis, hdK]]
              simp [← HPN.out])
            go_wp2_with (first
              | (at_builtin; refine append_struct5 encP_len (by omega) (by omega) _ rfl _ _ 31 rfl wo.heap.size 55 Try.underlying31 (.agg (recC zeroRD (.slice none 0 0))) rfl Try.infoRec _ C (p.1, .slice pa p.1.near.length pc) (encP_one _ _ _ _) rfl (OW.out.alloc _) ⟨wr.heap.size, 0, none⟩ 1 rfl (news_struct (cs := encP (p.1, .slice pa p.1.near.length pc))) (by omega) (by simp; omega) ?_))
            intro v' w6 hown' hgrow
            have N1 := hide (show w6.ownsRow wo.heap.size 55 8 v' (filtK ps node (j + 1)).length (flat encP (filtK ps node (j + 1))) by rw [HST.out]; simpa using hown')
            have N2 := hide ((hnx2.alloc hsz2 _).grown hgrow (by simp; omega) (fun i hi => (OW.out.lt i hi).1))
            obtain ⟨va, vc, rfl⟩ := owns_lenS hown'
            clear hown' hgrow OW HST
            go_wp2
            go_roundw
            case rel => exact ⟨j + 1, _, by omega, by go_num, rfl, N1.out, N2.out⟩
            case measure => simp [intOf]; omega
        · have hjn : ¬ (j : Int) < (ps.length : Int) := by omega
          have hje : j = ps.length := by omega
          obtain ⟨C, hC⟩ : ∃ C, C = filtK ps node j := ⟨_, rfl⟩
          rw [← hC] at OW hfl ⊢
          have hCt : tot C ≤ tot ps := by rw [hC, hje]; exact tot_filtK ps node
          have HCF := hide (show fsts C = (fsts ps).filter (notHis node) by rw [hC, hje]; exact filtK_fsts ps node)
          have hCn : ∀ p ∈ C, NearOwn wr 0 wr.heap.size p := fun p hp => by
            have hm : p ∈ ps := by rw [hC] at hp; exact List.mem_of_mem_take (List.mem_filter.1 hp).1
            exact ((HV.out.nears p hm).keep (W' := wr) (fun i _ h2 _ => BW.block i (by omega))).wide (Nat.le_refl _) (by omega)
          have HIN : RecsIn wr wr.heap.size (.slice ya C.length yc) C := ⟨owns_baseS OW.out (Nat.zero_le _), fun i hi => (OW.out.lt i hi).2, hCn⟩
          have HALL : RecsIn wr wr.heap.size (.slice xa qs.length xc) qs := ((HOW.out.below hnx2 (Nat.le_refl _)).wide (Nat.le_refl _) hsz2).in
          have HWW := hide (with_any _ _ C qs wr.heap.size wr HIN HALL (Nat.le_refl _) (by omega))
          rw [HCF.out, HFA.out] at HWW
          have HBW := hide BW
          clear hC hje hCn HIN HALL OW HOW HCF HFA BW
          go_wp2_with fail
          refine HWW.out.mono ?_
          rintro e w7 ⟨y, rs, rfl, hf, hin, htt, b7⟩
          obtain ⟨yya, yyc, rfl⟩ := owns_lenS hin.row
          have HE := hide (show fsts rs = beyD (fsts ps) al node from hf)
          have HI := hide hin
          have HB := hide (HBW.out.trans (b7.mono HBW.out.size))
          have hq : tot rs ≤ tot ps + 6 * al.length := by omega
          clear hf hin b7
          go_wp2
          go_ret
          first
            | exact ⟨_, rs, rfl, HE.out, HI.out, hq, HB.out⟩
            | exact ⟨_, rfl, rs, HE.out, HI.out, hq, HB.out⟩
end Go.Proofs.Ytbknmgobmnjphaa
