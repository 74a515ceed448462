/-
  spec.AreasOf, spec.Border: their contracts.
  append of a row of structs, each of one cell a field.
  spec.l13Beyond: its walk.
  spec.Ideal over a right net.
-/
import Derived.Test.YtakiifededfjlaaGreatRm1
import Derived.Test.YtakiifededfjlaaGreatRm13
import Derived.Test.YtakiifededfjlaaGreatRm14
import Derived.Test.YtakiifededfjlaaGreatRm9
namespace Go.Proofs.YtakiifededfjlaaGreat
open Go.RowKit
set_option linter.unusedSimpArgs false
set_option linter.unusedVariables false
set_option maxRecDepth 100000
set_option maxHeartbeats 8000000
theorem Zii (ls : List Lk) (v : Int) : ZaU ls v = ZbW (fun u => decide (0 < (Ze3 ls v u).length)) 0 3 := by
 simp only [ZaU, ZbW, List.filter_cons, List.filter_nil, List.nil_append]
 repeat' split
 all_goals simp_all
theorem Zfr (n : Value) (v tv : Value) (ls : List Lk) (f : Int) (w : World) (hls : ls.length <= 1048576) (hv : Zbi w v ls w.heap.size) :
  Calls Tryz.prog 8 #[.agg #[n, v, tv], .int .i64 f] w fun e w' => ∃ x, e = .returned x /\ w'.ownsRow w.heap.size 3 1 x (ZaU ls f).length (Zbm (ZaU ls f)) /\ Below w.heap.size w w' := by
 have HV := hide hv
 clear hv
 rw [Zii]
 go_enter Tryz.func8, Tryz.ntmps8
 go_wp2
 go_loopw [5, 6] (fun x i wr => ∃ k : Nat, k <= 3 /\ i = .int .i64 (0 + (k : Int)) /\ Below w.heap.size w wr /\ wr.heap[w.heap.size]? = some (.cells #[n, v, tv] 27) /\ wr.ownsRow (w.heap.size + 1) 3 1 x (ZbW (fun u => decide (0 < (Ze3 ls f u).length)) 0 k).length (Zbm (ZbW (fun u => decide (0 < (Ze3 ls f u).length)) 0 k))) (fun _ i _ => 4 - (intOf i).toNat)
 case atStart =>
  refine ⟨0, by omega, rfl, Za1 _ _, ?_, ?_⟩
  ·rw [Below.heap_alloc _ _ _ (show w.heap.size < (w.alloc (.cells #[n, v, tv] 27)).heap.size by simp), heap_alloc_new]
  ·have h0 := World.ownsRow_lit (base := w.heap.size + 1) (w.alloc (.cells #[n, v, tv] 27)) (#[] : Array Value) 0 (by simp) (by decide) (e := 3) (size := 1) rfl
   simpa [ZbW, Zbm] using h0
 case round =>
  obtain ⟨k, hk, rfl, hb, hx, hown⟩ := hrel
  have c0 : wr.cell? ⟨w.heap.size, 0, none⟩ = some n := by rw [Zaa hx]; rfl
  have c1 : wr.cell? ⟨w.heap.size, 1, none⟩ = some v := by rw [Zaa hx]; rfl
  have c2 : wr.cell? ⟨w.heap.size, 2, none⟩ = some tv := by rw [Zaa hx]; rfl
  have hxl := Zab hx
  have HX := hide hx
  have OW := hide hown
  clear hx hown
  by_cases hlt : k < 3
  ·go_wp2_with fail
   refine (ZmA n v tv ls f _ wr hls (HV.out.then hb)).mono ?_
   rintro e w1 ⟨x1, rfl, hox, b1⟩
   obtain ⟨a1, cp1, rfl⟩ := Ze8 hox
   clear hox
   have hown1 := Zae OW.out b1 (Nat.le_refl _)
   have hx1 : w1.heap[w.heap.size]? = some (.cells #[n, v, tv] 27) := by rw [b1.block _ hxl]; exact HX.out
   have hb1 : Below w.heap.size w w1 := hb.trans (b1.mono hb.size)
   have hz1 := b1.size
   have hpl := Zfh (fun u => decide (0 < (Ze3 ls f u).length)) 0 k
   have HX1 := hide hx1
   obtain ⟨l2, hl20⟩ : ∃ l2, l2 = ZbW (fun u => decide (0 < (Ze3 ls f u).length)) 0 (k + 1) := ⟨_, rfl⟩
   have HL20 := hide hl20
   have hps : Hid (l2 = ZbW (fun u => decide (0 < (Ze3 ls f u).length)) 0 k ++ (if decide (0 < (Ze3 ls f (0 + (k : Int))).length) then [0 + (k : Int)] else [])) := hl20
   clear hl20
   clear b1 hx1 c0 c1 c2 OW HX
   generalize ZbW (fun u => decide (0 < (Ze3 ls f u).length)) 0 k = l at hown1 hpl hps
   rw [Int.zero_add] at *
   generalize (Ze3 ls f (k : Int)).length = c at hps |-
   by_cases hc : 0 < (c : Int)
   ·have hc' : 0 < c := by omega
    have hl2 : l2 = l ++ [(k : Int)] := by rw [hps.out]; simp [hc']
    clear hc'
    have HL2 := hide hl2
    clear hl2 hps
    go_wp2_with (first
     | (at_builtin; refine Zdm _ rfl _ _ 34 rfl (w.heap.size + 1) 3 Tryz.underlying34 Tryz.info3 u5 l (k : Int) rfl (hown1.alloc _) ⟨w1.heap.size, 0, none⟩ 1 rfl ?_ (by omega) (by simp; omega) ?_))
    ·rw [add_zero', World.cell?_alloc_at _ _ _ _ rfl]; rfl
    intro v' w4 l' hl' hown' hgrow
    have hb4 : Below w.heap.size w w4 := (hb1.alloc (by omega) _).grown hgrow (by simp; omega) (fun k hk => by have := (hown1.lt k hk).1; omega)
    have hx4 : w4.heap[w.heap.size]? = some (.cells #[n, v, tv] 27) := by
     rw [hgrow.block _ (by simp; omega) (fun h => by have := (hown1.lt _ h.symm).1; omega), Below.heap_alloc _ _ _ (by omega)]
     exact HX1.out
    have e : l' = l2 := by rw [hl'.out, HL2.out]
    subst e
    have OW2 := hide hown'
    have HX4 := hide hx4
    clear hgrow hown' hx4 hown1
    go_wp2
    go_roundw
    case rel => exact ⟨k + 1, by omega, by go_num, hb4, HX4.out, by rw [<- HL20.out]; exact OW2.out⟩
    case measure => simp [intOf]; omega
   ·have hc' : ¬ 0 < c := by omega
    have hl2 : l2 = l := by rw [hps.out]; simp [hc']
    clear hc'
    subst hl2
    have OW2 := hide hown1
    clear hown1 hps
    go_wp2
    go_roundw
    case rel => exact ⟨k + 1, by omega, by go_num, hb1, HX1.out, by rw [<- HL20.out]; exact OW2.out⟩
    case measure => simp [intOf]; omega
  ·have hk' : k = 3 := by omega
   subst hk'
   go_wp2
   go_ret
   exact ⟨_, rfl, ZiJ OW.out (by omega), hb⟩
theorem Zgt (n : Value) (v tv : Value) (ls : List Lk) (f : Int) (w : World) (hls : ls.length <= 1048576) (hv : Zbi w v ls w.heap.size) :
  Calls Tryz.prog 9 #[.agg #[n, v, tv], .int .i64 f] w fun e w' => e = .returned (.bool (ZhW ls f)) /\ Below w.heap.size w w' := by
 have HV := hide hv
 clear hv
 go_enter Tryz.func9, Tryz.ntmps9
 go_wp2_with fail
 refine (Zfr n v tv ls f _ hls (HV.out.then ((Below.refl _ _).alloc (Nat.le_refl _) _))).mono ?_
 rintro e w1 ⟨x, rfl, hox, b1⟩
 have hb1 : Below w.heap.size w w1 := ((Below.refl w.heap.size w).alloc (Nat.le_refl _) _).trans (b1.mono (by simp))
 obtain ⟨zs, hzs⟩ : ∃ zs, zs = ZaU ls f := ⟨_, rfl⟩
 have hB : ZhW ls f = (decide (1 < zs.length) && (zs.head? == some 0)) := by rw [hzs]; rfl
 have HB := hide hB
 rw [<- hzs] at hox
 clear hB hzs b1
 by_cases h1 : 1 < zs.length
 ·obtain ⟨g, cap, rfl, hg, hl⟩ := Zd1 hox (by omega)
  obtain ⟨z, zr, rfl⟩ : ∃ z zr, zs = z :: zr := by
   cases zs with
   | nil => simp at h1
   | cons z zr => exact ⟨z, zr, rfl⟩
  have c0 : w1.cell? ⟨g, 0, none⟩ = some (.int .i64 z) := by rw [hox.cellAt 0 (by omega)]; rfl
  have hb : (decide (1 < (z :: zr).length) && ((z :: zr).head? == some 0)) = (z == 0) := by
   rw [decide_eq_true h1]; simp
  have HB2 : Hid (ZhW ls f = (z == 0)) := HB.out.trans hb
  generalize (z :: zr).length = m at hox h1 hl |-
  have h1' : (1 : Int) < (m : Int) := by omega
  have h0' : (0 : Int) < (m : Int) := by omega
  clear hox hb HB
  go_wp2
  go_ret
  exact ⟨by rw [HB2.out]; rfl, hb1⟩
 ·obtain ⟨a, cap, rfl⟩ := Ze8 hox
  have hb : (decide (1 < zs.length) && (zs.head? == some 0)) = false := by rw [decide_eq_false h1]; rfl
  have HB2 : Hid (ZhW ls f = false) := HB.out.trans hb
  have h1' : ¬ (1 : Int) < (zs.length : Int) := by omega
  clear hox hb HB
  go_wp2
  go_ret
  exact ⟨by rw [HB2.out]; rfl, hb1⟩
theorem Zeh {α : Type} {enc : α -> List Value} {sz bytes : Nat} (hlen : ∀ l : List α, (flat enc l).length = l.length * sz) (hpos : 0 < sz) (hbb : bytes <= 100) {P : Program} (w : World) {ops : Array Oper} {rest : List Oper} {o : Oper} {a : Act} {Q : Exit -> Act -> World -> Prop} (hgd : o.guard = none) (s x : Operand) (t : TypeId)
  (ho : o.op = .call { callee := .builtin .append, args := #[s, x], argTypes := #[t, t] }) (base : Nat) (e : TypeId) (ht : P.underlying t = some (.slice e)) (zv : Value) (hzv : zv.cells.size = sz)
  (hinfo : (P.info? e).map (fun i => (i.zero, i.size, i.bytes)) = some (some zv, sz, bytes))
  (v : Value) (l : List α) (hs : a.eval s = v) (hown : w.ownsRow base e sz v l.length (flat enc l))
  (base2 : Nat) (v2 : Value) (l2 : List α) (hone : ∀ a ∈ l2, ∀ u ∈ enc a, u.oneCell' = true) (hx : a.eval x = v2) (hown2 : w.ownsRow base2 e sz v2 l2.length (flat enc l2))
  (hl : l.length + l2.length <= 1000000000) (hbase : base <= w.heap.size)
  (h : ∀ v' w', w'.ownsRow base e sz v' (l ++ l2).length (flat enc (l ++ l2)) -> w.grownBy w' v.ownBlock -> wpList P ops Q rest (a.put o.dst v') w') : wpList P ops Q (o :: rest) a w := by
 obtain ⟨i0, hi, hz0, hz1, hz2⟩ := info_parts hinfo
 rcases hown2.2 with ⟨e1, e2⟩ | ⟨g, cap, cur, e1, _⟩
 ·have e3 : l2 = [] := List.eq_nil_of_length_eq_zero e2
  subst e3
  refine wpList_append_own_none hgd s x t ho base e i0 sz ht hi v l.length (flat enc l) hs hown (hx.trans e1) ?_
  exact h v w (by simpa using hown) (ZcD w _)
 ·refine wpList_append_own w hgd s x t ho base e i0 zv sz bytes ht hi hz0 hz1 hz2 hzv hpos v l.length (flat enc l) hs hown ⟨g, 0, none⟩ l2.length cap (flat enc l2) (hx.trans e1) (hlen l2) (hown2.cells (by rw [e1]; rfl)) ?_ (by unfold maxLen; omega) ?_ hbase ?_
  ·intro u hu
   simp only [flat, List.mem_flatMap] at hu
   obtain ⟨b, hbm, hb⟩ := hu
   exact hone b hbm u hb
  ·have : (l.length + l2.length) * bytes <= 1000000000 * 100 := Nat.mul_le_mul hl hbb
   omega
  ·intro v' w' h1 h2 _
   have e1 : flat enc l ++ flat enc l2 = flat enc (l ++ l2) := by rw [ZaO]
   rw [e1] at h1
   exact h v' w' (by simpa using h1) h2
theorem ZlB {W : World} {lo hi : Nat} {r : RP} (h : ZaT W lo hi r) : ∀ u ∈ encP r, u.oneCell' = true := by
 obtain ⟨a, c, e⟩ := Zac h.1
 obtain ⟨x, v⟩ := r
 simp only at e
 subst e
 exact ZcA x a _ c
theorem ZnC {qs : List RP} {xs : List RecD} {al : List Int} {src area : Int} (h : Zc3 xs al src area (fsts qs)) : tot qs <= 6 := by
 have ht := h.tot
 have : ∀ l : List RP, (∀ r ∈ fsts l, r.near = []) -> tot l <= l.length := by
  intro l
  induction l with
  | nil => intro _; simp [tot]
  | cons q l ih =>
   intro h
   rw [Zcv, List.length_cons]
   have h1 := h q.1 (by simp [fsts])
   have h2 := ih (fun r hr => h r (by simp only [fsts, List.map_cons, List.mem_cons] at hr |-; exact .inr hr))
   rw [h1]
   simp only [List.length_nil]
   omega
 have h1 := this qs ht.2
 have h2 : qs.length <= 6 := by simpa [fsts] using ht.1
 omega
def ZcW (ps : List RP) (node : Int) (k : Nat) : List RP := (ps.take k).filter (fun p => ZbY node p.1)
theorem Zlz (ps : List RP) (node : Int) (k : Nat) : (ZcW ps node k).length <= k := by
 unfold ZcW
 exact Nat.le_trans (List.length_filter_le _ _) (by rw [List.length_take]; omega)
theorem ZlQ (ps : List RP) (node : Int) : tot (ZcW ps node ps.length) <= tot ps := by
 unfold ZcW
 rw [List.take_length]
 exact ZmN _ ps
theorem ZkX (ps : List RP) (node : Int) : fsts (ZcW ps node ps.length) = (fsts ps).filter (ZbY node) := by
 unfold ZcW fsts
 rw [List.take_length, List.filter_map]
 rfl
theorem ZmZ (v u : Value) (ps : List RP) (al : List Int) (hi : Nat) (node : Int) (w : World) (hv : RecsIn w hi v ps) (ha : ZaK w u al hi) (hhi : hi <= w.heap.size) (hn : tot ps <= 100000) (hal : al.length <= 1000) :
  Calls Tryz.prog 26 #[v, u, .int .i64 node] w fun e w' => ∃ x qs, e = .returned x /\ fsts qs = beyD (fsts ps) al node /\ RecsIn w' w'.heap.size x qs /\ tot qs <= tot ps + 6 * al.length /\ Below w.heap.size w w' := by
 have hnl := ZbL ps
 obtain ⟨a1, c1, rfl⟩ := Zac hv.row
 obtain ⟨a2, c2, rfl⟩ := ha.shape
 have LIT := ZfH w w.heap.size (Nat.le_refl _)
 have BX : Below w.heap.size w (w.alloc (.cells #[] 64)) := (Below.refl _ _).alloc (Nat.le_refl _) _
 obtain ⟨w0, hw0⟩ : ∃ W, W = w.alloc (.cells #[] 64) := ⟨_, rfl⟩
 rw [<- hw0] at BX LIT
 have HTL := hide (fun (area : Int) W (hb : Below w.heap.size w W) => Zlw (.slice a1 ps.length c1) (.slice a2 al.length c2) ps al hi node area W (hv.below hb hhi) (ZaR.later ha hb hhi) (Nat.le_trans hhi hb.size) (by omega) (by omega))
 have HV := hide hv
 have HA := hide ha
 have HLIT := hide LIT
 clear hv ha LIT
 go_enter Tryz.func26, Tryz.ntmps26
 go_wp2
 rw [<- hw0]
 clear hw0
 go_loopw [8, 7] (fun i o wr => ∃ (k : Nat) (x : Value) (qs : List RP), k <= al.length /\ i = .int .i64 (k : Int) /\ o = x /\ RecsOwn wr w.heap.size wr.heap.size x qs /\ Hid (fsts qs = Zbr (fsts ps) al node (al.take k)) /\ tot qs <= 6 * k /\ Below w.heap.size w wr) (fun i _ _ => al.length - (intOf i).toNat)
 case atStart => exact ⟨0, _, [], by omega, rfl, rfl, HLIT.out, hide (by simp [Zbr, fsts]), by simp [tot], BX⟩
 case round =>
  obtain ⟨k, x, qs, hk, rfl, rfl, hown, HF, htq, hnx⟩ := hrel
  clear HLIT BX
  obtain ⟨xa, xc, rfl⟩ := Zac hown.row
  have hsz := hnx.size
  have hql := ZbL qs
  by_cases hlt : k < al.length
  ·obtain ⟨area, har⟩ : ∃ a, al[k]? = some a := ⟨al[k], List.getElem?_eq_getElem hlt⟩
   obtain ⟨b, off, cap', hve, hbb, c0⟩ := HA.out.cell k area har
   cases hve
   rw [<- hnx.cell (p := ⟨b, off + k, none⟩) (by show b < w.heap.size; omega)] at c0
   have hki : (0 : Int) <= (k : Int) := by omega
   have hkj : (k : Int) < (al.length : Int) := by omega
   have HAR := hide har
   have HOW := hide hown
   clear har hown
   go_wp2_with fail
   refine (HTL.out area _ hnx).mono ?_
   rintro e w2 ⟨y, bs, rfl, hbs, hob, b2⟩
   obtain ⟨ya, yc, rfl⟩ := Zac hob.row
   have hb2 := b2.size
   have htb := ZnC hbs
   have hbl := ZbL bs
   have HF2 := hide (show fsts (qs ++ bs) = Zbr (fsts ps) al node (al.take (k + 1)) by
    rw [ZiU HAR.out, <- HF.out, <- hbs.eq]
    simp [fsts])
   have HOB := hide hob
   have HB2 := hide b2
   have OW := hide (Zae HOW.out.row b2 (Nat.le_refl _))
   clear hbs hob b2
   go_wp2_with (first
    | (at_builtin; refine Zeh (fun l => Zbn Zck l) (by omega) (by omega) _ rfl _ _ 31 rfl w.heap.size 64 Tryz.underlying31 (.agg (recC ZbN (.slice none 0 0))) rfl Tryz.infoRec _ qs rfl OW.out wr.heap.size _ bs (fun q hq => ZlB (HOB.out.nears q hq)) rfl HOB.out.row (by omega) (by omega) ?_))
   intro v' w3 hown' hgrow
   have N1 := hide (HOW.out.join HB2.out hsz HOB.out (by rw [List.length_append]; exact hown') hgrow)
   have N2 := hide ((hnx.trans (HB2.out.mono hsz)).grown hgrow (by omega) (fun j hj => (HOW.out.row.lt j hj).1))
   have ht2 : tot (qs ++ bs) <= 6 * (k + 1) := by rw [Zdb]; omega
   obtain ⟨va, vc, rfl⟩ := Zac hown'
   clear hown' hgrow OW HOB HOW HB2
   go_wp2
   go_roundw
   case rel => exact ⟨k + 1, _, qs ++ bs, by omega, by go_num, rfl, by simpa using N1.out, HF2, ht2, N2.out⟩
   case measure => simp [intOf]; omega
  ·have hkn : ¬ (k : Int) < (al.length : Int) := by omega
   have HFA := hide (show fsts qs = Zbr (fsts ps) al node al by have h := HF.out; rw [List.take_of_length_le (by omega)] at h; exact h)
   have HOW := hide hown
   have ht6 : tot qs <= 6 * al.length := by omega
   rename World => wo
   have OL : (wo.alloc (.cells #[] 64)).ownsRow wo.heap.size 64 8 (.slice (some ⟨wo.heap.size, 0, none⟩) 0 0) 0 (flat encP []) := World.ownsRow_lit wo #[] 0 (Nat.le_refl _) (by unfold maxLen; omega) (by simp)
   have BL : Below wo.heap.size wo (wo.alloc (.cells #[] 64)) := (Below.refl _ _).alloc (Nat.le_refl _) _
   obtain ⟨w4, hw4⟩ : ∃ W, W = wo.alloc (.cells #[] 64) := ⟨_, rfl⟩
   rw [<- hw4] at OL BL
   have HOL := hide OL
   clear hown HF OL HTL
   go_wp2
   rw [<- hw4]
   clear hw4
   go_loopw [10, 9] (fun i o wr => ∃ (j : Nat) (x : Value), j <= ps.length /\ i = .int .i64 (j : Int) /\ o = x /\ wr.ownsRow wo.heap.size 64 8 x (ZcW ps node j).length (flat encP (ZcW ps node j)) /\ Below wo.heap.size wo wr) (fun i _ _ => ps.length - (intOf i).toNat)
   case atStart => exact ⟨0, _, by omega, rfl, rfl, HOL.out, BL⟩
   case round =>
    obtain ⟨j, x, hj, rfl, rfl, hown, hnx2⟩ := hrel
    clear HOL BL
    obtain ⟨ya, yc, rfl⟩ := Zac hown
    have hsz2 := hnx2.size
    have BW : Below w.heap.size w wr := hnx.trans (hnx2.mono hsz)
    have hfl := Zlz ps node j
    have OW := hide hown
    clear hown
    by_cases hjl : j < ps.length
    ·obtain ⟨p, hp⟩ : ∃ p, ps[j]? = some p := ⟨ps[j], List.getElem?_eq_getElem hjl⟩
     obtain ⟨bb, off, cap', hve, hbb, c0, c1, c2, c3, c4, c5, c6, c7, hnr⟩ := HV.out.at.cells j p hp
     cases hve
     obtain ⟨pa, pc, hpn⟩ := ZaC.shape hnr
     rw [hpn] at c5
     rw [<- BW.cell (p := ⟨bb, off + j * 8, none⟩) (Nat.lt_of_lt_of_le hbb hhi)] at c0
     rw [<- BW.cell (p := ⟨bb, off + j * 8 + 1, none⟩) (Nat.lt_of_lt_of_le hbb hhi)] at c1
     rw [<- BW.cell (p := ⟨bb, off + j * 8 + 2, none⟩) (Nat.lt_of_lt_of_le hbb hhi)] at c2
     rw [<- BW.cell (p := ⟨bb, off + j * 8 + 3, none⟩) (Nat.lt_of_lt_of_le hbb hhi)] at c3
     rw [<- BW.cell (p := ⟨bb, off + j * 8 + 4, none⟩) (Nat.lt_of_lt_of_le hbb hhi)] at c4
     rw [<- BW.cell (p := ⟨bb, off + j * 8 + 5, none⟩) (Nat.lt_of_lt_of_le hbb hhi)] at c5
     rw [<- BW.cell (p := ⟨bb, off + j * 8 + 6, none⟩) (Nat.lt_of_lt_of_le hbb hhi)] at c6
     rw [<- BW.cell (p := ⟨bb, off + j * 8 + 7, none⟩) (Nat.lt_of_lt_of_le hbb hhi)] at c7
     have HP := hide hp
     have HPN := hide hpn
     obtain ⟨C, hC⟩ : ∃ C, C = ZcW ps node j := ⟨_, rfl⟩
     rw [<- hC] at OW hfl |-
     have HC := hide hC
     have hki : (0 : Int) <= (j : Int) := by omega
     have hkj : (j : Int) < (ps.length : Int) := by omega
     clear hp hpn hnr hC
     by_cases hK : p.1.kind = 2
     ·have hdK : (p.1.kind != 2) = false := by simpa using hK
      clear hK
      by_cases hO : p.1.owner = node
      ·have hdO : (p.1.owner != node) = false := by simpa using hO
       have HN := hide (show wr.ownsRow wo.heap.size 64 8 (.slice ya C.length yc) (ZcW ps node (j + 1)).length (flat encP (ZcW ps node (j + 1))) by
        have e : ZcW ps node (j + 1) = C := by
         rw [HC.out]
         unfold ZcW
         rw [ZdB (fun p => ZbY node p.1) HP.out, show ZbY node p.1 = false by simp [ZbY, hdK, hdO]]
         simp
        rw [e]
        exact OW.out)
       clear hO OW
       go_wp2
       go_roundw
       case rel => exact ⟨j + 1, _, by omega, by go_num, rfl, HN.out, hnx2⟩
       case measure => simp [intOf]; omega
      ·have hdO : (p.1.owner != node) = true := by simpa using hO
       clear hO
       have HST := hide (show ZcW ps node (j + 1) = C ++ [(p.1, .slice pa p.1.near.length pc)] by
        rw [HC.out]
        unfold ZcW
        rw [ZdB (fun p => ZbY node p.1) HP.out, show ZbY node p.1 = true by simp [ZbY, hdO]]
        simp [<- HPN.out])
       go_wp2_with (first
        | (at_builtin; refine ZaJ Zck (by omega) (by omega) _ rfl _ _ 31 rfl wo.heap.size 64 Tryz.underlying31 (.agg (recC ZbN (.slice none 0 0))) rfl Tryz.infoRec _ C (p.1, .slice pa p.1.near.length pc) (ZcA _ _ _ _) rfl (OW.out.alloc _) ⟨wr.heap.size, 0, none⟩ 1 rfl (Zan (cs := encP (p.1, .slice pa p.1.near.length pc))) (by omega) (by simp; omega) ?_))
       intro v' w6 hown' hgrow
       have N1 := hide (show w6.ownsRow wo.heap.size 64 8 v' (ZcW ps node (j + 1)).length (flat encP (ZcW ps node (j + 1))) by rw [HST.out]; simpa using hown')
       have N2 := hide ((hnx2.alloc hsz2 _).grown hgrow (by simp; omega) (fun i hi => (OW.out.lt i hi).1))
       obtain ⟨va, vc, rfl⟩ := Zac hown'
       clear hown' hgrow OW HST
       go_wp2
       go_roundw
       case rel => exact ⟨j + 1, _, by omega, by go_num, rfl, N1.out, N2.out⟩
       case measure => simp [intOf]; omega
     ·have hdK : (p.1.kind != 2) = true := by simpa using hK
      clear hK
      have HST := hide (show ZcW ps node (j + 1) = C ++ [(p.1, .slice pa p.1.near.length pc)] by
       rw [HC.out]
       unfold ZcW
       rw [ZdB (fun p => ZbY node p.1) HP.out, show ZbY node p.1 = true by simp [ZbY, hdK]]
       simp [<- HPN.out])
      go_wp2_with (first
       | (at_builtin; refine ZaJ Zck (by omega) (by omega) _ rfl _ _ 31 rfl wo.heap.size 64 Tryz.underlying31 (.agg (recC ZbN (.slice none 0 0))) rfl Tryz.infoRec _ C (p.1, .slice pa p.1.near.length pc) (ZcA _ _ _ _) rfl (OW.out.alloc _) ⟨wr.heap.size, 0, none⟩ 1 rfl (Zan (cs := encP (p.1, .slice pa p.1.near.length pc))) (by omega) (by simp; omega) ?_))
      intro v' w6 hown' hgrow
      have N1 := hide (show w6.ownsRow wo.heap.size 64 8 v' (ZcW ps node (j + 1)).length (flat encP (ZcW ps node (j + 1))) by rw [HST.out]; simpa using hown')
      have N2 := hide ((hnx2.alloc hsz2 _).grown hgrow (by simp; omega) (fun i hi => (OW.out.lt i hi).1))
      obtain ⟨va, vc, rfl⟩ := Zac hown'
      clear hown' hgrow OW HST
      go_wp2
      go_roundw
      case rel => exact ⟨j + 1, _, by omega, by go_num, rfl, N1.out, N2.out⟩
      case measure => simp [intOf]; omega
    ·have hjn : ¬ (j : Int) < (ps.length : Int) := by omega
     have hje : j = ps.length := by omega
     obtain ⟨C, hC⟩ : ∃ C, C = ZcW ps node j := ⟨_, rfl⟩
     rw [<- hC] at OW hfl |-
     have hCt : tot C <= tot ps := by rw [hC, hje]; exact ZlQ ps node
     have HCF := hide (show fsts C = (fsts ps).filter (ZbY node) by rw [hC, hje]; exact ZkX ps node)
     have hCn : ∀ p ∈ C, ZaT wr 0 wr.heap.size p := fun p hp => by
      have hm : p ∈ ps := by rw [hC] at hp; exact List.mem_of_mem_take (List.mem_filter.1 hp).1
      exact ((HV.out.nears p hm).keep (W' := wr) (fun i _ h2 _ => BW.block i (by omega))).wide (Nat.le_refl _) (by omega)
     have HIN : RecsIn wr wr.heap.size (.slice ya C.length yc) C := ⟨Zag OW.out (Nat.zero_le _), fun i hi => (OW.out.lt i hi).2, hCn⟩
     have HALL : RecsIn wr wr.heap.size (.slice xa qs.length xc) qs := ((HOW.out.below hnx2 (Nat.le_refl _)).wide (Nat.le_refl _) hsz2).in
     have HWW := hide (ZnE _ _ C qs wr.heap.size wr HIN HALL (Nat.le_refl _) (by omega))
     rw [HCF.out, HFA.out] at HWW
     have HBW := hide BW
     clear hC hje hCn HIN HALL OW HOW HCF HFA BW
     go_wp2_with fail
     refine HWW.out.mono ?_
     rintro e w7 ⟨y, rs, rfl, hf, hin, htt, b7⟩
     obtain ⟨yya, yyc, rfl⟩ := Zac hin.row
     have HE := hide (show fsts rs = beyD (fsts ps) al node from hf)
     have HI := hide hin
     have HB := hide (HBW.out.trans (b7.mono HBW.out.size))
     have hq : tot rs <= tot ps + 6 * al.length := by omega
     clear hf hin b7
     go_wp2
     go_ret
     first
      | exact ⟨_, rs, rfl, HE.out, HI.out, hq, HB.out⟩
      | exact ⟨_, rfl, rs, HE.out, HI.out, hq, HB.out⟩
theorem ZnA (l : Nr) : ∀ u ∈ nrE l, u.oneCell' = true := by
 intro u hu
 simp only [nrE, List.mem_cons, List.not_mem_nil, or_false] at hu
 rcases hu with h | h <;> subst h <;> rfl
def ZgK (wr : World) (z : Nat) (nv : Value) (x : RecD) : Prop := wr.heap[z]? = some (.cells (recC x nv) 64) /\ wr.ownsRow (z + 1) 67 2 nv x.near.length (flat nrE x.near)
theorem ZgK.start (w : World) (v a : Int) : ZgK (w.alloc (.cells #[.int .i64 a, .int .i64 1, .int .i64 v, .int .i64 0, .int .i64 1, .slice none 0 0, .int .i64 0, .bool false] 64)) w.heap.size (.slice none 0 0) (ZbV v a []) := ⟨heap_alloc_new w _, World.ownsRow_nil _ _ _ _⟩
theorem ZgK.below {w w' : World} {z : Nat} {nv : Value} {x : RecD} (h : ZgK w z nv x) (hb : Below w.heap.size w w') : ZgK w' z nv x := ⟨by rw [hb.block z (Zab h.1)]; exact h.1, Zae h.2 hb (Nat.le_refl _)⟩
theorem ZgK.push {w w' : World} {z : Nat} {nv nv' : Value} {x y : RecD} {o : Obj} (h : ZgK w z nv x) (hg : (w.alloc o).grownBy w' nv.ownBlock) (hy : ∀ v, recC y v = recC x v) (ho : w'.ownsRow (z + 1) 67 2 nv' y.near.length (flat nrE y.near)) : ZgK (w'.setCell ⟨z, 5, none⟩ nv') z nv' y := by
 have hz := Zab h.1
 have h1 : w'.heap[z]? = some (.cells (recC x nv) 64) := by
  rw [hg.block z (by simp; omega) (fun e => by have := (h.2.lt z e.symm).1; omega), Below.heap_alloc _ _ _ hz]; exact h.1
 refine ⟨?_, ZaB ho (by omega)⟩
 rw [heap_setCell_same _ _ 5 _ _ nv' h1, hy]
 rfl
theorem Zkk (v1 v2 y z : Value) (N : Nat) (ls : List Lk) (ts : List Th) (bs zs : List Bool) (w : World) (hok : Zbe ⟨(N : Int), ls, ts⟩ = true) (hN : 1 <= N) (hN6 : N <= 6) (hls : ls.length <= 12) (hts : ts.length <= 4)
  (htho : ∀ t ∈ ts, 1 <= t.o /\ t.o <= (N : Int)) (h1 : Zbi w v1 ls w.heap.size) (h2 : ZbK w v2 ts w.heap.size) (h3 : ZcM w y bs w.heap.size) (h4 : ZcM w z zs w.heap.size) (hbs : bs.length = ls.length) (hzs : zs.length = N) :
  Calls Tryz.prog 7 #[.agg #[.int .i64 (N : Int), v1, v2], y, z] w fun e w' => ∃ o qs, e = .returned (.tuple #[o, .bool true]) /\ fsts qs = ZgY ls ts bs zs N /\ tot qs <= 500 /\ RecsOwn w' w.heap.size w'.heap.size o qs /\ Below w.heap.size w w' := by
 obtain ⟨a1, c1, rfl⟩ := h1.shape
 obtain ⟨a2, c2, rfl⟩ := h2.shape
 obtain ⟨a3, c3, rfl⟩ := h3.shape
 obtain ⟨a4, c4, rfl⟩ := h4.shape
 have HNO := hide (fun W (hb : Below w.heap.size w W) => ZkF (.agg #[.int .i64 (N : Int), .slice a1 ls.length c1, .slice a2 ts.length c2]) ⟨(N : Int), ls, ts⟩ W (show ls.length <= 1048576 by omega) (show ts.length <= 1048576 by omega) ⟨_, _, rfl, ZaR.then h1 hb, ZaR.then h2 hb⟩)
 have HAR := hide (fun (f : Int) W (hb : Below w.heap.size w W) => Zfr (.int .i64 (N : Int)) (.slice a1 ls.length c1) (.slice a2 ts.length c2) ls f W (show ls.length <= 1048576 by omega) (ZaR.then h1 hb))
 have HBO := hide (fun (f : Int) W (hb : Below w.heap.size w W) => Zgt (.int .i64 (N : Int)) (.slice a1 ls.length c1) (.slice a2 ts.length c2) ls f W (show ls.length <= 1048576 by omega) (ZaR.then h1 hb))
 have HOP := hide (fun (f t r : Int) W (hb : Below w.heap.size w W) => ZlI (.int .i64 (N : Int)) (.slice a1 ls.length c1) (.slice a2 ts.length c2) (.slice a3 bs.length c3) ls bs f t r W (show ls.length <= 1048576 by omega) hbs (ZaR.then h1 hb) (ZaR.then h3 hb))
 have HUP := hide (fun (k : Nat) (b : Bool) (hb : zs[k]? = some b) => h4.cell k b hb)
 have HTH := hide (fun (k : Nat) (t : Th) (ht : ts[k]? = some t) => h2.cells k t ht)
 rw [hbs] at HOP |-
 rw [hzs] at HUP |-
 have HZL := hide hzs
 have HOK := hide hok
 have HTO := hide htho
 clear hok htho h1 h2 h3 h4 hbs hzs
 have BX0 : Below w.heap.size w (w.alloc (.cells #[.int .i64 (N : Int), .slice a1 ls.length c1, .slice a2 ts.length c2] 27)) := (Below.refl _ _).alloc (Nat.le_refl _) _
 have hx0 : (w.alloc (.cells #[.int .i64 (N : Int), .slice a1 ls.length c1, .slice a2 ts.length c2] 27)).heap[w.heap.size]? = some (.cells #[.int .i64 (N : Int), .slice a1 ls.length c1, .slice a2 ts.length c2] 27) := heap_alloc_new w _
 obtain ⟨w0, hw0⟩ : ∃ W, W = w.alloc (.cells #[.int .i64 (N : Int), .slice a1 ls.length c1, .slice a2 ts.length c2] 27) := ⟨_, rfl⟩
 rw [<- hw0] at BX0 hx0
 have LIT := ZfH w0 w.heap.size BX0.size
 have BX1 : Below w.heap.size w (w0.alloc (.cells #[] 64)) := BX0.alloc BX0.size _
 have hx1 : (w0.alloc (.cells #[] 64)).heap[w.heap.size]? = some (.cells #[.int .i64 (N : Int), .slice a1 ls.length c1, .slice a2 ts.length c2] 27) := by rw [Below.heap_alloc _ _ _ (Zab hx0)]; exact hx0
 have e0 := Zaa hx1 0
 have e1 := Zaa hx1 1
 have e2 := Zaa hx1 2
 simp at e0 e1 e2
 have HLIT := hide LIT
 have HX1 := hide hx1
 clear LIT BX0 hx0 hx1
 subst hw0
 go_enter Tryz.func7, Tryz.ntmps7
 go_wp2_with fail
 refine (HNO.out _ BX1).mono ?_
 rintro e w2 ⟨rfl, b2⟩
 rw [HOK.out]
 have hx2 := (b2.block _ (Zab HX1.out)).trans HX1.out
 have B2 : Below w.heap.size w w2 := BX1.trans (b2.mono BX1.size)
 have HS2 := hide ((HLIT.out.below b2 (Nat.le_refl _)).in.wide b2.size)
 have e0 := Zaa hx2 0
 have e1 := Zaa hx2 1
 have e2 := Zaa hx2 2
 simp at e0 e1 e2
 have HX2 := hide hx2
 clear b2 HLIT HX1 hx2 BX1 HNO
 go_wp2
 go_loopw [9, 8] (fun i o wr => ∃ (k : Nat) (x : Value) (qs : List RP), k <= N /\ i = .int .i64 ((k : Int) + 1) /\ o = x /\ RecsIn wr wr.heap.size x qs /\ Hid (fsts qs = idA ls bs zs N k) /\ tot qs <= 21 * k /\ Below w2.heap.size w2 wr) (fun i _ _ => 8 - (intOf i).toNat)
 case atStart => exact ⟨0, _, [], by omega, rfl, rfl, by have h := HS2.out; simpa using h, hide (by simp [fsts, idA]), by simp [tot], Below.refl _ _⟩
 case round =>
  obtain ⟨k, x, qs, hk, rfl, rfl, hin, HF, htq, hnx⟩ := hrel
  clear HS2 e0 e1 e2
  obtain ⟨xa, xc, rfl⟩ := Zac hin.row
  have hsz := hnx.size
  have BR : Below w.heap.size w wr := B2.trans (hnx.mono B2.size)
  have hxr := (hnx.block _ (Zab HX2.out)).trans HX2.out
  have e0 := Zaa hxr 0
  have e1 := Zaa hxr 1
  have e2 := Zaa hxr 2
  simp at e0 e1 e2
  have HXR := hide hxr
  have HIN := hide hin
  clear hxr hin
  by_cases hlt : k < N
  ·obtain ⟨ub, hub⟩ : ∃ b, zs[k]? = some b := ⟨zs[k]'(by have := HZL.out; omega), List.getElem?_eq_getElem _⟩
   have hkn : (k : Int) + 1 <= (N : Int) := by omega
   go_wp2_with fail
   refine (HAR.out ((k : Int) + 1) _ BR).mono ?_
   rintro e w3 ⟨ua, rfl, oa, b3⟩
   have hal := Zda ls ((k : Int) + 1)
   have HAU := hide (idA_up (ls := ls) (bs := bs) (N := N) (zs := zs) (k := k))
   have HAD := hide (Zny (ls := ls) (bs := bs) (N := N) (zs := zs) (k := k))
   obtain ⟨al, HAL⟩ : ∃ al, Hid (al = ZaU ls ((k : Int) + 1)) := ⟨_, hide rfl⟩
   rw [<- HAL.out] at oa hal HAU
   obtain ⟨la, lc, rfl⟩ := Zac oa
   have hop : ZaK w3 (.slice la al.length lc) al w3.heap.size := Zat (by rw [Zb0]; exact oa)
   have HHO := hide hop
   have B3 : Below w.heap.size w w3 := BR.trans (b3.mono BR.size)
   have hx3 := (b3.block _ (Zab HXR.out)).trans HXR.out
   have e0 := Zaa hx3 0
   have e1 := Zaa hx3 1
   have e2 := Zaa hx3 2
   simp at e0 e1 e2
   have HX3 := hide hx3
   have HI3 := hide ((HIN.out.below b3 (Nat.le_refl _)).wide b3.size)
   have B23 : Below w2.heap.size w2 w3 := hnx.trans (b3.mono hsz)
   have HUB := hide hub
   clear oa hop hx3 b3 HXR HIN hub
   go_wp2
   go_loopw [11, 8] (fun i o wr => ∃ (j : Nat) (x : Value) (ps : List RP), j <= al.length /\ i = .int .i64 (j : Int) /\ o = x /\ RecsIn wr wr.heap.size x ps /\ Hid (fsts ps = ZgI ls bs zs N ((k : Int) + 1) al (fsts qs) j) /\ tot ps <= 21 * k + 7 * j /\ Below w3.heap.size w3 wr /\ (ub = false -> j = 0)) (fun i _ _ => 8 - (intOf i).toNat)
   case atStart => exact ⟨0, _, qs, by omega, rfl, rfl, HI3.out, hide (by simp [ZgI]), by omega, Below.refl _ _, fun _ => rfl⟩
   case round =>
    rename World => wa
    obtain ⟨j, x, ps, hj, rfl, rfl, hin, HG, htp, hnx2, hj0⟩ := hrel
    clear HI3 e0 e1 e2
    obtain ⟨xa, xc, rfl⟩ := Zac hin.row
    have hsz2 := hnx2.size
    have BW : Below w.heap.size w wa := B3.trans (hnx2.mono B3.size)
    have hxa := (hnx2.block _ (Zab HX3.out)).trans HX3.out
    have e0 := Zaa hxa 0
    have e1 := Zaa hxa 1
    have e2 := Zaa hxa 2
    simp at e0 e1 e2
    have HXA := hide hxa
    have HIN := hide hin
    clear hxa hin
    obtain ⟨ug, uo, uc, huv, hug, ucell⟩ := HUP.out k ub HUB.out
    cases huv
    rw [<- BW.cell (p := ⟨ug, uo + k, none⟩) hug] at ucell
    by_cases hlj : j < al.length
    ·obtain ⟨ar, har⟩ : ∃ a, al[j]? = some a := ⟨al[j], List.getElem?_eq_getElem hlj⟩
     obtain ⟨ag, ao, ac, hav, hag, acell⟩ := HHO.out.cell j ar har
     cases hav
     rw [<- hnx2.cell (p := ⟨ag, ao + j, none⟩) hag] at acell
     have hji : (j : Int) < (al.length : Int) := by omega
     have hj00 : (0 : Int) <= (j : Int) := by omega
     have HAT := hide har
     clear har
     cases ub
     ·have hj1 := hj0 rfl
      have HFN := hide (show fsts ps = idA ls bs zs N (k + 1) by
       have h := HG.out; rw [hj1] at h; rw [h, HAD.out HUB.out, <- HF.out]; rfl)
      have htn : tot ps <= 21 * (k + 1) := by omega
      have HBN := hide (B23.trans (hnx2.mono B23.size))
      go_wp2
      go_roundw
      case rel => exact ⟨k + 1, _, ps, by omega, by go_num, rfl, HIN.out, HFN, htn, HBN.out⟩
      case measure => simp [intOf]; omega
     ·have HST := hide (ZgK.start wa ((k : Int) + 1) ar)
      have BST := (Below.refl wa.heap.size wa).alloc (Nat.le_refl _) (.cells #[.int .i64 ar, .int .i64 1, .int .i64 ((k : Int) + 1), .int .i64 0, .int .i64 1, .slice none 0 0, .int .i64 0, .bool false] 64)
      have HBS := hide BST
      clear BST
      go_wp2
      go_loopw [13] (fun i wr => ∃ (m : Nat) (nv : Value), m <= N /\ i = .int .i64 ((m : Int) + 1) /\ ZgK wr wa.heap.size nv (ZbV ((k : Int) + 1) ar (ZbT ls bs zs ((k : Int) + 1) ar m)) /\ Below wa.heap.size wa wr) (fun i _ => 8 - (intOf i).toNat)
      case atStart => exact ⟨0, _, by omega, rfl, HST.out, HBS.out⟩
      case round =>
       obtain ⟨m, nv, hm, rfl, hst, hnx3⟩ := hrel
       clear HST HBS e0 e1 e2 ucell
       have hsz3 := hnx3.size
       have BR3 : Below w.heap.size w wr := BW.trans (hnx3.mono BW.size)
       have hxc := (hnx3.block _ (Zab HXA.out)).trans HXA.out
       have e0 := Zaa hxc 0
       have e1 := Zaa hxc 1
       have e2 := Zaa hxc 2
       simp at e0 e1 e2
       have hxlt := Zab hxc
       have HXC := hide hxc
       clear hxc
       rw [<- hnx3.cell (p := ⟨ag, ao + j, none⟩) (by show ag < wa.heap.size; omega)] at acell
       have hagr : ag < wr.heap.size := by omega
       have hnl := ZiF ls bs zs ((k : Int) + 1) ar m
       by_cases hlm : m < N
       ·obtain ⟨vb, hvb⟩ : ∃ b, zs[m]? = some b := ⟨zs[m]'(by have := HZL.out; omega), List.getElem?_eq_getElem _⟩
        obtain ⟨vg, vo, vc, hvv, hvg, vcell⟩ := HUP.out m vb hvb
        cases hvv
        have hmn : (m : Int) + 1 <= (N : Int) := by omega
        have HVB := hide hvb
        have HNS := hide hst
        have BD : Below w.heap.size w wr.drew := BR3.drew
        clear hvb hst
        go_wp2
        go_region_held3 (fun W => W.cell? ⟨w.heap.size, 0, none⟩ = some (.int .i64 (N : Int)) /\ W.cell? ⟨w.heap.size, 1, none⟩ = some (.slice a1 ls.length c1) /\ W.cell? ⟨w.heap.size, 2, none⟩ = some (.slice a2 ts.length c2) /\ W.cell? ⟨ag, ao + j, none⟩ = some (.int .i64 ar)) (first | (refine ⟨?_, ?_, ?_, ?_⟩ <;> (rw [b5.cell (by assumption)]; assumption)) | go_keep) (first | (go_at_call 24; refine (HOP.out ((k : Int) + 1) ((m : Int) + 1) ar _ BD).mono ?_; rintro e w5 ⟨rfl, b5⟩))
        have B5 : Below wr.heap.size wr w5 := (Below.refl wr.heap.size wr).drew.trans b5
        have BW5 : Below w.heap.size w w5 := BR3.trans (B5.mono BR3.size)
        have BA5 : Below wa.heap.size wa w5 := hnx3.trans (B5.mono hsz3)
        have hz5 := B5.size
        have hst5 := HNS.out.below B5
        obtain ⟨na, nc, hnv⟩ := Zac hst5.2
        subst hnv
        have r5 := Zaa hst5.1 5
        simp [recC] at r5
        have hzlt := Zab hst5.1
        have f5 := Zaf hst5.1
        rw [<- BW5.cell (p := ⟨ug, uo + m, none⟩) hvg] at vcell
        have hvgr : ug < w5.heap.size := by have := BW5.size; omega
        clear b5 e0 e1 e2 acell HNS BD hvg
        obtain ⟨q, HQ⟩ : ∃ q, Hid (q = ZdE ls bs ((k : Int) + 1) ((m : Int) + 1) ar) := ⟨_, hide rfl⟩
        rw [<- HQ.out]
        have HS5 := hide hst5
        have HB5 := hide BA5
        clear hst5 B5 BA5 BW5
        have hrow : (ZbV ((k : Int) + 1) ar (ZbT ls bs zs ((k : Int) + 1) ar m)).near.length = (ZbT ls bs zs ((k : Int) + 1) ar m).length := rfl
        rw [hrow] at r5
        obtain ⟨L, HL⟩ : ∃ L, Hid (L = ZbT ls bs zs ((k : Int) + 1) ar m) := ⟨_, hide rfl⟩
        rw [<- HL.out] at r5 hnl HS5 hrow
        by_cases h0 : 0 < q
        ·cases vb
         ·have HNN := hide (show ZbT ls bs zs ((k : Int) + 1) ar (m + 1) = L by rw [HL.out]; exact ZjI HQ.out HVB.out (.inr rfl))
          go_wp2
          go_roundw
          case rel => exact ⟨m + 1, _, by omega, by go_num, by rw [HNN.out]; exact HS5.out, HB5.out⟩
          case measure => simp [intOf]; omega
         ·have HNN := hide (show ZbT ls bs zs ((k : Int) + 1) ar (m + 1) = L ++ [⟨(m : Int) + 1, q⟩] by rw [HL.out]; exact Zmi HQ.out h0 HVB.out)
          have OW := hide HS5.out.2
          have hwb : wa.heap.size + 1 <= (w5.alloc (.cells (nrE ⟨(m : Int) + 1, q⟩).toArray 67)).heap.size := by simp; omega
          go_wp2_with (first
           | (at_builtin; refine ZaG Zjj (by omega) (by omega) _ rfl _ _ 62 rfl (wa.heap.size + 1) 67 Tryz.underlying62 (nrV nr0) rfl Tryz.infoNr _ L ⟨(m : Int) + 1, q⟩ (ZnA _) rfl (OW.out.alloc _) ⟨w5.heap.size, 0, none⟩ 1 rfl (Zan (cs := nrE ⟨(m : Int) + 1, q⟩)) (by omega) hwb ?_))
          intro v' w7 hown' hgrow hblk
          obtain ⟨va, vc, rfl⟩ := Zac hown'
          have hzz : wa.heap.size < w5.heap.size := hzlt
          have hb7 : w7.heap[wa.heap.size]? = some (.cells (recC (ZbV ((k : Int) + 1) ar L) (.slice na L.length nc)) 64) := by
           rw [hgrow.block _ (by simp; omega) (fun e => by have := (OW.out.lt _ e.symm).1; omega), Below.heap_alloc _ _ _ hzz]; exact HS5.out.1
          have f7 := Zaf hb7
          have s5 := Zaa hb7 5
          simp [recC] at s5
          have h7lt := Zab hb7
          have PS := hide (HS5.out.push (y := ZbV ((k : Int) + 1) ar (L ++ [⟨(m : Int) + 1, q⟩])) hgrow (fun _ => rfl) (by simpa [ZbV] using hown'))
          have PB := hide (((HB5.out.alloc HB5.out.size _).grown hgrow (by have := HB5.out.size; simp; omega) (fun i hi => by have := (OW.out.lt i hi).1; omega)).setCell (p := ⟨wa.heap.size, 5, none⟩) (Nat.le_refl _) (.slice va (L.length + 1) vc))
          clear hown' hgrow hblk HS5 HB5 OW hb7 r5 f5
          go_wp2
          go_roundw
          case rel => exact ⟨m + 1, _, by omega, by go_num, by rw [HNN.out]; exact PS.out, PB.out⟩
          case measure => simp [intOf]; omega
        ·have HNN := hide (show ZbT ls bs zs ((k : Int) + 1) ar (m + 1) = L by rw [HL.out]; exact ZjI HQ.out HVB.out (.inl h0))
         go_wp2
         go_roundw
         case rel => exact ⟨m + 1, _, by omega, by go_num, by rw [HNN.out]; exact HS5.out, HB5.out⟩
         case measure => simp [intOf]; omega
       ·have hmn : ¬ (m : Int) + 1 <= (N : Int) := by omega
        have hmN : m = N := by omega
        have HMN := hide (show ZbT ls bs zs ((k : Int) + 1) ar m = ZbT ls bs zs ((k : Int) + 1) ar N by rw [hmN])
        clear hmN
        obtain ⟨L, HL⟩ : ∃ L, Hid (L = ZbT ls bs zs ((k : Int) + 1) ar m) := ⟨_, hide rfl⟩
        rw [<- HL.out] at hst hnl
        obtain ⟨na, nc, hnv⟩ := Zac hst.2
        subst hnv
        have r0 := Zaa hst.1 0
        have r1 := Zaa hst.1 1
        have r2 := Zaa hst.1 2
        have r3 := Zaa hst.1 3
        have r4 := Zaa hst.1 4
        have r5 := Zaa hst.1 5
        have r6 := Zaa hst.1 6
        have r7 := Zaa hst.1 7
        simp [recC, ZbV] at r0 r1 r2 r3 r4 r5 r6 r7
        have hno : ZaT wr 0 wr.heap.size (ZbV ((k : Int) + 1) ar L, .slice na L.length nc) := ⟨Zag hst.2 (Nat.zero_le _), fun i hi => (hst.2.lt i hi).2⟩
        have htt := ZhK ps (ZbV ((k : Int) + 1) ar L, .slice na L.length nc)
        have hne : (ZbV ((k : Int) + 1) ar L).near.length = L.length := rfl
        have HP := hide (ZhC (.slice xa ps.length xc) ps wr.heap.size (ZbV ((k : Int) + 1) ar L, .slice na L.length nc) wr ((HIN.out.below hnx3 (Nat.le_refl _)).wide hnx3.size) (Nat.le_refl _) (by omega) hno)
        have HF2 := hide (show fsts (putL ps (ZbV ((k : Int) + 1) ar L, .slice na L.length nc)) = ZgI ls bs zs N ((k : Int) + 1) al (fsts qs) (j + 1) by
         rw [ZeX, ZkC HAT.out, <- HG.out, HL.out, HMN.out])
        have ht2 : tot (putL ps (ZbV ((k : Int) + 1) ar L, .slice na L.length nc)) <= 21 * k + 7 * (j + 1) := by simp only [hne] at htt; omega
        obtain ⟨Q, hQ⟩ : ∃ Q, Q = putL ps (ZbV ((k : Int) + 1) ar L, .slice na L.length nc) := ⟨_, rfl⟩
        rw [<- hQ] at HP HF2 ht2
        unfold recC ZbV at HP
        simp only [] at HP
        have HB3 := hide (hnx2.trans (hnx3.mono hsz2))
        clear hno hst htt hQ acell
        go_wp2_with fail
        refine HP.out.mono ?_
        rintro e w6 ⟨o, rfl, ho, b6⟩
        obtain ⟨oa, oc, rfl⟩ := Zac ho.row
        have HO := hide ho
        have HB6 := hide (HB3.out.trans (b6.mono HB3.out.size))
        clear ho b6 HP HB3 r0 r1 r2 r3 r4 r5 r6 r7
        go_wp2
        go_roundw
        case rel => exact ⟨j + 1, _, Q, by omega, by go_num, rfl, HO.out, HF2, ht2, HB6.out, fun h => by simp at h⟩
        case measure => simp [intOf]; omega
    ·have hji : ¬ (j : Int) < (al.length : Int) := by omega
     have HFN := hide (show fsts ps = idA ls bs zs N (k + 1) by
      have h := HG.out
      have hjl : j = al.length := by omega
      cases ub
      ·rw [hj0 rfl] at h; rw [h, HAD.out HUB.out, <- HF.out]; rfl
      ·rw [hjl] at h; rw [h, HAU.out HUB.out, <- HF.out, HAL.out])
     have htn : tot ps <= 21 * (k + 1) := by omega
     have HBN := hide (B23.trans (hnx2.mono B23.size))
     clear ucell hug
     go_wp2
     go_roundw
     case rel => exact ⟨k + 1, _, ps, by omega, by go_num, rfl, HIN.out, HFN, htn, HBN.out⟩
     case measure => simp [intOf]; omega
  ·have hkn : ¬ (k : Int) + 1 <= (N : Int) := by omega
   have hkN : k = N := by omega
   have HF1 := hide (show fsts qs = idA ls bs zs N N by rw [HF.out, hkN])
   have htq1 : tot qs <= 126 := by omega
   clear HF htq hkN
   rename World => wb
   go_wp2
   go_loopw [15, 8] (fun i o wr => ∃ (j : Nat) (x : Value) (ps : List RP), j <= ts.length /\ i = .int .i64 (j : Int) /\ o = x /\ RecsIn wr wr.heap.size x ps /\ Hid (fsts ps = idB ts zs (idA ls bs zs N N) j) /\ tot ps <= 126 + j /\ Below wb.heap.size wb wr) (fun i _ _ => 8 - (intOf i).toNat)
   case atStart => exact ⟨0, _, qs, by omega, rfl, rfl, HIN.out, hide (by rw [HF1.out]; rfl), by omega, Below.refl _ _⟩
   case round =>
    obtain ⟨j, x, ps, hj, rfl, rfl, hin, HG, htp, hnx2⟩ := hrel
    clear HIN e0 e1 e2
    obtain ⟨ya, yc, rfl⟩ := Zac hin.row
    have hsz2 := hnx2.size
    have BW : Below w.heap.size w wr := BR.trans (hnx2.mono BR.size)
    have hxa := (hnx2.block _ (Zab HXR.out)).trans HXR.out
    have e0 := Zaa hxa 0
    have e1 := Zaa hxa 1
    have e2 := Zaa hxa 2
    simp at e0 e1 e2
    have HXA := hide hxa
    have HI2 := hide hin
    clear hxa hin
    by_cases hlj : j < ts.length
    ·obtain ⟨th, hth⟩ : ∃ a, ts[j]? = some a := ⟨ts[j], List.getElem?_eq_getElem hlj⟩
     obtain ⟨tg, to', tc, htv, htg, d0, d1, d2, d3⟩ := HTH.out j th hth
     cases htv
     obtain ⟨ho1, ho2⟩ := HTO.out th (List.mem_of_getElem? hth)
     obtain ⟨m, hm⟩ : ∃ m : Nat, th.o = (m : Int) + 1 := ⟨(th.o - 1).toNat, by omega⟩
     obtain ⟨ub, hub⟩ : ∃ b, zs[m]? = some b := ⟨zs[m]'(by have := HZL.out; omega), List.getElem?_eq_getElem _⟩
     obtain ⟨ug, uo, uc, huv, hug, ucell⟩ := HUP.out m ub hub
     cases huv
     rw [<- BW.cell (p := ⟨ug, uo + m, none⟩) hug] at ucell
     rw [<- BW.cell (p := ⟨tg, to' + j * 4, none⟩) htg, hm] at d0
     rw [<- BW.cell (p := ⟨tg, to' + j * 4 + 1, none⟩) htg] at d1
     rw [<- BW.cell (p := ⟨tg, to' + j * 4 + 2, none⟩) htg] at d2
     rw [<- BW.cell (p := ⟨tg, to' + j * 4 + 3, none⟩) htg] at d3
     have hmN : (m : Int) < (N : Int) := by omega
     have hji : (j : Int) < (ts.length : Int) := by omega
     have hj00 : (0 : Int) <= (j : Int) := by omega
     have hugr : ug < wr.heap.size := by have := BW.size; omega
     have HBA := hide ((Below.refl wr.heap.size wr).alloc (Nat.le_refl _) (.cells #[.int .i64 ((m : Int) + 1), .int .i64 th.k, .int .i64 th.c, .bool th.f] 56))
     cases ub
     ·have HGN := hide (show fsts ps = idB ts zs (idA ls bs zs N N) (j + 1) by rw [HG.out, Zm0 hth hm hub])
      have HI3 := hide ((HI2.out.below HBA.out (Nat.le_refl _)).wide HBA.out.size)
      have HBN := hide (hnx2.trans (HBA.out.mono hsz2))
      clear hub hth hm
      go_wp2
      go_roundw
      case rel => exact ⟨j + 1, _, ps, by omega, by go_num, rfl, HI3.out, HGN, by omega, HBN.out⟩
      case measure => simp [intOf]; omega
     ·have htt := ZhK ps (ZdA th, .slice none 0 0)
      have HP := hide (fun W (b : Below wr.heap.size wr W) => ZhC (.slice ya ps.length yc) ps W.heap.size (ZdA th, .slice none 0 0) W ((HI2.out.below b (Nat.le_refl _)).wide b.size) (Nat.le_refl _) (by omega) ⟨World.ownsRow_nil _ _ _ _, fun i hi => by simp [Value.ownBlock] at hi⟩)
      have HGN := hide (show fsts (putL ps (ZdA th, .slice none 0 0)) = idB ts zs (idA ls bs zs N N) (j + 1) by rw [ZeX, idB_up hth hm hub, <- HG.out])
      have ht2 : tot (putL ps (ZdA th, .slice none 0 0)) <= 126 + (j + 1) := by
       have h0 : (ZdA th, Value.slice none 0 0).1.near.length = 0 := rfl
       rw [h0] at htt; omega
      obtain ⟨Q, hQ⟩ : ∃ Q, Q = putL ps (ZdA th, .slice none 0 0) := ⟨_, rfl⟩
      rw [<- hQ] at HP HGN ht2
      unfold recC ZdA at HP
      simp only [hm] at HP
      have HP1 := hide (HP.out _ HBA.out)
      clear hub hth hm htt hQ HP
      go_wp2_with fail
      refine HP1.out.mono ?_
      rintro e w6 ⟨o, rfl, ho, b6⟩
      obtain ⟨oa, oc, rfl⟩ := Zac ho.row
      have HO := hide ho
      have HBN0 := hnx2.trans (HBA.out.mono hsz2)
      have HB6 := hide (HBN0.trans (b6.mono HBN0.size))
      clear ho b6 HP1 HBN0
      go_wp2
      go_roundw
      case rel => exact ⟨j + 1, _, Q, by omega, by go_num, rfl, HO.out, HGN, ht2, HB6.out⟩
      case measure => simp [intOf]; omega
    ·have hji : ¬ (j : Int) < (ts.length : Int) := by omega
     have hjN : j = ts.length := by omega
     have HG1 := hide (show fsts ps = idB ts zs (idA ls bs zs N N) ts.length by rw [HG.out, hjN])
     have htp1 : tot ps <= 130 := by omega
     clear HG htp hjN HTH HTO
     obtain ⟨X, HX⟩ : ∃ X, Hid (X = idB ts zs (idA ls bs zs N N) ts.length) := ⟨_, hide rfl⟩
     rw [<- HX.out] at HG1
     rename World => wc
     go_wp2
     go_loopw [17, 8] (fun i o wr => ∃ (r : Nat) (x : Value) (os : List RP), r <= 3 /\ i = .int .i64 (r : Int) /\ o = x /\ RecsIn wr wr.heap.size x os /\ Hid (fsts os = idR ls zs N X r) /\ tot os <= 130 + 108 * r /\ Below wc.heap.size wc wr) (fun i _ _ => 8 - (intOf i).toNat)
     case atStart => exact ⟨0, _, ps, by omega, rfl, rfl, HI2.out, hide (by rw [HG1.out]; rfl), by omega, Below.refl _ _⟩
     case round =>
      rename World => wd
      obtain ⟨r, x, os, hr, rfl, rfl, hin, HH, hto, hnx3⟩ := hrel
      clear HI2 e0 e1 e2
      obtain ⟨xo, xp, rfl⟩ := Zac hin.row
      have hsz3 := hnx3.size
      have BD : Below w.heap.size w wd := BW.trans (hnx3.mono BW.size)
      have hxd := (hnx3.block _ (Zab HXA.out)).trans HXA.out
      have e0 := Zaa hxd 0
      have e1 := Zaa hxd 1
      have e2 := Zaa hxd 2
      simp at e0 e1 e2
      have HXD := hide hxd
      have HI3 := hide hin
      clear hxd hin
      by_cases hlr : r < 3
      ·have hri : (r : Int) < 3 := by omega
       have HRN := hide (show idR ls zs N X (r + 1) = idC ls zs (idR ls zs N X r) N from rfl)
       rw [<- HH.out] at HRN
       clear HH
       go_wp2
       go_loopw [18, 8] (fun i o wr => ∃ (k : Nat) (x : Value) (us : List RP), k <= N /\ i = .int .i64 ((k : Int) + 1) /\ o = x /\ RecsIn wr wr.heap.size x us /\ Hid (fsts us = idC ls zs (fsts os) k) /\ tot us <= 130 + 108 * r + 18 * k /\ Below wd.heap.size wd wr) (fun i _ _ => 8 - (intOf i).toNat)
       case atStart => exact ⟨0, _, os, by omega, rfl, rfl, HI3.out, hide (by rfl), by omega, Below.refl _ _⟩
       case round =>
        rename World => we
        obtain ⟨kk, x, us, hkk, rfl, rfl, hin, HJ, htu, hnx4⟩ := hrel
        clear HI3 e0 e1 e2
        obtain ⟨xu, xv, rfl⟩ := Zac hin.row
        have hsz4 := hnx4.size
        have BE : Below w.heap.size w we := BD.trans (hnx4.mono BD.size)
        have hxe := (hnx4.block _ (Zab HXD.out)).trans HXD.out
        have e0 := Zaa hxe 0
        have e1 := Zaa hxe 1
        have e2 := Zaa hxe 2
        simp at e0 e1 e2
        have HXE := hide hxe
        have HI4 := hide hin
        clear hxe hin
        by_cases hlk : kk < N
        ·obtain ⟨ub, hub⟩ : ∃ b, zs[kk]? = some b := ⟨zs[kk]'(by have := HZL.out; omega), List.getElem?_eq_getElem _⟩
         obtain ⟨ug, uo, uc, huv, hug, ucell⟩ := HUP.out kk ub hub
         cases huv
         rw [<- BE.cell (p := ⟨ug, uo + kk, none⟩) hug] at ucell
         have hkn2 : (kk : Int) + 1 <= (N : Int) := by omega
         have HUB := hide hub
         clear hub
         cases ub
         ·have HJN := hide (show fsts us = idC ls zs (fsts os) (kk + 1) by rw [HJ.out, ZnO HUB.out (.inl rfl)])
          go_wp2
          go_roundw
          case rel => exact ⟨kk + 1, _, us, by omega, by go_num, rfl, HI4.out, HJN, by omega, hnx4⟩
          case measure => simp [intOf]; omega
         ·go_wp2_with fail
          refine (HBO.out ((kk : Int) + 1) _ BE).mono ?_
          rintro e w7 ⟨rfl, b7⟩
          have hx7 := (b7.block _ (Zab HXE.out)).trans HXE.out
          have e0 := Zaa hx7 0
          have e1 := Zaa hx7 1
          have e2 := Zaa hx7 2
          simp at e0 e1 e2
          have HX7 := hide hx7
          have B7 : Below w.heap.size w w7 := BE.trans (b7.mono BE.size)
          have HB7 := hide (hnx4.trans (b7.mono hsz4))
          have HI7 := hide ((HI4.out.below b7 (Nat.le_refl _)).wide b7.size)
          clear hx7 b7 HXE HI4 hnx4 BE ucell
          obtain ⟨bb, HBB⟩ : ∃ b, Hid (b = ZhW ls ((kk : Int) + 1)) := ⟨_, hide rfl⟩
          rw [<- HBB.out]
          cases bb
          ·have HJN := hide (show fsts us = idC ls zs (fsts os) (kk + 1) by rw [HJ.out, ZnO HUB.out (.inr HBB.out.symm)])
           go_wp2
           go_roundw
           case rel => exact ⟨kk + 1, _, us, by omega, by go_num, rfl, HI7.out, HJN, by omega, HB7.out⟩
           case measure => simp [intOf]; omega
          ·go_wp2_with fail
           refine (HAR.out ((kk : Int) + 1) _ B7).mono ?_
           rintro e w8 ⟨ua, rfl, oa, b8⟩
           have hal := Zda ls ((kk : Int) + 1)
           have HAU := hide (Zoq (ls := ls) (zs := zs) (xs := fsts os) HUB.out HBB.out.symm)
           obtain ⟨al, HAL⟩ : ∃ al, Hid (al = ZaU ls ((kk : Int) + 1)) := ⟨_, hide rfl⟩
           rw [<- HAL.out] at oa hal HAU
           obtain ⟨la, lc, rfl⟩ := Zac oa
           have hop : ZaK w8 (.slice la al.length lc) al w8.heap.size := Zat (by rw [Zb0]; exact oa)
           have HB8 := hide (HB7.out.trans (b8.mono HB7.out.size))
           have HP := hide (ZmZ (.slice xu us.length xv) (.slice la al.length lc) us al w8.heap.size ((kk : Int) + 1) w8 ((HI7.out.below b8 (Nat.le_refl _)).wide b8.size) hop (Nat.le_refl _) (by omega) (by omega))
           clear oa hop b8 HI7 HB7 HAL B7
           go_wp2_with fail
           refine HP.out.mono ?_
           rintro e w9 ⟨o, ns, rfl, hns, ho, htn, b9⟩
           obtain ⟨oa, oc, rfl⟩ := Zac ho.row
           have HJN := hide (show fsts ns = idC ls zs (fsts os) (kk + 1) by rw [hns, HJ.out, HAU.out])
           have HO := hide ho
           have HB9 := hide (HB8.out.trans (b9.mono HB8.out.size))
           clear ho b9 HP HB8 hns e0 e1 e2
           go_wp2
           go_roundw
           case rel => exact ⟨kk + 1, _, ns, by omega, by go_num, rfl, HO.out, HJN, by omega, HB9.out⟩
           case measure => simp [intOf]; omega
        ·have hkn2 : ¬ (kk : Int) + 1 <= (N : Int) := by omega
         have hkN : kk = N := by omega
         have HRF := hide (show fsts us = idR ls zs N X (r + 1) by rw [HRN.out, HJ.out, hkN])
         have htf : tot us <= 130 + 108 * (r + 1) := by omega
         have HBF := hide (hnx3.trans (hnx4.mono hsz3))
         clear hkN
         go_wp2
         go_roundw
         case rel => exact ⟨r + 1, _, us, by omega, by go_num, rfl, HI4.out, HRF, htf, HBF.out⟩
         case measure => simp [intOf]; omega
      ·have hri : ¬ (r : Int) < 3 := by omega
       have hr3 : r = 3 := by omega
       have HFI := hide (show fsts os = ZgY ls ts bs zs N by unfold ZgY; rw [HH.out, hr3, HX.out])
       have HC := hide (ZiC (.slice xo os.length xp) os wd.heap.size wd HI3.out (Nat.le_refl _) (by omega))
       have HBD := hide BD
       clear hr3 HH
       go_wp2_with fail
       refine HC.out.mono ?_
       rintro e w9 ⟨o, ns, rfl, hns, ho, b9⟩
       have HO := hide (ho.wide HBD.out.size (Nat.le_refl _))
       have HNS := hide (hns.trans HFI.out)
       have HNT := hide (show tot ns <= 500 by have h : tot ns = tot os := Zol hns; omega)
       have HB9 := hide (HBD.out.trans (b9.mono HBD.out.size))
       clear ho hns b9 HC e0 e1 e2
       go_wp2
       (try simp only [Exit.inBlock, Exit.then])
       refine bodyPost_ret (v := .tuple #[o, .bool true]) (by simp [results, Tryz.results7, go_sem]) rfl ?_
       first
        | exact ⟨_, ns, rfl, HNS.out, HNT.out, HO.out, HB9.out⟩
        | exact ⟨_, rfl, ns, HNS.out, HNT.out, HO.out, HB9.out⟩
        | exact ⟨_, ⟨rfl, rfl⟩, ns, HNS.out, HNT.out, HO.out, HB9.out⟩
end Go.Proofs.YtakiifededfjlaaGreat
