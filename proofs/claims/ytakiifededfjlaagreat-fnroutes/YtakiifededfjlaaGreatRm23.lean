/-
  impl.Linked over a right store: it is what the table of links has.
  (*impl.wayFinder).goOn: what its rounds keep.
  (*impl.wayFinder).goOn: its walk.
  (*impl.wayFinder).ways: its contract.
  impl.WaysIn: its contract.
-/
import Derived.Test.YtakiifededfjlaaGreatRm22
import Derived.WalkMore
import Derived.ScopeJumps
import Derived.Test.YtakiifededfjlaaGreatRm21
import Derived.Test.YtakiifededfjlaaGreatRm9
import Derived.Test.YtakiifededfjlaaGreatRm4
namespace Go.Proofs.YtakiifededfjlaaGreat
open Go.RowKit
set_option linter.unusedSimpArgs false
set_option linter.unusedVariables false
set_option maxRecDepth 100000
set_option maxHeartbeats 8000000
theorem ZkV {x : RecD} (h : Za3 x = true) (hk : x.kind = 1) : x.key = 0 := by
 unfold Za3 at h
 simp only [Bool.and_eq_true] at h
 have h2 := h.2
 rw [if_pos hk] at h2
 simp only [Bool.and_eq_true, beq_iff_eq] at h2
 exact h2.1.1.1.2
theorem ZiM {xs : List RecD} (h : ZaE xs = true) {x : RecD} (hx : x ∈ xs) : Za3 x = true := by
 unfold ZaE at h
 simp only [Bool.and_eq_true] at h
 exact Zdn h.1.2 hx
theorem ZgD {xs : List RecD} (h : ZaE xs = true) {area owner : Int} {x : RecD} (hx : x ∈ xs) : Zgu area owner x = Zba x (ZfC area owner) := by
 have hok := ZiM h hx
 unfold Zgu Zba ZfC
 by_cases hk : x.kind = 1
 ·have := ZkV hok hk
  simp [this]
 ·have hb : (x.kind == 1) = false := by simpa using hk
  simp [hb]
theorem ZiI {xs : List RecD} (h : ZaE xs = true) (area owner : Int) : plN xs area owner = xs.findIdx? (fun x => Zba x (ZfC area owner)) := by
 unfold plN
 cases e : xs.findIdx? (Zgu area owner) with
 | none =>
  rw [List.findIdx?_eq_none_iff] at e
  rw [Eq.comm, List.findIdx?_eq_none_iff]
  intro x hx
  rw [<- ZgD h hx]
  exact e x hx
 | some k =>
  obtain ⟨h1, h2, h3⟩ := List.findIdx?_eq_some_iff_getElem.1 e
  rw [Eq.comm, List.findIdx?_eq_some_iff_getElem]
  refine ⟨h1, ?_, fun j hj => ?_⟩
  ·rw [<- ZgD h (List.getElem_mem _)]; exact h2
  ·rw [<- ZgD h (List.getElem_mem _)]; exact h3 j hj
theorem Zk4 {xs : List RecD} (h : ZaE xs = true) (area owner : Int) : ZhT xs area owner = (plN xs area owner).isSome := by
 unfold ZhT Zi3 atZ
 rw [<- ZiI h]
 cases plN xs area owner with
 | none => rfl
 | some k =>
  show (!decide ((k : Int) < 0)) = true
  simp
theorem Zhj {xs : List RecD} (h : ZaE xs = true) (area owner to : Int) : ZhV xs area owner to = ((Zcr xs area owner).near.find? (fun n => n.to == to)).map (·.c) := by
 unfold ZhV Zcr Zil atZ
 rw [<- ZiI h]
 cases e : plN xs area owner with
 | none => rfl
 | some k =>
  obtain ⟨x, hx, _, _⟩ := ZnM e
  show (match xs[k]? with
   | some x => (x.near.find? (fun (n : Nr) => n.to == to)).map (fun (n : Nr) => n.c)
   | none => none) = _
  rw [hx]
  show _ = (((if ((k : Int) < 0) then ZbN else xs.getD ((k : Int)).toNat ZbN).near.find? (fun (n : Nr) => n.to == to)).map (fun (n : Nr) => n.c))
  rw [if_neg (by omega)]
  simp [hx]
def AscN (ns : List Nr) : Prop := ∀ (i j : Nat) (a b : Nr), i < j -> ns[i]? = some a -> ns[j]? = some b -> a.to < b.to
theorem Zk0 {o : Int} {ns : List Nr} (h : Zbd o ns = true) : AscN ns := by
 unfold Zbd at h
 simp only [Bool.and_eq_true] at h
 have hasc := h.2
 unfold ascB at hasc
 rw [List.all_eq_true] at hasc
 have step : ∀ (j : Nat) (a b : Nr), ns[j]? = some a -> ns[j + 1]? = some b -> a.to < b.to := by
  intro j a b ha hb
  have hj : j + 1 < ns.length := (List.getElem?_eq_some_iff.1 hb).1
  have := hasc (j + 1) (by simpa using hj)
  unfold ZcI at this
  simp only [ha, hb] at this
  unfold ordN at this
  simp at this
  omega
 intro i j a b hij
 induction j generalizing b with
 | zero => omega
 | succ j ih =>
  intro ha hb
  have hj : j + 1 < ns.length := (List.getElem?_eq_some_iff.1 hb).1
  obtain ⟨m, hm⟩ : ∃ m, ns[j]? = some m := ⟨ns[j]'(by omega), List.getElem?_eq_getElem (by omega)⟩
  have s := step j m b hm hb
  by_cases e : i = j
  ·subst e
   rw [ha] at hm
   cases hm
   exact s
  ·have := ih m (by omega) ha hm; omega
theorem ZkL {ns : List Nr} {bk : Int -> Int} {v : Nat} (hv : 1 <= v /\ v <= 6) (hasc : AscN ns) : ∀ k, k <= ns.length -> ZdO ns bk v k = (if 0 < bk (v : Int) then (((ns.take k).find? (fun n => n.to == (v : Int))).map (·.c)).getD 0 else 0) := by
 intro k
 induction k with
 | zero => intro _; simp [ZdO]
 | succ k ih =>
  intro hk
  have hlt : k < ns.length := by omega
  rw [ZdW bk v (List.getElem?_eq_getElem hlt), ih (by omega), List.take_succ_eq_append_getElem hlt, List.find?_append]
  by_cases e : ns[k].to = (v : Int)
  ·by_cases hb : 0 < bk (v : Int)
   ·rw [if_pos ⟨e, by rw [e]; exact ZdI.2 (by omega), by rw [e]; exact hb⟩, if_pos hb]
    have hno : (ns.take k).find? (fun n => n.to == (v : Int)) = none := by
     rw [List.find?_eq_none]
     intro x hx
     obtain ⟨i, hi, e2⟩ := List.mem_iff_getElem.1 hx
     rw [List.length_take] at hi
     rw [List.getElem_take] at e2
     have := hasc i k x ns[k] (by omega) (by rw [List.getElem?_eq_getElem (by omega), e2]) (List.getElem?_eq_getElem hlt)
     simp
     omega
    rw [hno]
    simp [e]
   ·rw [if_neg (fun hc => by rw [e] at hc; exact hb hc.2.2), if_neg hb, if_neg hb]
  ·rw [if_neg (fun hc => e hc.1)]
   have e2 : (ns[k].to == (v : Int)) = false := by simpa using e
   simp [e2]
theorem Ziu {xs : List RecD} (h : ZaE xs = true) (area : Int) {u v : Nat} (hu : 1 <= u /\ u <= 6) (hv : 1 <= v /\ v <= 6) : ZgA xs area (u : Int) (v : Int) = ZeE xs area u v := by
 unfold ZgA ZeE
 rw [if_pos ⟨hu, hv⟩, Zhj h, Zhj h]
 unfold Zma
 have hasc : AscN (Zcr xs area (u : Int)).near := by
  unfold Zcr
  rcases ZiE (xs := xs) (r := ZfC area (u : Int)) with hm | he
  ·rcases ZgE (ZiM h hm) with e | ⟨_, e⟩
   ·rw [e]; intro i j a b _ ha _; simp at ha
   ·exact Zk0 e
  ·rw [he]; intro i j a b _ ha _; simp [ZbN] at ha
 rw [ZkL hv hasc _ (Nat.le_refl _), List.take_length]
 have hback : ∀ c, ((Zcr xs area (v : Int)).near.find? (fun n => n.to == (u : Int))).map (·.c) = some c -> 0 < c := by
  intro c hc
  obtain ⟨n, hn, rfl⟩ := Option.map_eq_some_iff.1 hc
  have := Zf0 (area := area) (node := (v : Int)) h n (List.mem_of_find?_eq_some hn)
  omega
 have htell : ZeO xs area (v : Int) (u : Int) = (((Zcr xs area (v : Int)).near.find? (fun n => n.to == (u : Int))).map (·.c)).getD 0 := by
  unfold ZeO Zf1
  cases (Zcr xs area (v : Int)).near.find? (fun n => n.to == (u : Int)) <;> rfl
 cases e : ((Zcr xs area (v : Int)).near.find? (fun n => n.to == (u : Int))).map (·.c) with
 | none =>
  rw [if_neg (by rw [htell, e]; simp)]
 | some c =>
  rw [if_pos (by rw [htell, e]; exact hback c e)]
  cases ((Zcr xs area (u : Int)).near.find? (fun n => n.to == (v : Int))) <;> rfl
end Go.Proofs.YtakiifededfjlaaGreat
namespace Go.Proofs.YtakiifededfjlaaGreat
open Go.RowKit

set_option linter.unusedSimpArgs false

theorem FS.popped {W W' : World} {lo z n : Nat} {u u' : Value} {q q' : Nat -> Nat} {bp : Nat -> Option Nat} {wd : Nat -> WayD} {wv : Nat -> Value} (s : FS W lo z u (n + 1) q bp wd wv) (F : FK W W' lo z) (hb' : HB W' lo z (finC bp u') u' n q' wd wv) (hi : ZcT (fun k => (wd k).cost) q' n) : FS W' lo z u' n q' bp wd wv := by
 refine ⟨s.lz, hb', hi, fun v k e => ⟨?_, (s.way v k e).2⟩, fun v k e => ?_, s.short, s.apart, s.to, s.b0⟩
 ·have hj := (s.way v k e).1
  exact (F.typed _ _ _ _ hj (by decide) (fun e => by rw [e, s.hb.box] at hj; simp at hj)).trans hj
 ·have ho := s.row v k e
  refine Zap ho (fun j hj => ?_)
  rcases ho.2 with ⟨e1, _⟩ | ⟨g2, cap, cur, e1, _, hh, _⟩
  ·rw [e1] at hj; cases hj
  ·rw [e1] at hj
   simp [Value.ownBlock] at hj
   subst hj
   exact F.typed _ _ _ _ hh (by decide) (fun e => by rw [e, s.hb.box] at hh; simp at hh)

theorem Znv {L : Nat -> Nat -> Int} {src : Nat} {F : Nat -> Bool} {c : Nat -> Int} {h : Nat -> List Int} (I : Inv L src F c h) {u t : Nat} (hu : 0 <= c u) {x : WayD} (hx : x.hops = h u) (co : Int) : onwD x (t : Int) co = ⟨(t : Int), x.cost + co, wayL src h u t⟩ := by
 unfold onwD wayL
 by_cases e : u = src
 ·have : x.hops = [] := by rw [hx, e]; exact I.start0
  rw [if_pos this, if_pos e]
 ·have : x.hops ≠ [] := by rw [hx]; exact I.hops_ne _ u e hu (Nat.le_refl _)
  rw [if_neg this, if_neg e, hx]

theorem ZhE {L : Nat -> Nat -> Int} {src : Nat} {F : Nat -> Bool} {c : Nat -> Int} {h : Nat -> List Int} (I : Inv L src F c h) {u t : Nat} (ht : 1 <= t /\ t <= 6) : (wayL src h u t).Pairwise (· < ·) /\ ∀ x, x ∈ wayL src h u t -> 1 <= x /\ x <= 6 := by
 unfold wayL
 by_cases e : u = src
 ·rw [if_pos e]
  refine ⟨by simp, fun x hx => ?_⟩
  simp at hx
  omega
 ·rw [if_neg e]
  exact ⟨I.asc u, I.rng u⟩

theorem ZnT {L : Nat -> Nat -> Int} {src : Nat} {F : Nat -> Bool} {c : Nat -> Int} {h : Nat -> List Int} (I : Inv L src F c h) {u t : Nat} (ht : 1 <= t /\ t <= 6) : (wayL src h u t).length <= 6 := by
 obtain ⟨h1, h2⟩ := ZhE I (u := u) ht
 rw [ZeB (a := []) (b := wayL src h u t) h1 (fun x => by simp) h2]
 exact Zco _ _

section
variable {L : Nat -> Nat -> Int} {src : Nat} {F : Nat -> Bool} {c : Nat -> Int} {h : Nat -> List Int} {n u t : Nat} {q : Nat -> Nat} {bp : Nat -> Option Nat} {wd : Nat -> WayD}

theorem ZlZ (I : Inv L src F c h) (hl : 0 < L u t) (ht : 1 <= t /\ t <= 6) (g : GI (fun x => F x || x == u) (mixC L c u t) (mixH L src c h u t) n q bp wd) {kn : Nat} (hb : bp t = some kn) (hnc : ¬ c u + L u t < (wd kn).cost) :
  (togI (wd kn) ⟨(t : Int), c u + L u t, wayL src h u t⟩).hops = Zbt L src c h u t /\ Zay L c u t = c t /\ (togI (wd kn) ⟨(t : Int), c u + L u t, wayL src h u t⟩).cost = (wd kn).cost /\ (togI (wd kn) ⟨(t : Int), c u + L u t, wayL src h u t⟩).to = (wd kn).to := by
 have hc : (wd kn).cost = c t := by have := g.cc t; rw [Zci hb, Zdh] at this; exact this
 have hh : (wd kn).hops = h t := by have := g.hh t; rw [Zd2 hb, ZeL] at this; exact this
 have h0 := g.nn t kn hb
 unfold togI Zbb
 by_cases e : (wd kn).cost < c u + L u t
 ·have hr := Zdr (L := L) (src := src) (c := c) (h := h) (u := u) (v := t) (by omega) (by omega)
  rw [if_pos (by simpa using e)]
  exact ⟨by rw [hr.1]; exact hh, hr.2, rfl, rfl⟩
 ·have hr := Zes (L := L) (src := src) (c := c) (h := h) (u := u) (v := t) hl (by omega) (by omega)
  rw [if_neg (by simpa using e), if_neg (by simpa using hnc)]
  refine ⟨?_, hr.2, rfl, rfl⟩
  show Zca (wd kn).hops (wayL src h u t) = _
  rw [hr.1, hh]
  refine ZeB (Zgh _ _) (fun x => ZeF) (fun x hx => ?_)
  rcases ZeF.1 hx with h1 | h1
  ·exact I.rng t x h1
  ·exact (ZhE I ht).2 x h1

theorem Zmz (I : Inv L src F c h) (hL : Links L 1000) (hu : 0 <= c u) : (Zbt L src c h u t).length <= 6 := by
 have r := Zei I hL hu t
 rw [ZeB (a := []) (b := Zbt L src c h u t) r.asc (fun x => by simp) (fun x hx => by
  rcases (r.mem x).1 hx with ⟨h1, _⟩ | ⟨h1, _, h3⟩
  ·exact I.rng t x h1
  ·have hn := (hL.node u t h1).2
   unfold ZcN at hn
   exact (ZhE I (src := src) (u := u) hn).2 x (Zhz.2 h3))]
 exact Zco _ _

theorem ZkK (I : Inv L src F c h) (hl : 0 < L u t) (ht : 1 <= t /\ t <= 6) (g : GI (fun x => F x || x == u) (mixC L c u t) (mixH L src c h u t) n q bp wd) {kn : Nat} (hb : bp t = some kn) (hnc : ¬ c u + L u t < (wd kn).cost) :
  GI (fun x => F x || x == u) (mixC L c u (t + 1)) (mixH L src c h u (t + 1)) n q bp (upd wd kn (togI (wd kn) ⟨(t : Int), c u + L u t, wayL src h u t⟩)) := by
 obtain ⟨j1, j2, j3, j4⟩ := ZlZ I hl ht g hb hnc
 have := g.join hb j3 j4
 rw [j1] at this
 rw [ZcS j2, Zb4]
 exact this

theorem ZkB (I : Inv L src F c h) (hF : F u = false) (hu : 0 <= c u) (hl : 0 < L u t) (ht : 1 <= t /\ t <= 6) (g : GI (fun x => F x || x == u) (mixC L c u t) (mixH L src c h u t) n q bp wd) {k : Nat} {q' : Nat -> Nat}
  (hcase : bp t = none \/ ∃ kn, bp t = some kn /\ c u + L u t < (wd kn).cost) (hk1 : ∀ i, i < n -> q i ≠ k) (hk2 : ∀ v, bp v ≠ some k) (hs : Shuf (fun y => if y = n then k else q y) q' (n + 1)) :
  GI (fun x => F x || x == u) (mixC L c u (t + 1)) (mixH L src c h u (t + 1)) (n + 1) q' (upd bp t (some k)) (upd wd k ⟨(t : Int), c u + L u t, wayL src h u t⟩) := by
 have hc : c t < 0 \/ c u + L u t < c t := by
  have h1 := g.cc t
  rw [Zdh] at h1
  rcases hcase with e | ⟨kn, e, h2⟩
  ·rw [ZfJ e] at h1; omega
  ·rw [Zci e] at h1; omega
 have hFt : (F t || t == u) = false := by
  cases e : F t with
  | true =>
   have h1 := I.mono t u e hF hu
   have h2 := (I.fnode t e).2
   omega
  | false =>
   by_cases e2 : t = u
   ·subst e2; omega
   ·simp [e2]
 have hr := ZcP (L := L) (src := src) (c := c) (h := h) (u := u) (v := t) hl hc
 have hw := ZhE I (u := u) ht
 have hway : wayL src h u t = Zbt L src c h u t := by
  rw [hr.1]
  exact ZeB hw.1 (fun x => by simp) hw.2
 have := g.push (t := t) (k := k) (x := ⟨(t : Int), c u + L u t, wayL src h u t⟩) hFt rfl (by rw [Zdh]; exact hc) hk1 hk2 hs (by show 0 <= c u + L u t; omega)
 rw [Zc9, Zb4, hr.2, <- hway]
 exact this

theorem ZkZ (hl : ¬ 0 < L u t) (g : GI (fun x => F x || x == u) (mixC L c u t) (mixH L src c h u t) n q bp wd) : GI (fun x => F x || x == u) (mixC L c u (t + 1)) (mixH L src c h u (t + 1)) n q bp wd := by
 have hr := Zeu (src := src) (c := c) (h := h) hl
 rw [ZcS hr.2, ZeI hr.1]
 exact g
end

def GO (W : World) (lo z : Nat) (L : Nat -> Nat -> Int) (src m : Nat) : Prop :=
 ∃ u n q bp wd wv F c h, FS W lo z u n q bp wd wv /\ GI F c h n q bp wd /\ Inv L src F c h /\ (∀ v, c v <= 1000 * (Zb3 F : Int)) /\ m = 7 * (6 - Zb3 F) + n

def GEnd (W : World) (lo z : Nat) (L : Nat -> Nat -> Int) (src : Nat) : Prop :=
 ∃ u q bp wd wv c h, FS W lo z u 0 q bp wd wv /\ (∀ v, cOf bp wd v = c v) /\ (∀ v, hOf bp wd v = h v) /\ (∀ v k, bp v = some k -> 0 <= (wd k).cost) /\ Fix L src c h

theorem GI.end {L : Nat -> Nat -> Int} {src : Nat} {F : Nat -> Bool} {c : Nat -> Int} {h : Nat -> List Int} {q : Nat -> Nat} {bp : Nat -> Option Nat} {wd : Nat -> WayD} (g : GI F c h 0 q bp wd) (I : Inv L src F c h) : Fix L src c h := by
 refine ⟨F, I, fun v hv => ?_⟩
 cases e : F v with
 | true => rfl
 | false =>
  have h1 := g.cc v
  cases e2 : bp v with
  | none => rw [ZfJ e2] at h1; omega
  | some k =>
   obtain ⟨i, hi, _⟩ := g.live v k e2 e
   omega

theorem GI.stale {F : Nat -> Bool} {c : Nat -> Int} {h : Nat -> List Int} {n : Nat} {q q' : Nat -> Nat} {bp : Nat -> Option Nat} {wd : Nat -> WayD} (g : GI F c h (n + 1) q bp wd) (hs : Shuf (Zb6 q 0 n) q' n) {v kb : Nat} (hto : (wd (q 0)).to = (v : Int)) (hb : bp v = some kb) (hlt : (wd kb).cost < (wd (q 0)).cost) : GI F c h n q' bp wd := by
 refine g.pop hs (fun _ e => e) (fun v' k e hF e2 => ?_) (fun v' e1 e2 => by rw [e1] at e2; cases e2)
 subst e2
 have h1 := g.to v' _ e
 have : v' = v := by omega
 subst this
 rw [hb] at e
 cases e
 omega

theorem GI.fresh {F : Nat -> Bool} {c : Nat -> Int} {h : Nat -> List Int} {n : Nat} {q q' : Nat -> Nat} {bp : Nat -> Option Nat} {wd : Nat -> WayD} (g : GI F c h (n + 1) q bp wd) (hs : Shuf (Zb6 q 0 n) q' n) (hh : ZcT (fun k => (wd k).cost) q (n + 1)) {v kb : Nat} (hto : (wd (q 0)).to = (v : Int)) (hb : bp v = some kb) (hlt : ¬ (wd kb).cost < (wd (q 0)).cost) :
  GI (fun x => F x || x == v) c h n q' bp wd /\ q 0 = kb /\ F v = false /\ 0 <= c v /\ (wd (q 0)).cost = c v /\ (wd (q 0)).hops = h v /\ ∀ v', F v' = false -> 0 <= c v' -> c v <= c v' := by
 obtain ⟨v2, kb2, e1, e2, e3⟩ := g.ent 0 (by omega)
 have hv : v2 = v := by omega
 subst hv
 rw [hb] at e2
 cases e2
 rcases e3 with ⟨e4, e5⟩ | e4
 ·have hcv : (wd (q 0)).cost = c v2 := by have := g.cc v2; rw [Zci hb] at this; rw [e4]; exact this
  have hhv : (wd (q 0)).hops = h v2 := by have := g.hh v2; rw [Zd2 hb] at this; rw [e4]; exact this
  have h0 := g.nn v2 kb hb
  refine ⟨g.pop hs (fun v' e => ?_) (fun v' k e hF e6 => ?_) (fun v' e6 e7 => ?_), e4, e5, by rw [<- hcv, e4]; exact h0, hcv, hhv, fun v' hF hc => ?_⟩
  ·cases e6 : F v' with
   | false => rfl
   | true => rw [e6] at e; simp at e
  ·subst e6
   have h1 := g.to v' _ e
   have h2 : v' = v2 := by omega
   subst h2
   simp at hF
  ·rw [e6] at e7
   have h1 : v' = v2 := by simpa using e7
   subst h1
   rw [hb, e4]
  ·have h1 := g.cc v'
   cases e6 : bp v' with
   | none => rw [ZfJ e6] at h1; omega
   | some k' =>
    rw [Zci e6] at h1
    obtain ⟨i, hi, e7⟩ := g.live v' k' e6 hF
    have h2 := ZiN hh i i (Nat.le_refl _) hi
    have h3 : (wd (q 0)).cost <= (wd (q i)).cost := h2
    rw [e7] at h3
    omega
 ·exact absurd e4 hlt
end Go.Proofs.YtakiifededfjlaaGreat
namespace Go.Proofs.YtakiifededfjlaaGreat
open Go.RowKit
set_option linter.unusedSimpArgs false
set_option linter.unusedVariables false
set_option maxRecDepth 100000
set_option maxHeartbeats 8000000
theorem ZnU {W : World} {lo z : Nat} {L : Nat -> Nat -> Int} {src : Nat} (h : ∃ m, GO W lo z L src m /\ m <= 43) : ∃ u n q bp wd wv F c hh, FS W lo z u n q bp wd wv /\ GI F c hh n q bp wd /\ Inv L src F c hh /\ (∀ v, c v <= 1000 * (Zb3 F : Int)) /\ ZgV (GO W lo z L src) = 7 * (6 - Zb3 F) + n /\ 7 * (6 - Zb3 F) + n <= 43 := by
 obtain ⟨m, hm, h43⟩ := h
 have hle := ZfR hm
 obtain ⟨u, n, q, bp, wd, wv, F, c, hh, a1, a2, a3, a4, a5⟩ := Zju ⟨m, hm⟩
 exact ⟨u, n, q, bp, wd, wv, F, c, hh, a1, a2, a3, a4, a5, by omega⟩
theorem Zip {P : Program} {a : Act} {w : World} {Q : Exit -> Act -> World -> Prop} {c rest : Go.Code} (l : Nat) (hf : findLabel c l = some rest)
  (pass : ∀ a w, Q .normal a w -> rest.wp P (Exit.jump l (fun a' w' => Q .normal a' w' /\ (0 : Nat) < 0) Q) a w)
  (first : c.wp P (Exit.jump l (fun a' w' => Q .normal a' w') Q) a w) : (Go.Code.scope c).wp P Q a w :=
 wp_scope_jumps l (fun a' w' => Q .normal a' w') (fun _ _ => 0) hf first pass
theorem ZmM (W : World) (lo z : Nat) (v : Value) (ps : List RP) (hi : Nat) (area : Int) (L : Nat -> Nat -> Int) (src : Nat) (hv : RecsIn W hi v ps) (hhi : hi <= lo) (hn : tot ps <= 1048576) (hL : Links L 1000) (hLk : ∀ a b : Nat, 1 <= a /\ a <= 6 -> 1 <= b /\ b <= 6 -> ZgA (fsts ps) area (a : Int) (b : Int) = L a b) (hgo : ∃ m, GO W lo z L src m /\ m <= 43) :
  Calls Tryz.prog 73 #[.pointer (some ⟨z, 0, none⟩), v, .int .i64 area] W fun e W' => e = .returned (.tuple #[]) /\ GEnd W' lo z L src /\ Below lo W W' := by
 obtain ⟨a1, c1, rfl⟩ := Zac hv.row
 have HLI := hide (fun V (hb : Below lo W V) (a b : Nat) (ha : 1 <= a /\ a <= 6) (hb' : 1 <= b /\ b <= 6) (hl : lo <= V.heap.size) => by
  have := ZiW (.slice a1 ps.length c1) ps hi area (a : Int) (b : Int) V (hv.below hb hhi) (Nat.le_trans hhi hl) hn
  rw [hLk a b ha hb'] at this
  exact this)
 have HGO := hide hgo
 have HLL := hide hL
 clear hgo hv hLk hL
 go_enter Tryz.func73, Tryz.ntmps73
 go_wp2
 go_loopw [6] (fun p wr => (p = p) /\ (∃ m, GO wr lo z L src m /\ m <= 43) /\ Below lo W wr) (fun _ wr => ZgV (GO wr lo z L src))
 case atStart => exact ⟨rfl, HGO.out, Below.refl _ _⟩
 case round =>
  rename World => wa
  clear HGO
  obtain ⟨_, hgo, hba⟩ := hrel
  obtain ⟨u, n, q, bp, wd, wv, F, c, hh, fs, gi, iv, bnd, hM, hn43⟩ := ZnU hgo
  have cz := fs.hb.cell
  obtain ⟨ua, uc, hu⟩ := Zac fs.hb.hq.row
  rw [hu] at cz
  have hlo := fs.size
  have HFS := hide fs
  have HGI := hide gi
  have HIV := hide iv
  have HBN := hide bnd
  have HM := hide hM
  clear hgo fs gi iv bnd hM
  by_cases hn0 : n = 0
  ·subst hn0
   have HEND := hide (show GEnd wa lo z L src from ⟨u, q, bp, wd, wv, c, hh, HFS.out, HGI.out.cc, HGI.out.hh, HGI.out.nn, HGI.out.end HIV.out⟩)
   clear hu
   go_wp2_with fail
   refine (ZhS _ _ _ _).mono ?_
   rintro e w1 ⟨rfl, rfl⟩
   go_wp2
   go_returns
   exact ⟨rfl, HEND.out, hba⟩
  ·obtain ⟨m, hm⟩ : ∃ m, n = m + 1 := ⟨n - 1, by omega⟩
   subst hm
   have HPOP := hide (Zjq wa lo z m _ u q wd wv HFS.out.hb hlo (by omega) rfl HFS.out.lz HFS.out.hp)
   unfold ptrV at HPOP
   have hgt : (0 : Int) < ((m + 1 : Nat) : Int) := by omega
   have hAs := fun v W => ZlF v W
   clear hu
   go_wp2_with fail
   refine (ZhS _ _ _ _).mono ?_
   rintro e w1 ⟨rfl, rfl⟩
   obtain ⟨t0, kb, hto, hbp, hent⟩ := HGI.out.ent 0 (by omega)
   have ht0 : 1 <= t0 /\ t0 <= 6 := by
    have h1 := HGI.out.cc t0
    rw [Zci hbp] at h1
    have h2 := HGI.out.nn t0 kb hbp
    have h3 := HIV.out.cnode t0 (by omega)
    exact h3
   go_wp2_with fail
   by_cases hst : (wd kb).cost < (wd (q 0)).cost
   ·refine Zip 0 (rest := ?rest) ?hf ?_ ?_
    case hf => rfl
    ·intro a w hq
     refine wp_skip ?_
     exact hq
    ·go_wp2_with fail
     refine HPOP.out.mono ?_
     rintro e w2 ⟨u', q', rfl, hip, hsh, hb', fk⟩
     rw [Zge] at hb'
     have fs2 := HFS.out.popped fk hb' hip
     have ba2 : Below lo W w2 := hba.trans fk.below
     have hlo2 := fs2.size
     have hw0 := HFS.out.hb.hq.way 0 (by omega)
     have hp2 := (fk.typed _ _ _ _ hw0 (by decide) (fun e => by rw [e, HFS.out.hb.box] at hw0; simp at hw0)).trans hw0
     obtain ⟨pa, pl, pk, hpv⟩ := HFS.out.hb.hq.sl 0 (by omega)
     have hk2 := (fs2.way t0 kb hbp).1
     obtain ⟨ba, bk, hbv⟩ := Zac (fs2.row t0 kb hbp)
     have kz := fs2.known ht0
     rw [hbp] at kz
     unfold ptrO at kz
     rw [hpv] at hp2
     rw [hbv] at hk2
     obtain ⟨p0, hp0⟩ : ∃ p, p = q 0 := ⟨_, rfl⟩
     obtain ⟨xp, hxp⟩ : ∃ x, x = wd (q 0) := ⟨_, rfl⟩
     obtain ⟨xb, hxb⟩ : ∃ x, x = wd kb := ⟨_, rfl⟩
     have HBT := hide (fun V => Zb9 (.slice ba (wd kb).hops.length bk) (.slice pa pl pk) (wd kb) (wd (q 0)) V)
     rw [<- hxp, <- hxb] at HBT
     rw [<- hxp] at hp2
     rw [<- hxb] at hk2
     rw [<- hp0] at hp2 |-
     obtain ⟨bl, hbl⟩ : ∃ l, l = xb.hops.length := ⟨_, rfl⟩
     rw [<- hbl] at hk2 HBT
     have hwp : wayC xp (.slice pa pl pk) = #[.int .i64 (t0 : Int), .int .i64 xp.cost, .slice pa pl pk] := by unfold wayC; rw [hxp, hto]
     rw [hwp] at hp2 HBT
     unfold wayC Zbb at HBT
     unfold wayC at hk2
     obtain ⟨pc, hpc⟩ : ∃ c, c = xp.cost := ⟨_, rfl⟩
     obtain ⟨bt, hbt⟩ : ∃ c, c = xb.to := ⟨_, rfl⟩
     obtain ⟨bc, hbc⟩ : ∃ c, c = xb.cost := ⟨_, rfl⟩
     rw [<- hpc] at hp2 HBT
     rw [<- hbt, <- hbc] at hk2 HBT
     have lp2 := Zab hp2
     have lb2 := Zab hk2
     have lz2 := Zab fs2.hb.box
     have s1 := Zaa hp2 0
     have s2 := Zaa hp2 1
     have s3 := Zaa hp2 2
     have s4 := Zaa hk2 0
     have s5 := Zaa hk2 1
     have s6 := Zaa hk2 2
     simp at s1 s2 s3 s4 s5 s6
     have hti : (0 : Int) <= (t0 : Int) := by omega
     have htj : (t0 : Int) < 7 := by omega
     have FS2 := hide fs2
     have HSH := hide hsh
     have HP0 := hide hp0
     have HXP := hide hxp
     have HXB := hide hxb
     have HPC := hide hpc
     have HBC := hide hbc
     have HP2 := hide hp2
     have HTO := hide hto
     have HBP := hide hbp
     have HEN := hide hent
     clear fs2 hsh hp0 hxp hxb hpc hbt hbc hbl hp2 hk2 hw0 fk hb' hip hpv hbv hwp hto hbp hent HPOP cz
     go_wp2
     refine wp_region_noPanic ?_
     have hS0 : w2.drew.cell? ⟨z, t0, none⟩ = some (.pointer (some ⟨kb, 0, none⟩)) /\ w2.drew.cell? ⟨p0, 0, none⟩ = some (.int .i64 (t0 : Int)) /\ w2.drew.cell? ⟨p0, 1, none⟩ = some (.int .i64 pc) /\ w2.drew.cell? ⟨p0, 2, none⟩ = some (.slice pa pl pk) /\ w2.drew.cell? ⟨kb, 0, none⟩ = some (.int .i64 bt) /\ w2.drew.cell? ⟨kb, 1, none⟩ = some (.int .i64 bc) /\ w2.drew.cell? ⟨kb, 2, none⟩ = some (.slice ba bl bk) := ⟨kz, s1, s2, s3, s4, s5, s6⟩
     have lz4 : z < w2.drew.heap.size := lz2
     have lp4 : p0 < w2.drew.heap.size := lp2
     have lb4 : kb < w2.drew.heap.size := lb2
     refine Zai (S := fun W => W.cell? ⟨z, t0, none⟩ = some (.pointer (some ⟨kb, 0, none⟩)) /\ W.cell? ⟨p0, 0, none⟩ = some (.int .i64 (t0 : Int)) /\ W.cell? ⟨p0, 1, none⟩ = some (.int .i64 pc) /\ W.cell? ⟨p0, 2, none⟩ = some (.slice pa pl pk) /\ W.cell? ⟨kb, 0, none⟩ = some (.int .i64 bt) /\ W.cell? ⟨kb, 1, none⟩ = some (.int .i64 bc) /\ W.cell? ⟨kb, 2, none⟩ = some (.slice ba bl bk)) (by kernel_rfl) 15 rfl hS0 ?_
     intro ops hops _
     show wpAnyH Tryz.prog .any ops _ _ 15 #[false, false, false, false, false, false, false, false, false, false, false, false, false, false, false] _ w2.drew
     iterate 14
      refine Zas 15 ?_ ?_ ?_ (by rw [hops.out]; kernel_rfl) ?_ ?_ (by assumption) ?_
      rotate_left 2
      ·rw [hops.out]; simp only [getS, Nat.reduceSub, Nat.reduceAdd]; rfl
      ·intro W hW; obtain ⟨k1, k2, k3, k4, k5, k6, k7⟩ := hW; go_simp <;> with_reducible rfl
      ·exact fun _ _ _ => id
      try simp only [putS]
     refine Zak 14 (oi := ?_) ?_ (by rw [hops.out]; kernel_rfl) ?_ ?_
     rotate_left 1
     ·rw [hops.out]; simp only [getS]; rfl
     ·rw [hops.out]; kernel_rfl
     intro K hK
     go_simp
     refine (HBT.out _).mono ?_
     rintro e w5 ⟨rfl, b5⟩
     have hK5 : w5.cell? ⟨z, t0, none⟩ = some (.pointer (some ⟨kb, 0, none⟩)) /\ w5.cell? ⟨p0, 0, none⟩ = some (.int .i64 (t0 : Int)) /\ w5.cell? ⟨p0, 1, none⟩ = some (.int .i64 pc) /\ w5.cell? ⟨p0, 2, none⟩ = some (.slice pa pl pk) /\ w5.cell? ⟨kb, 0, none⟩ = some (.int .i64 bt) /\ w5.cell? ⟨kb, 1, none⟩ = some (.int .i64 bc) /\ w5.cell? ⟨kb, 2, none⟩ = some (.slice ba bl bk) := by
      refine ⟨?_, ?_, ?_, ?_, ?_, ?_, ?_⟩
      ·rw [b5.cell lz4]; exact hS0.1
      ·rw [b5.cell lp4]; exact hS0.2.1
      ·rw [b5.cell lp4]; exact hS0.2.2.1
      ·rw [b5.cell lp4]; exact hS0.2.2.2.1
      ·rw [b5.cell lb4]; exact hS0.2.2.2.2.1
      ·rw [b5.cell lb4]; exact hS0.2.2.2.2.2.1
      ·rw [b5.cell lb4]; exact hS0.2.2.2.2.2.2
     refine hK.out _ _ hK5 (fun _ => ?_)
     clear hK K
     try simp only [putS]
     refine wpAnyH_done (by rw [hops.out]; kernel_rfl) ?_ _
     clear hops ops
     refine NoPanic.normal ?_
     have hcc : bc < pc := by rw [HBC.out, HPC.out, HXB.out, HXP.out]; exact hst
     rw [decide_eq_true hcc]
     have fs5 := FS2.out.below ((bdr1 w2).trans b5)
     have HNX := hide (show GO w5 lo z L src (7 * (6 - Zb3 F) + m) from ⟨u', m, q', bp, wd, wv, F, c, hh, fs5, HGI.out.stale HSH.out HTO.out HBP.out hst, HIV.out, HBN.out, rfl⟩)
     have B5 : Below lo W w5 := ba2.trans (((bdr1 w2).trans b5).mono hlo2)
     go_wp2
     go_step3
     (try simp only [Exit.then, Exit.jump])
     refine ⟨rfl, ?_⟩
     go_wp2
     go_roundw
     case rel => exact ⟨trivial, ⟨_, HNX.out, by omega⟩, B5⟩
     case measure =>
      have h1 := ZfR HNX.out
      have h2 := HM.out
      omega
   ·go_step3
    go_wp2_with fail
    refine HPOP.out.mono ?_
    rintro e w2 ⟨u', q', rfl, hip, hsh, hb', fk⟩
    rw [Zge] at hb'
    have fs2 := HFS.out.popped fk hb' hip
    have ba2 : Below lo W w2 := hba.trans fk.below
    have hlo2 := fs2.size
    have hw0 := HFS.out.hb.hq.way 0 (by omega)
    have hp2 := (fk.typed _ _ _ _ hw0 (by decide) (fun e => by rw [e, HFS.out.hb.box] at hw0; simp at hw0)).trans hw0
    obtain ⟨pa, pl, pk, hpv⟩ := HFS.out.hb.hq.sl 0 (by omega)
    have hk2 := (fs2.way t0 kb hbp).1
    obtain ⟨ba, bk, hbv⟩ := Zac (fs2.row t0 kb hbp)
    have kz := fs2.known ht0
    rw [hbp] at kz
    unfold ptrO at kz
    rw [hpv] at hp2
    rw [hbv] at hk2
    obtain ⟨p0, hp0⟩ : ∃ p, p = q 0 := ⟨_, rfl⟩
    obtain ⟨xp, hxp⟩ : ∃ x, x = wd (q 0) := ⟨_, rfl⟩
    obtain ⟨xb, hxb⟩ : ∃ x, x = wd kb := ⟨_, rfl⟩
    have HBT := hide (fun V => Zb9 (.slice ba (wd kb).hops.length bk) (.slice pa pl pk) (wd kb) (wd (q 0)) V)
    rw [<- hxp, <- hxb] at HBT
    rw [<- hxp] at hp2
    rw [<- hxb] at hk2
    rw [<- hp0] at hp2 |-
    obtain ⟨bl, hbl⟩ : ∃ l, l = xb.hops.length := ⟨_, rfl⟩
    rw [<- hbl] at hk2 HBT
    have hwp : wayC xp (.slice pa pl pk) = #[.int .i64 (t0 : Int), .int .i64 xp.cost, .slice pa pl pk] := by unfold wayC; rw [hxp, hto]
    rw [hwp] at hp2 HBT
    unfold wayC Zbb at HBT
    unfold wayC at hk2
    obtain ⟨pc, hpc⟩ : ∃ c, c = xp.cost := ⟨_, rfl⟩
    obtain ⟨bt, hbt⟩ : ∃ c, c = xb.to := ⟨_, rfl⟩
    obtain ⟨bc, hbc⟩ : ∃ c, c = xb.cost := ⟨_, rfl⟩
    rw [<- hpc] at hp2 HBT
    rw [<- hbt, <- hbc] at hk2 HBT
    have lp2 := Zab hp2
    have lb2 := Zab hk2
    have lz2 := Zab fs2.hb.box
    have s1 := Zaa hp2 0
    have s2 := Zaa hp2 1
    have s3 := Zaa hp2 2
    have s4 := Zaa hk2 0
    have s5 := Zaa hk2 1
    have s6 := Zaa hk2 2
    simp at s1 s2 s3 s4 s5 s6
    have hti : (0 : Int) <= (t0 : Int) := by omega
    have htj : (t0 : Int) < 7 := by omega
    have FS2 := hide fs2
    have HSH := hide hsh
    have HP0 := hide hp0
    have HXP := hide hxp
    have HXB := hide hxb
    have HPC := hide hpc
    have HBC := hide hbc
    have HP2 := hide hp2
    have HTO := hide hto
    have HBP := hide hbp
    have HEN := hide hent
    clear fs2 hsh hp0 hxp hxb hpc hbt hbc hbl hp2 hk2 hw0 fk hb' hip hpv hbv hwp hto hbp hent HPOP cz
    go_wp2
    refine wp_region_noPanic ?_
    have hS0 : w2.drew.cell? ⟨z, t0, none⟩ = some (.pointer (some ⟨kb, 0, none⟩)) /\ w2.drew.cell? ⟨p0, 0, none⟩ = some (.int .i64 (t0 : Int)) /\ w2.drew.cell? ⟨p0, 1, none⟩ = some (.int .i64 pc) /\ w2.drew.cell? ⟨p0, 2, none⟩ = some (.slice pa pl pk) /\ w2.drew.cell? ⟨kb, 0, none⟩ = some (.int .i64 bt) /\ w2.drew.cell? ⟨kb, 1, none⟩ = some (.int .i64 bc) /\ w2.drew.cell? ⟨kb, 2, none⟩ = some (.slice ba bl bk) := ⟨kz, s1, s2, s3, s4, s5, s6⟩
    have lz4 : z < w2.drew.heap.size := lz2
    have lp4 : p0 < w2.drew.heap.size := lp2
    have lb4 : kb < w2.drew.heap.size := lb2
    refine Zai (S := fun W => W.cell? ⟨z, t0, none⟩ = some (.pointer (some ⟨kb, 0, none⟩)) /\ W.cell? ⟨p0, 0, none⟩ = some (.int .i64 (t0 : Int)) /\ W.cell? ⟨p0, 1, none⟩ = some (.int .i64 pc) /\ W.cell? ⟨p0, 2, none⟩ = some (.slice pa pl pk) /\ W.cell? ⟨kb, 0, none⟩ = some (.int .i64 bt) /\ W.cell? ⟨kb, 1, none⟩ = some (.int .i64 bc) /\ W.cell? ⟨kb, 2, none⟩ = some (.slice ba bl bk)) (by kernel_rfl) 15 rfl hS0 ?_
    intro ops hops _
    show wpAnyH Tryz.prog .any ops _ _ 15 #[false, false, false, false, false, false, false, false, false, false, false, false, false, false, false] _ w2.drew
    iterate 14
     refine Zas 15 ?_ ?_ ?_ (by rw [hops.out]; kernel_rfl) ?_ ?_ (by assumption) ?_
     rotate_left 2
     ·rw [hops.out]; simp only [getS, Nat.reduceSub, Nat.reduceAdd]; rfl
     ·intro W hW; obtain ⟨k1, k2, k3, k4, k5, k6, k7⟩ := hW; go_simp <;> with_reducible rfl
     ·exact fun _ _ _ => id
     try simp only [putS]
    refine Zak 14 (oi := ?_) ?_ (by rw [hops.out]; kernel_rfl) ?_ ?_
    rotate_left 1
    ·rw [hops.out]; simp only [getS]; rfl
    ·rw [hops.out]; kernel_rfl
    intro K hK
    go_simp
    refine (HBT.out _).mono ?_
    rintro e w5 ⟨rfl, b5⟩
    have hK5 : w5.cell? ⟨z, t0, none⟩ = some (.pointer (some ⟨kb, 0, none⟩)) /\ w5.cell? ⟨p0, 0, none⟩ = some (.int .i64 (t0 : Int)) /\ w5.cell? ⟨p0, 1, none⟩ = some (.int .i64 pc) /\ w5.cell? ⟨p0, 2, none⟩ = some (.slice pa pl pk) /\ w5.cell? ⟨kb, 0, none⟩ = some (.int .i64 bt) /\ w5.cell? ⟨kb, 1, none⟩ = some (.int .i64 bc) /\ w5.cell? ⟨kb, 2, none⟩ = some (.slice ba bl bk) := by
     refine ⟨?_, ?_, ?_, ?_, ?_, ?_, ?_⟩
     ·rw [b5.cell lz4]; exact hS0.1
     ·rw [b5.cell lp4]; exact hS0.2.1
     ·rw [b5.cell lp4]; exact hS0.2.2.1
     ·rw [b5.cell lp4]; exact hS0.2.2.2.1
     ·rw [b5.cell lb4]; exact hS0.2.2.2.2.1
     ·rw [b5.cell lb4]; exact hS0.2.2.2.2.2.1
     ·rw [b5.cell lb4]; exact hS0.2.2.2.2.2.2
    refine hK.out _ _ hK5 (fun _ => ?_)
    clear hK K
    try simp only [putS]
    refine wpAnyH_done (by rw [hops.out]; kernel_rfl) ?_ _
    clear hops ops
    refine NoPanic.normal ?_
    have hcc : ¬ bc < pc := by rw [HBC.out, HPC.out, HXB.out, HXP.out]; omega
    rw [decide_eq_false hcc]
    have fs5 := FS2.out.below ((bdr1 w2).trans b5)
    have B5 : Below lo W w5 := ba2.trans (((bdr1 w2).trans b5).mono hlo2)
    obtain ⟨gi5, hq0, hFt, hct, hcost, hhops, hmin⟩ := HGI.out.fresh HSH.out HFS.out.hp HTO.out HBP.out (by omega)
    have hpk : p0 = kb := by rw [HP0.out]; exact hq0
    have hbp0 : bp t0 = some p0 := by rw [hpk]; exact HBP.out
    have HGI5 := hide gi5
    have HFS5 := hide fs5
    have HFT := hide hFt
    have HCT := hide hct
    have HMIN := hide hmin
    have hcb := HBN.out t0
    have hcard : Zb3 F <= 5 := by
     have h1 := ZdU (F := F) (u := t0) ht0 hFt
     have h2 := ZhH (fun v => F v || v == t0)
     omega
    have hc5 : c t0 <= 5000 := by omega
    have HBP0 := hide hbp0
    clear gi5 fs5 hFt hct hmin hq0 hpk hbp0 hcost hhops HFS FS2 HP2 HBT hK5 hS0 kz s1 s2 s3 s4 s5 s6 HP0 HXP HXB HPC HBC HSH HTO HBP HEN hcc hst b5
    go_wp2
    go_loopw [7] (fun i wr => ∃ (t : Nat) (u : Value) (n : Nat) (q : Nat -> Nat) (bp : Nat -> Option Nat) (wd : Nat -> WayD) (wv : Nat -> Value), 1 <= t /\ t <= 7 /\ i = .int .i64 (t : Int) /\ Hid (FS wr lo z u n q bp wd wv) /\ Hid (GI (fun x => F x || x == t0) (mixC L c t0 t) (mixH L src c hh t0 t) n q bp wd) /\ Hid (bp t0 = some p0) /\ n + 1 <= m + t /\ Below lo W wr) (fun i _ => 8 - (intOf i).toNat)
    case atStart => exact ⟨1, _, m, q', bp, wd, wv, by omega, by omega, rfl, HFS5, hide (by rw [Zj4 HLL.out, Zkf HLL.out]; exact HGI5.out), HBP0, by omega, B5⟩
    case round =>
     rename World => wr
     clear HFS5 HGI5 HBP0
     obtain ⟨t, u2, n2, q2, bp2, wd2, wv2, ht1, ht7, rfl, HF2, HG2, HB2, hn2, hbr⟩ := hrel
     by_cases htl : t < 7
     ·have ht6 : (t : Int) <= 6 := by omega
      have ht : 1 <= t /\ t <= 6 := by omega
      have hw := (HF2.out.way t0 p0 HB2.out).1
      have hto2 := HF2.out.to t0 p0 HB2.out
      have hrow2 := HF2.out.row t0 p0 HB2.out
      obtain ⟨xa, xc, hxv⟩ := Zac hrow2
      have hcx : (wd2 p0).cost = c t0 := by
       have h1 := HG2.out.cc t0
       rw [Zci HB2.out, Zmt HCT.out] at h1
       exact h1
      have hhx : (wd2 p0).hops = hh t0 := by
       have h1 := HG2.out.hh t0
       rw [Zd2 HB2.out, Zjr HCT.out] at h1
       exact h1
      have hxl := HF2.out.short t0 p0 HB2.out
      obtain ⟨x, hx⟩ : ∃ x, x = wd2 p0 := ⟨_, rfl⟩
      rw [hxv, <- hx] at hw hrow2
      rw [<- hx] at hto2 hcx hhx hxl
      have hwx : wayC x (.slice xa x.hops.length xc) = #[.int .i64 (t0 : Int), .int .i64 x.cost, .slice xa x.hops.length xc] := by unfold wayC; rw [hto2]
      rw [hwx] at hw
      have e0 := Zaa hw 0
      simp at e0
      have hlr := HF2.out.size
      have lpr := Zab hw
      have HLI2 := hide (HLI.out wr hbr t0 t ht0 ht hlr)
      have hl0 := HLL.out.pos t0 t
      have hl1 := HLL.out.le t0 t
      obtain ⟨lk, hlk⟩ : ∃ l, l = L t0 t := ⟨_, rfl⟩
      rw [<- hlk] at HLI2 hl0 hl1
      have HLK := hide hlk
      have HW := hide hw
      have HROW := hide hrow2
      have HCX := hide hcx
      have HHX := hide hhx
      have HX := hide hx
      have HWX := hide hwx
      have HTO2 := hide hto2
      clear hlk hw hrow2 hcx hhx hx hwx hxv hto2
      by_cases hlz : lk = 0
      ·subst hlz
       have HG3 := hide (ZkZ (by rw [<- HLK.out]; omega) HG2.out)
       go_wp2_with fail
       refine HLI2.out.mono ?_
       rintro e w6 ⟨rfl, b6⟩
       have FS6 := hide (HF2.out.below b6)
       have B6 : Below lo W w6 := hbr.trans (b6.mono hlr)
       clear b6
       go_wp2
       go_roundw
       case rel => exact ⟨t + 1, u2, n2, q2, bp2, wd2, wv2, by omega, by omega, by go_num, FS6, HG3, HB2, by omega, B6⟩
       case measure => simp [intOf]; omega
      ·have hlp : 0 < lk := by omega
       have hlp2 : lk > 0 := hlp
       have HY := hide (Znv HIV.out HCT.out HHX.out lk (t := t))
       go_wp2_with fail
       refine HLI2.out.mono ?_
       rintro e w6 ⟨rfl, b6⟩
       have fs6 := HF2.out.below b6
       have B6 : Below lo W w6 := hbr.trans (b6.mono hlr)
       have hw6 := (b6.block _ lpr).trans HW.out
       have g0 := Zaa hw6 0
       have g1 := Zaa hw6 1
       have g2 := Zaa hw6 2
       simp at g0 g1 g2
       rw [HCX.out] at g1
       have hon := ZkO x (.slice xa x.hops.length xc) lo (t : Int) lk w6 (Zae HROW.out b6 (Nat.le_refl _)) (by omega) (by rw [HCX.out]; have := HCT.out; omega) (by rw [HCX.out]; omega)
       rw [HWX.out, HY.out, HCX.out] at hon
       have HON := hide hon
       have HFS6 := hide fs6
       clear hon fs6 b6 hw6
       go_wp2_with fail
       refine HON.out.mono ?_
       rintro e w7 ⟨v7, rfl, ho7, b7⟩
       have fs7 := HFS6.out.below b7
       have B7 : Below lo W w7 := B6.trans (b7.mono HFS6.out.size)
       have hl67 := b7.size
       have hfr : ∀ v' k' b, bp2 v' = some k' -> (wv2 k').ownBlock = some b -> v7.ownBlock ≠ some b := by
        intro v' k' b e1 e2 e3
        have h1 := ((HFS6.out.row v' k' e1).lt b e2).2
        have h2 := (ho7.lt b e3).1
        omega
       have hjl : ∀ kn, bp2 t = some kn -> ¬ c t0 + lk < (wd2 kn).cost -> (togI (wd2 kn) ⟨(t : Int), c t0 + lk, wayL src hh t0 t⟩).hops.length <= 6 /\ (togI (wd2 kn) ⟨(t : Int), c t0 + lk, wayL src hh t0 t⟩).cost = (wd2 kn).cost /\ (togI (wd2 kn) ⟨(t : Int), c t0 + lk, wayL src hh t0 t⟩).to = (wd2 kn).to := by
        intro kn e1 e2
        rw [HLK.out] at e2 |-
        obtain ⟨j1, _, j3, j4⟩ := ZlZ HIV.out (by rw [<- HLK.out]; exact hlp) ht HG2.out e1 e2
        exact ⟨by rw [j1]; exact Zmz HIV.out HLL.out HCT.out, j3, j4⟩
       have HFO := hide (Zic w7 lo z u2 n2 q2 bp2 wd2 wv2 t ⟨(t : Int), c t0 + lk, wayL src hh t0 t⟩ v7 fs7 (by omega) ht rfl (Zag ho7 HFS6.out.size) (ZnT HIV.out ht) hfr hjl)
       obtain ⟨na, nc, hv7⟩ := Zac ho7
       have hkq : ∀ i, i < n2 -> q2 i ≠ w7.heap.size := fun i hi e => by have := Zab (fs7.hb.hq.way i hi); omega
       have hkb : ∀ v, bp2 v ≠ some w7.heap.size := fun v e => by have := Zab (fs7.way v _ e).1; omega
       have hp7 : p0 ≠ w7.heap.size := fun e => hkb t0 (by rw [HB2.out, e])
       have HKQ := hide hkq
       have HKB := hide hkb
       rw [hv7]
       rw [hv7] at HFO
       clear fs7 hfr hjl ho7 b7 hkq hkb hv7
       go_wp2_with fail
       refine HFO.out.mono ?_
       rintro e w8 ⟨rfl, b8, hcs⟩
       have B8 : Below lo W w8 := B7.trans b8
       rcases hcs with ⟨hcase, u3, q3, fs8, hsh8⟩ | ⟨kn, vy, e1, e2, fs8⟩
       ·have HG8 := hide (ZkB HIV.out HFT.out HCT.out (by rw [<- HLK.out]; exact hlp) ht HG2.out (by rw [<- HLK.out]; exact hcase) HKQ.out HKB.out hsh8)
        rw [<- HLK.out] at HG8
        have HFS8 := hide fs8
        have HB8 := hide (show upd bp2 t (some w7.heap.size) t0 = some p0 by
         rw [Zao]
         ·exact HB2.out
         ·intro e
          subst e
          have hcc := HCT.out
          have hx1 := HG2.out.cc t0
          rw [Zdh] at hx1
          rcases hcase with e3 | ⟨kn, e3, e4⟩
          ·rw [HB2.out] at e3; cases e3
          ·rw [Zci e3] at hx1
           have e5 : c t0 + lk < (wd2 kn).cost := e4
           omega)
        clear fs8 hsh8 hcase
        go_wp2
        go_roundw
        case rel => exact ⟨t + 1, u3, n2 + 1, q3, _, _, _, by omega, by omega, by go_num, HFS8, HG8, HB8, by omega, B8⟩
        case measure => simp [intOf]; omega
       ·have HG8 := hide (ZkK HIV.out (by rw [<- HLK.out]; exact hlp) ht HG2.out e1 (by rw [<- HLK.out]; exact e2))
        rw [<- HLK.out] at HG8
        have HFS8 := hide fs8
        clear fs8 e1 e2
        go_wp2
        go_roundw
        case rel => exact ⟨t + 1, u2, n2, q2, bp2, _, _, by omega, by omega, by go_num, HFS8, HG8, HB2, by omega, B8⟩
        case measure => simp [intOf]; omega
     ·have ht6 : ¬ (t : Int) <= 6 := by omega
      have htt : t = 7 := by omega
      subst htt
      have hg9 := HG2.out
      rw [ZjZ HLL.out, ZjO HLL.out] at hg9
      have iv9 := HIV.out.step HLL.out HFT.out HCT.out HMIN.out (fun v => Zei HIV.out HLL.out HCT.out v)
      have hcard9 : Zb3 (fun v => F v || v == t0) = Zb3 F + 1 := ZdU ht0 HFT.out
      have HNX := hide (show GO wr lo z L src (7 * (6 - Zb3 (fun v => F v || v == t0)) + n2) from ⟨u2, n2, q2, bp2, wd2, wv2, _, _, _, HF2.out, hg9, iv9, fun v => by
       rw [hcard9]
       have h1 := Zfx (L := L) (u := t0) (v := v) HBN.out HLL.out.le
       omega, rfl⟩)
      rw [hcard9] at HNX
      clear hg9 iv9 hcard9
      go_wp2
      go_step3
      rw [Exit.noGoto_normal]
      go_wp2
      go_roundw
      case rel => exact ⟨trivial, ⟨_, HNX.out, by omega⟩, hbr⟩
      case measure =>
       have h1 := ZfR HNX.out
       have h2 := HM.out
       omega
def Zcb (bp : Nat -> Option Nat) (wd : Nat -> WayD) (wv : Nat -> Value) : Nat -> List WP
 | 0 => []
 | t + 1 => Zcb bp wd wv t ++ (match bp t with
  | some k => [(wd k, wv k)]
  | none => [])
theorem Zdc {bp : Nat -> Option Nat} {wd : Nat -> WayD} {wv : Nat -> Value} {t k : Nat} (h : bp t = some k) : Zcb bp wd wv (t + 1) = Zcb bp wd wv t ++ [(wd k, wv k)] := by
 show Zcb bp wd wv t ++ (match bp t with
  | some k => [(wd k, wv k)]
  | none => []) = _
 rw [h]
theorem ZcC {bp : Nat -> Option Nat} {wd : Nat -> WayD} {wv : Nat -> Value} {t : Nat} (h : bp t = none) : Zcb bp wd wv (t + 1) = Zcb bp wd wv t := by
 show Zcb bp wd wv t ++ (match bp t with
  | some k => [(wd k, wv k)]
  | none => []) = _
 rw [h]
 simp
theorem Ze0 {bp : Nat -> Option Nat} {wd : Nat -> WayD} {wv : Nat -> Value} {p : WP} : ∀ {t : Nat}, p ∈ Zcb bp wd wv t -> ∃ v k, v < t /\ bp v = some k /\ p = (wd k, wv k)
 | 0, h => by cases h
 | t + 1, h => by
  cases e : bp t with
  | none =>
   rw [ZcC e] at h
   obtain ⟨v, k, h1, h2⟩ := Ze0 h
   exact ⟨v, k, by omega, h2⟩
  | some k =>
   rw [Zdc e] at h
   rcases List.mem_append.1 h with h1 | h1
   ·obtain ⟨v, k, h1, h2⟩ := Ze0 h1
    exact ⟨v, k, by omega, h2⟩
   ·exact ⟨t, k, by omega, e, by simpa using h1⟩
theorem ZiT (bp : Nat -> Option Nat) (wd : Nat -> WayD) (wv : Nat -> Value) : ∀ t, (Zcb bp wd wv t).length <= t
 | 0 => by simp [Zcb]
 | t + 1 => by
  have := ZiT bp wd wv t
  cases e : bp t with
  | none => rw [ZcC e]; omega
  | some k => rw [Zdc e]; simp; omega
theorem Zew {bp : Nat -> Option Nat} {wd : Nat -> WayD} {wv : Nat -> Value} (h : ∀ v v' k k', v ≠ v' -> bp v = some k -> bp v' = some k' -> ∀ b, (wv k).ownBlock = some b -> (wv k').ownBlock ≠ some b) : ∀ t, (Zcb bp wd wv t).Pairwise Zcu
 | 0 => by simp [Zcb]
 | t + 1 => by
  cases e : bp t with
  | none => rw [ZcC e]; exact Zew h t
  | some k =>
   rw [Zdc e, List.pairwise_append]
   refine ⟨Zew h t, by simp, fun p hp q hq => ?_⟩
   obtain ⟨v, k', hv, e2, rfl⟩ := Ze0 hp
   have : q = (wd k, wv k) := by simpa using hq
   subst this
   intro b hb
   exact h v t k' k (by omega) e2 e b hb
theorem Zg5 {bp : Nat -> Option Nat} {wd : Nat -> WayD} {wv : Nat -> Value} {c : Nat -> Int} {h : Nat -> List Int} (h0 : bp 0 = none) (hc : ∀ v, cOf bp wd v = c v) (hh : ∀ v, hOf bp wd v = h v) (hto : ∀ v k, bp v = some k -> (wd k).to = (v : Int)) (hnn : ∀ v k, bp v = some k -> 0 <= (wd k).cost) : ∀ t, Zah (Zcb bp wd wv (t + 1)) = ZcK c h t
 | 0 => by rw [ZcC h0]; rfl
 | t + 1 => by
  have ih := Zg5 h0 hc hh hto hnn t (wv := wv)
  have e1 := hc (t + 1)
  have e2 := hh (t + 1)
  unfold ZcK
  cases e : bp (t + 1) with
  | none =>
   rw [ZfJ e] at e1
   rw [ZcC e, ih, if_neg (by omega), List.append_nil]
  | some k =>
   rw [Zci e] at e1
   rw [Zd2 e] at e2
   have h1 := hnn (t + 1) k e
   have h2 := hto (t + 1) k e
   rw [Zdc e, if_pos (by omega), <- ih, <- e1, <- e2, <- h2]
   simp [Zah]
theorem Znp (f : Nat -> Value) (W : World) {t : Nat} (ht : t <= 6) : (Instr.index 116 (.agg #[f 0, f 1, f 2, f 3, f 4, f 5, f 6]) (.int .i64 (t : Int))).run Tryz.prog W = .ok (f t) W := by
 have h : t = 0 \/ t = 1 \/ t = 2 \/ t = 3 \/ t = 4 \/ t = 5 \/ t = 6 := by omega
 rcases h with rfl | rfl | rfl | rfl | rfl | rfl | rfl <;> rfl
theorem Znr (W : World) (lo z : Nat) (u : Value) (n : Nat) (q : Nat -> Nat) (bp : Nat -> Option Nat) (wd : Nat -> WayD) (wv : Nat -> Value) (s : FS W lo z u n q bp wd wv) :
  Calls Tryz.prog 74 #[.pointer (some ⟨z, 0, none⟩)] W fun e W' => ∃ x, e = .returned x /\ WaysOwn W' lo W'.heap.size x (Zcb bp wd wv 7) /\ Below lo W W' := by
 have hlo := s.size
 have lz := Zab s.hb.box
 have B0 : Below W.heap.size W (W.alloc (.cells #[] 46)) := (Below.refl _ _).alloc (Nat.le_refl _) _
 have O0 : (W.alloc (.cells #[] 46)).ownsRow W.heap.size 46 3 (.slice (some ⟨W.heap.size, 0, none⟩) 0 0) 0 (flat encW []) := World.ownsRow_lit W #[] 0 (Nat.le_refl _) (by unfold maxLen; omega) (by simp)
 obtain ⟨W0, hW0⟩ : ∃ V, V = W.alloc (.cells #[] 46) := ⟨_, rfl⟩
 rw [<- hW0] at B0 O0
 have bx := s.hb.box
 unfold finC at bx
 have d0 := Zaa bx 0
 have d1 := Zaa bx 1
 have d2 := Zaa bx 2
 have d3 := Zaa bx 3
 have d4 := Zaa bx 4
 have d5 := Zaa bx 5
 have d6 := Zaa bx 6
 simp at d0 d1 d2 d3 d4 d5 d6
 have FIN := hide (fun (W' : World) (x : Value) (hb : Below W.heap.size W W') (ho : W'.ownsRow W.heap.size 46 3 x (Zcb bp wd wv 7).length (flat encW (Zcb bp wd wv 7))) => show WaysOwn W' lo W'.heap.size x (Zcb bp wd wv 7) from
  {row := Zag ho hlo
   top := fun k hk => (ho.lt k hk).2
   nears := fun p hp => by
    obtain ⟨v, k, _, e, rfl⟩ := Ze0 hp
    have hr := Zae (s.row v k e) hb (Nat.le_refl _)
    exact ⟨hr, fun b hb => (hr.lt b hb).2⟩
   apart := Zew s.apart 7 })
 have HWY := hide (fun v k (e : bp v = some k) => (s.way v k e).1)
 have HSL := hide (fun v k (e : bp v = some k) => Zac (s.row v k e))
 obtain ⟨f, hf⟩ : ∃ f : Nat -> Value, f = fun t => ptrO (bp t) := ⟨_, rfl⟩
 have HF := hide hf
 rw [show ptrO (bp 0) = f 0 by rw [hf]] at d0
 rw [show ptrO (bp 1) = f 1 by rw [hf]] at d1
 rw [show ptrO (bp 2) = f 2 by rw [hf]] at d2
 rw [show ptrO (bp 3) = f 3 by rw [hf]] at d3
 rw [show ptrO (bp 4) = f 4 by rw [hf]] at d4
 rw [show ptrO (bp 5) = f 5 by rw [hf]] at d5
 rw [show ptrO (bp 6) = f 6 by rw [hf]] at d6
 have HO0 := hide O0
 clear hf s bx O0
 go_enter Tryz.func74, Tryz.ntmps74
 go_wp2
 rw [<- hW0]
 clear hW0 d0 d1 d2 d3 d4 d5 d6
 go_loopw [11, 3] (fun i o wr => ∃ (t : Nat) (x : Value), t <= 7 /\ i = .int .i64 (t : Int) /\ o = x /\ wr.ownsRow W.heap.size 46 3 x (Zcb bp wd wv t).length (flat encW (Zcb bp wd wv t)) /\ Below W.heap.size W wr) (fun i _ _ => 8 - (intOf i).toNat)
 case atStart => exact ⟨0, _, by omega, rfl, rfl, HO0.out, B0⟩
 case round =>
  obtain ⟨t, x, ht, rfl, rfl, hown, hb⟩ := hrel
  clear HO0 B0
  obtain ⟨xa, xc, rfl⟩ := Zac hown
  have hsz := hb.size
  have OW := hide hown
  have hcl := ZiT bp wd wv t
  clear hown
  by_cases htl : t < 7
  ·have ht6 : (t : Int) < 7 := by omega
   have hix := fun V => Znp f V (t := t) (by omega)
   cases e : bp t with
   | none =>
    have hft : f t = .pointer none := by rw [HF.out]; show ptrO (bp t) = _; rw [e]; rfl
    rw [hft] at hix
    have HOW := hide (show wr.ownsRow W.heap.size 46 3 (.slice xa (Zcb bp wd wv t).length xc) (Zcb bp wd wv (t + 1)).length (flat encW (Zcb bp wd wv (t + 1))) by rw [ZcC e]; exact OW.out)
    clear e hft
    go_wp2
    go_roundw
    case rel => exact ⟨t + 1, _, by omega, by go_num, rfl, HOW.out, hb⟩
    case measure => simp [intOf]; omega
   | some k =>
    have hft : f t = .pointer (some ⟨k, 0, none⟩) := by rw [HF.out]; show ptrO (bp t) = _; rw [e]; rfl
    rw [hft] at hix
    obtain ⟨ya, yc, hyv⟩ := HSL.out t k e
    have hw := HWY.out t k e
    rw [hyv] at hw
    obtain ⟨y, hy⟩ : ∃ y, y = wd k := ⟨_, rfl⟩
    rw [<- hy] at hw hyv
    have lk := Zab hw
    have hw2 := (hb.block _ lk).trans hw
    have s0 := Zaa hw2 0
    have s1 := Zaa hw2 1
    have s2 := Zaa hw2 2
    simp [wayC] at s0 s1 s2
    have HSP := hide (Zdc e (wd := wd) (wv := wv))
    rw [hyv, <- hy] at HSP
    obtain ⟨C, hC⟩ : ∃ C, C = Zcb bp wd wv t := ⟨_, rfl⟩
    rw [<- hC] at OW HSP hcl |-
    clear e hft hw hw2 hy hyv hC
    go_wp2_with (first
     | (at_builtin; refine ZaJ Za9 (by omega) (by omega) _ rfl _ _ 39 rfl W.heap.size 46 Tryz.underlying39 (.agg (wayC Zbc (.slice none 0 0))) rfl Tryz.infoWay _ C (y, .slice ya y.hops.length yc) (Zc1 _ _ _ _) rfl (OW.out.alloc _) ⟨wr.heap.size, 0, none⟩ 1 rfl (Zan (cs := encW (y, .slice ya y.hops.length yc))) (by omega) (by simp; omega) ?_))
    intro v' w4 hown' hgrow
    have B4 : Below W.heap.size W w4 := (hb.alloc hsz _).grown hgrow (by simp; omega) (fun j hj => (OW.out.lt j hj).1)
    have O4 := hide (show w4.ownsRow W.heap.size 46 3 v' (Zcb bp wd wv (t + 1)).length (flat encW (Zcb bp wd wv (t + 1))) by rw [HSP.out]; simpa using hown')
    obtain ⟨va, vc, rfl⟩ := Zac hown'
    clear hown' hgrow
    go_wp2
    go_roundw
    case rel => exact ⟨t + 1, _, by omega, by go_num, rfl, O4.out, B4⟩
    case measure => simp [intOf]; omega
  ·have ht6 : ¬ (t : Int) < 7 := by omega
   have htt : t = 7 := by omega
   subst htt
   have HE := hide (FIN.out wr _ hb OW.out)
   have HBB := hide (hb.mono hlo)
   obtain ⟨C, hC⟩ : ∃ C, C = Zcb bp wd wv 7 := ⟨_, rfl⟩
   rw [<- hC] at HE |-
   have HCC := hide hC
   clear hC OW FIN
   go_wp2
   go_ret
   exact ⟨_, rfl, by rw [<- HCC.out]; exact HE.out, HBB.out⟩
theorem Zn8 (q : Nat -> Nat) (wd : Nat -> WayD) : GI (fun _ => false) (fun _ => -1) (fun _ => []) 0 q (fun _ => none) wd :=
 ⟨fun _ => rfl, fun _ => rfl, fun _ _ e => (by cases e), fun i hi => (by omega), fun _ _ e => (by cases e), fun i j hi => (by omega), fun _ _ e => (by cases e)⟩
theorem fs_new (W : World) (wd : Nat -> WayD) (wv : Nat -> Value) (q : Nat -> Nat) : FS (W.alloc (.cells #[.pointer none, .pointer none, .pointer none, .pointer none, .pointer none, .pointer none, .pointer none, .slice none 0 0] 120)) W.heap.size W.heap.size (.slice none 0 0) 0 q (fun _ => none) wd wv where
 lz := Nat.le_refl _
 hb := ⟨heap_alloc_new W _, rfl, World.ownsRow_nil _ _ _ _, fun i hi => by omega, fun i hi => by omega⟩
 hp := fun i _ hi => by omega
 way := fun _ _ e => by cases e
 row := fun _ _ e => by cases e
 short := fun _ _ e => by cases e
 apart := fun _ _ _ _ _ e => by cases e
 to := fun _ _ e => by cases e
 b0 := rfl
theorem Zgf (v : Value) (ps : List RP) (hi : Nat) (area src : Int) (w : World) (hv : RecsIn w hi v ps) (hhi : hi <= w.heap.size) (hn : tot ps <= 1048576) :
  Calls Tryz.prog 34 #[v, .int .i64 area, .int .i64 src] w fun e w' => ∃ u qs, e = .returned u /\ Zbs (fsts ps) area src (Zah qs) /\ WaysOwn w' w.heap.size w'.heap.size u qs /\ Below w.heap.size w w' := by
 obtain ⟨a1, c1, rfl⟩ := Zac hv.row
 have HS := hide (Zh4 (.slice a1 ps.length c1) ps w hn (ZbB.more hv.at hhi))
 have HP := hide (fun W (hb : Below w.heap.size w W) => Zg6 (.slice a1 ps.length c1) ps hi area src W (hv.below hb hhi) (Nat.le_trans hhi hb.size) hn)
 have HV := hide hv
 clear hv
 obtain ⟨SB, hSB⟩ : ∃ b, b = ZaE (fsts ps) := ⟨_, rfl⟩
 obtain ⟨IB, hIB⟩ : ∃ b, b = inB src 1 6 := ⟨_, rfl⟩
 rw [<- hSB] at HS
 have HSB := hide hSB
 have HIB := hide hIB
 clear hSB hIB
 have EMP := hide (fun (e : (ZaE (fsts ps) && inB src 1 6 && ZhT (fsts ps) area src) = false) => show Zbs (fsts ps) area src (Zah []) by unfold Zbs; rw [e]; rfl)
 have LIT := hide (fun W (hb : Below w.heap.size w W) => ZeP W w.heap.size hb.size)
 go_enter Tryz.func34, Tryz.ntmps34
 go_wp2_with fail
 refine HS.out.mono ?_
 rintro e w1 ⟨rfl, b1⟩
 cases SB
 ·have HE := hide (EMP.out (by rw [<- HSB.out]; rfl))
  have HL := hide (LIT.out w1 b1)
  have HB := hide (b1.alloc b1.size (.cells #[] 46))
  go_wp2
  go_ret
  exact ⟨_, [], rfl, HE.out, HL.out, HB.out⟩
 ·go_wp2_with fail
  refine (Zb5 _ _ _ _).mono ?_
  rintro e w2 ⟨rfl, rfl⟩
  rw [<- HIB.out]
  cases IB
  ·have HE := hide (EMP.out (by rw [<- HSB.out, <- HIB.out]; rfl))
   have HL := hide (LIT.out w1 b1)
   have HB := hide (b1.alloc b1.size (.cells #[] 46))
   go_wp2
   go_ret
   exact ⟨_, [], rfl, HE.out, HL.out, HB.out⟩
  ·have hpl := HP.out w1 b1
   have hnb := Zk4 HSB.out.symm area src
   cases hR : plN (fsts ps) area src with
   | none =>
    rw [hR] at hpl hnb
    unfold plV2 at hpl
    have HPL := hide hpl
    have HE := hide (EMP.out (by rw [hnb, <- HSB.out, <- HIB.out]; rfl))
    clear hpl hnb hR
    go_wp2_with fail
    refine HPL.out.mono ?_
    rintro e w2 ⟨rfl, b2⟩
    have B2 : Below w.heap.size w w2 := b1.trans (b2.mono b1.size)
    have HL := hide (LIT.out w2 B2)
    have HB := hide (B2.alloc B2.size (.cells #[] 46))
    clear b2
    go_wp2
    go_ret
    exact ⟨_, [], rfl, HE.out, HL.out, HB.out⟩
   | some k0 =>
    rw [hR] at hpl hnb
    unfold plV2 at hpl
    have HPL := hide hpl
    obtain ⟨s, rfl⟩ : ∃ s : Nat, src = (s : Int) := ⟨src.toNat, by have := ZdI.1 HIB.out.symm; omega⟩
    have hs6 := ZdI.1 HIB.out.symm
    have hs : 1 <= s /\ s <= 6 := by omega
    have FIN := hide (fun c h (hf : Fix (ZeE (fsts ps) area) s c h) => show Zbs (fsts ps) area (s : Int) (ZcK c h 6) by
     unfold Zbs
     rw [hnb, <- HSB.out, <- HIB.out]
     exact ⟨c, h, by simpa using hf, rfl⟩)
    have HLK := hide (Zeo (area := area) HSB.out.symm)
    have HLN := hide (fun (a b : Nat) (ha : 1 <= a /\ a <= 6) (hb : 1 <= b /\ b <= 6) => Ziu HSB.out.symm area ha hb)
    clear hpl hnb hR EMP LIT HP
    go_wp2_with fail
    refine HPL.out.mono ?_
    rintro e w2 ⟨rfl, b2⟩
    have B2 : Below w.heap.size w w2 := b1.trans (b2.mono b1.size)
    have B3 : Below w2.heap.size w2 (w2.alloc (.cells #[.pointer none, .pointer none, .pointer none, .pointer none, .pointer none, .pointer none, .pointer none, .slice none 0 0] 120)) := (Below.refl _ _).alloc (Nat.le_refl _) _
    have fs := fs_new w2 (fun _ => Zbc) (fun _ => .slice none 0 0) (fun _ => 0)
    obtain ⟨w3, hw3⟩ : ∃ W, W = w2.alloc (.cells #[.pointer none, .pointer none, .pointer none, .pointer none, .pointer none, .pointer none, .pointer none, .slice none 0 0] 120) := ⟨_, rfl⟩
    rw [<- hw3] at B3 fs
    obtain ⟨lo, hlo⟩ : ∃ l, l = w2.heap.size := ⟨_, rfl⟩
    have HFO := hide (Zic w3 w2.heap.size w2.heap.size (.slice none 0 0) 0 (fun _ => 0) (fun _ => none) (fun _ => Zbc) (fun _ => .slice none 0 0) s ⟨(s : Int), 0, []⟩ (.slice none 0 0) fs (by omega) hs rfl (World.ownsRow_nil _ _ _ _) (by simp) (fun _ _ _ e => by cases e) (fun _ e => by cases e))
    unfold wayC at HFO
    have HHI : hi <= w2.heap.size := by have := B2.size; omega
    have hwlo : w.heap.size <= w2.heap.size := B2.size
    have HV3 := hide (HV.out.below (B2.trans (B3.mono hwlo)) hhi)
    clear fs b2 HPL HV
    go_wp2_with fail
    rw [<- hw3]
    clear hw3
    refine HFO.out.mono ?_
    rintro e w4 ⟨rfl, b4, hcs⟩
    have HGO : Hid (∃ m, GO w4 w2.heap.size w2.heap.size (ZeE (fsts ps) area) s m /\ m <= 43) := by
     rcases hcs with ⟨hcase, u3, q3, fs4, hsh⟩ | ⟨kn, vy, e1, _⟩
     ·refine ⟨7 * (6 - Zb3 (fun _ => false)) + 1, ⟨u3, 1, q3, _, _, _, (fun _ => false), (fun v => if v = s then 0 else -1), (fun _ => []), fs4, ?_, Inv.init hs, fun v => ?_, rfl⟩, by rw [Zgk]; omega⟩
      ·have g := (Zn8 (fun _ => 0) (fun _ => Zbc)).push (t := s) (k := w3.heap.size) (x := ⟨(s : Int), 0, []⟩) rfl rfl (.inl (by omega)) (fun i hi => by omega) (fun v e => by cases e) hsh (by show (0 : Int) <= 0; omega)
       have ec : upd (fun _ => (-1 : Int)) s 0 = fun v => if v = s then 0 else -1 := by funext v; rfl
       have eh : upd (fun _ => ([] : List Int)) s [] = fun _ => [] := by funext v; unfold upd; split <;> rfl
       rw [<- ec, <- eh]
       exact g
      ·rw [Zgk]
       show (if v = s then (0 : Int) else -1) <= _
       split <;> omega
     ·cases e1
    have HGN := hide (ZmM w4 w2.heap.size w2.heap.size (.slice a1 ps.length c1) ps hi area (ZeE (fsts ps) area) s (HV3.out.below b4 HHI) HHI hn HLK.out HLN.out HGO.out)
    have B4 : Below w.heap.size w w4 := (B2.trans (B3.mono hwlo)).trans (b4.mono hwlo)
    clear hcs b4 HGO HFO
    go_wp2_with fail
    refine HGN.out.mono ?_
    rintro e w5 ⟨rfl, hge, b5⟩
    obtain ⟨u5, q5, bp5, wd5, wv5, c5, h5, fs5, cc5, hh5, nn5, fx5⟩ := hge
    have B5 : Below w.heap.size w w5 := B4.trans (b5.mono hwlo)
    have HWA := hide (Znr w5 w2.heap.size w2.heap.size u5 0 q5 bp5 wd5 wv5 fs5)
    have HIS := hide (show Zbs (fsts ps) area (s : Int) (Zah (Zcb bp5 wd5 wv5 7)) by
     rw [Zg5 fs5.b0 cc5 hh5 fs5.to nn5 6]
     exact FIN.out c5 h5 fx5)
    clear fs5 cc5 hh5 nn5 fx5 b5 HGN
    go_wp2_with fail
    refine HWA.out.mono ?_
    rintro e w6 ⟨x, rfl, ow6, b6⟩
    obtain ⟨xa, xc, rfl⟩ := Zac ow6.row
    have B6 := hide (B5.trans (b6.mono hwlo))
    have O6 := hide (ow6.wide hwlo (Nat.le_refl _))
    clear ow6 b6 HWA
    go_wp2
    go_ret
    first
     | exact ⟨_, _, rfl, HIS.out, O6.out, B6.out⟩
     | exact ⟨_, rfl, _, HIS.out, O6.out, B6.out⟩
end Go.Proofs.YtakiifededfjlaaGreat
