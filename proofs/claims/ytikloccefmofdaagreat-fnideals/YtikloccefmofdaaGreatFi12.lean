/-
  Parts.
-/
import Derived.Test.YtikloccefmofdaaGreatFi10
import Derived.Test.YtikloccefmofdaaGreatFi9
import Derived.Test.YtikloccefmofdaaGreatFi8
namespace Go.Proofs.YtikloccefmofdaaGreat
open Go.RowKit
set_option linter.unusedSimpArgs false
set_option linter.unusedVariables false
set_option maxRecDepth 100000
set_option maxHeartbeats 8000000
variable {C:Array Value}{xs:List RecD}{lo n z:Nat}{q:Nat->Nat}{wv:Nat->Value}{wd:Nat->WayD}{r:RecD}{u:Value}{W W':World}
theorem ZcJ {P:Program}{fn:Func}{p u:Tmp}{ty:TypeId}(h:fn.results=#[.cell p ty,.tmp u])(tmps:Array Value)(w:World)(g:Nat)(t:TypeId)(cs:Array Value)(fr:Nat × Nat)(d:TypeDesc)
  (hp:tmps.getD p undef=.pointer (some ⟨g,0,none⟩)) (hg:w.heap[g]? = some (.cells cs t fr))
  (hu:P.underlying ty=some d) (hd:(match d with | .struct _ | .array _ _=>true | _=>false)=true) (hi:(P.info? ty).map (·.size)=some cs.size):
  (results fn tmps).run P w=.ok (.tuple #[.agg cs,tmps.getD u undef]) w:=by
 have hp':tmps[p]?.getD undef=.pointer (some ⟨g,0,none⟩):=by simpa using hp
 rw [results_cell_tmp h];simp [hp',asAddr,run_loadVar_row w g t ty cs fr d hg hu hd hi]
def ZeZ (xs:List RecD)(r:RecD):RecD:=if atZ xs r<0 then Za9 else xs.getD (atZ xs r).toNat Za9
def ZdY (xs:List RecD)(r:RecD):Bool := !decide (atZ xs r<0)
theorem Zfv (h:atZ xs r = -1):ZeZ xs r=Za9/\ZdY xs r=false:=by unfold ZeZ ZdY;rw [h];exact⟨rfl,rfl⟩
theorem Zi2 {y:RecD}{k:Nat}(h:atZ xs r=(k:Int))(hy:xs[k]? = some y):ZeZ xs r=y/\ZdY xs r=true:=by
 unfold ZeZ ZdY;rw [h,if_neg (by omega)];exact⟨by simp [hy],by simp⟩
theorem Zh4 {ps:List RP}{k:Nat}{y:RecD}(h:(fsts ps)[k]? = some y):∃ p,ps[k]? = some p/\p.1=y:=by
 simp [fsts] at h;obtain⟨v,hv⟩:=h;exact⟨(y,v),hv,rfl⟩
def togD (x y:WayD):WayD:=if Zbr x y then x else if Zbr y x then y else ⟨x.to,x.cost,addL x.hops y.hops⟩
theorem ZlY (a b:List Int):(addL a b).length<=6:=ZiD a b 6
theorem ZpI {x y:WayD}(hx:x.hops.length<=n)(hy:y.hops.length<=n)(h6:6<=n):(togD x y).hops.length<=n:=by
 unfold togD
 split
 ·exact hx
 ·split
  ·exact hy
  ·exact YAK (ZlY _ _) h6
theorem cellW3 {g b j:Nat}{x0 x1 x2:Value}(h:b≠g):(((W.setCell ⟨g,0,none⟩ x0).setCell ⟨g,1,none⟩ x1).setCell ⟨g,2,none⟩ x2).cell? ⟨b,j,none⟩=W.cell? ⟨b,j,none⟩:=by
 refine World.cell?_of_block ?_;show (((W.setCell ⟨g,0,none⟩ x0).setCell ⟨g,1,none⟩ x1).setCell ⟨g,2,none⟩ x2).heap[b]? = W.heap[b]?;rw [YAO _ ⟨g,2,none⟩ b _ h,YAO _ ⟨g,1,none⟩ b _ h,YAO _ ⟨g,0,none⟩ b _ h]
theorem ZmJ (x y:WayD)(u1 u2:Value)(b1 b2:Nat)(w:World)(h1:w.ownsRow b1 3 1 u1 x.hops.length (flat intE x.hops))(h2:w.ownsRow b2 3 1 u2 y.hops.length (flat intE y.hops))(hx:x.hops.length<=1048576)(hy:y.hops.length<=1048576):
  Calls Tryz.prog 120 #[.agg (wayC x u1),.agg (wayC y u2)] w fun e w'=>∃ v',e=.returned (.agg (wayC (togD x y) v'))/\w'.ownsRow w.heap.size 3 1 v' (togD x y).hops.length (flat intE (togD x y).hops)/\Below w.heap.size w w':=by
 obtain⟨a1,c1,rfl⟩:=Zac h1;obtain⟨a2,c2,rfl⟩:=Zac h2;have HC1:=hide (fun W (hb:Below w.heap.size w W)=>Zg4 x (.slice a1 x.hops.length c1) b1 W (Zad h1 hb (YA _)) hx);have HC2:=hide (fun W (hb:Below w.heap.size w W)=>Zg4 y (.slice a2 y.hops.length c2) b2 W (Zad h2 hb (YA _)) hy);have HB1:=hide (fun W=>Zhx (.slice a1 x.hops.length c1) (.slice a2 y.hops.length c2) x y W);have HB2:=hide (fun W=>Zhx (.slice a2 y.hops.length c2) (.slice a1 x.hops.length c1) y x W);have HAD:=hide (fun W (hb:Below w.heap.size w W)=>ZdV (.slice a1 x.hops.length c1) (.slice a2 y.hops.length c2) x.hops y.hops W hx hy ((Zav.later (Zam h1) hb (YA _)).more hb.size) ((Zav.later (Zam h2) hb (YA _)).more hb.size));obtain⟨P,hP⟩:∃ P,P=Zbr x y:=⟨_,rfl⟩;obtain⟨Q,hQ⟩:∃ Q,Q=Zbr y x:=⟨_,rfl⟩;obtain⟨D,hD⟩:∃ D,D=togD x y:=⟨_,rfl⟩;rw [<-hP] at HB1;rw [<-hQ] at HB2;rw [<-hD];have HD:=hide hD;unfold togD at HD;rw [<-hP, <-hQ] at HD;have BW:=ZeU (w:=w) (.cells #[.int .i64 x.to,.int .i64 x.cost,.slice a1 x.hops.length c1] 108) (.cells #[.int .i64 y.to,.int .i64 y.cost,.slice a2 y.hops.length c2] 108) (.cells #[.int .i64 0,.int .i64 0,.slice none 0 0] 108);have q0:=Zos w (.cells #[.int .i64 x.to,.int .i64 x.cost,.slice a1 x.hops.length c1] 108) (.cells #[.int .i64 y.to,.int .i64 y.cost,.slice a2 y.hops.length c2] 108) (.cells #[.int .i64 0,.int .i64 0,.slice none 0 0] 108);have q1:=Zot w (.cells #[.int .i64 x.to,.int .i64 x.cost,.slice a1 x.hops.length c1] 108) (.cells #[.int .i64 y.to,.int .i64 y.cost,.slice a2 y.hops.length c2] 108) (.cells #[.int .i64 0,.int .i64 0,.slice none 0 0] 108);have q2:=Zou w (.cells #[.int .i64 x.to,.int .i64 x.cost,.slice a1 x.hops.length c1] 108) (.cells #[.int .i64 y.to,.int .i64 y.cost,.slice a2 y.hops.length c2] 108) (.cells #[.int .i64 0,.int .i64 0,.slice none 0 0] 108);obtain⟨w0,hw0⟩:∃ W,W=((w.alloc (.cells #[.int .i64 x.to,.int .i64 x.cost,.slice a1 x.hops.length c1] 108)).alloc (.cells #[.int .i64 y.to,.int .i64 y.cost,.slice a2 y.hops.length c2] 108)).alloc (.cells #[.int .i64 0,.int .i64 0,.slice none 0 0] 108):=⟨_,rfl⟩;rw [<-hw0] at BW q0 q1 q2;clear h1 h2 hP hQ hD;unfold wayC at *;have fin:∀ (X:WayD) (na:Option Addr) (nc lo:Nat) (W:World),W.heap[w.heap.size+1+1]? = some (.cells #[.int .i64 0,.int .i64 0,.slice none 0 0] 108)->W.ownsRow lo 3 1 (.slice na X.hops.length nc) X.hops.length (flat intE X.hops)->w.heap.size+1+1<lo->Below w.heap.size w W->(Za8 W (w.heap.size+1+1) X (.slice na X.hops.length nc)).heap[w.heap.size+1+1]? = some (.cells (wayC X (.slice na X.hops.length nc)) 108)/\(Za8 W (w.heap.size+1+1) X (.slice na X.hops.length nc)).ownsRow w.heap.size 3 1 (.slice na X.hops.length nc) X.hops.length (flat intE X.hops)/\Below w.heap.size w (Za8 W (w.heap.size+1+1) X (.slice na X.hops.length nc)):=by
  intro X na nc lo W hz ho hlo hb;have G:=Za2 W (w.heap.size+1+1) X (.slice na X.hops.length nc);refine⟨Zds X _ hz,Zaf (Zal ho (fun k hk=>G.block k (ho.lt k hk).2 (fun e=>by have:=(ho.lt k hk).1;simp at e;omega))) (by omega),hb.grown G hb.size (fun k hk=>by simp at hk;omega)⟩
 have FIN:=hide fin;clear fin;have r0:=Zaa q0 0;have r1:=Zaa q0 1;have r2:=Zaa q0 2;have s0:=Zaa q1 0;have s1:=Zaa q1 1;have s2:=Zaa q1 2;simp at r0 r1 r2 s0 s1 s2;have z0:=Zab q0;have z1:=Zab q1;have z2:=Zab q2
 go_enter Tryz.func120,Tryz.ntmps120
 go_wp2_with fail
 rw [<-hw0];clear hw0;refine (HB1.out _).mono ?_;rintro e w1 ⟨rfl,e1⟩;have e1s:=e1.size;have B1:Below w.heap.size w w1:=BW.trans (e1.mono BW.size);have p0:=(e1.block _ z0).trans q0;have p1:=(e1.block _ z1).trans q1;have p2:=(e1.block _ z2).trans q2;clear r0 r1 r2 s0 s1 s2 q0 q1 q2 e1;have r0:=Zaa p0 0;have r1:=Zaa p0 1;have r2:=Zaa p0 2;have s0:=Zaa p1 0;have s1:=Zaa p1 1;have s2:=Zaa p1 2;simp at r0 r1 r2 s0 s1 s2;cases P
 ·go_wp2_with fail
  refine (HB2.out _).mono ?_;rintro e w2 ⟨rfl,e2⟩;have e2s:=e2.size;have B2:Below w.heap.size w w2:=B1.trans (e2.mono B1.size);have k0:=(e2.block _ (Zab p0)).trans p0;have k1:=(e2.block _ (Zab p1)).trans p1;have k2:=(e2.block _ (Zab p2)).trans p2;clear r0 r1 r2 s0 s1 s2 p0 p1 p2 e2;have r0:=Zaa k0 0;have r1:=Zaa k0 1;have r2:=Zaa k0 2;have s0:=Zaa k1 0;have s1:=Zaa k1 1;have s2:=Zaa k1 2;simp at r0 r1 r2 s0 s1 s2;cases Q
  ·have hDe:D=⟨x.to,x.cost,addL x.hops y.hops⟩:=HD.out;have zz0:w.heap.size<w2.heap.size:=by omega
   have zz1:w.heap.size+1<w2.heap.size:=by omega
   have B2D:Below w.heap.size w w2.drew:=B2.drew;have HAL:=hide (ZlY x.hops y.hops);have K2:=hide k2;clear k0 k1 k2;go_wp2
   go_region_held3 (fun W=>W.cell? ⟨w.heap.size,0,none⟩=some (.int .i64 x.to)/\W.cell? ⟨w.heap.size,1,none⟩=some (.int .i64 x.cost)/\W.cell? ⟨w.heap.size,2,none⟩=some (.slice a1 x.hops.length c1)/\W.cell? ⟨w.heap.size+1,2,none⟩=some (.slice a2 y.hops.length c2)) (first | (refine ⟨?_,?_,?_,?_⟩ <;> (rw [b3.cell (by assumption)];assumption)) | (refine ⟨?_,?_,?_,?_⟩ <;> (rw [cellW3 (by omega),b3.cell (by assumption)];assumption)) | go_keep) (first | (go_at_call 119;refine (HAD.out _ B2D).mono ?_;rintro e w3 ⟨v3,rfl,o3,b3⟩;obtain⟨na,nc,rfl⟩:=Zac o3;have k3:=(b3.block _ (show w.heap.size+1+1<w2.drew.heap.size from Zab K2.out)).trans K2.out;have t0:=Zaa k3 0;have t1:=Zaa k3 1;have t2:=Zaa k3 2;simp at t0 t1 t2;have ft:=Zae k3))
   have F:=FIN.out ⟨x.to,x.cost,addL x.hops y.hops⟩ na nc _ w3 k3 o3 (Zab K2.out) (B2D.trans (b3.mono B2D.size));subst hDe;clear k3 t0 t1 t2 ft;have FF:=hide F.1;have O5:=hide F.2.1;have B5:=hide F.2.2;clear F
   go_wp2_with fail
   (try simp only [Exit.inBlock,Exit.then])
   refine bodyPost_ret (results_cell_row rfl _ _ (w.heap.size+1+1) 108 (wayC _ _) (0,0) _ rfl FF.out Tryz.underlying108 rfl (by kernel_rfl)) rfl ?_;exact⟨_,rfl,O5.out,B5.out⟩
  ·have hDe:D=y:=HD.out;subst hDe
   go_wp2_with fail
   refine (HC2.out _ B2).mono ?_;rintro e w3 ⟨v3,rfl,o3,b3⟩;obtain⟨na,nc,rfl⟩:=Zac o3;have k3:=(b3.block _ (Zab k2)).trans k2;have t0:=Zaa k3 0;have t1:=Zaa k3 1;have t2:=Zaa k3 2;simp at t0 t1 t2;have ft:=Zae k3;have F:=FIN.out D na nc _ w3 k3 o3 (Zab k2) (B2.trans (b3.mono B2.size));clear k0 k1 k2 k3 o3 r0 r1 r2 s0 s1 s2;have FF:=hide F.1;have O5:=hide F.2.1;have B5:=hide F.2.2;clear F
   go_wp2_with fail
   (try simp only [Exit.inBlock,Exit.then])
   refine bodyPost_ret (results_cell_row rfl _ _ (w.heap.size+1+1) 108 (wayC _ _) (0,0) _ rfl FF.out Tryz.underlying108 rfl (by kernel_rfl)) rfl ?_;exact⟨_,rfl,O5.out,B5.out⟩
 ·have hDe:D=x:=HD.out;subst hDe
  go_wp2_with fail
  refine (HC1.out _ B1).mono ?_;rintro e w3 ⟨v3,rfl,o3,b3⟩;obtain⟨na,nc,rfl⟩:=Zac o3;have k3:=(b3.block _ (Zab p2)).trans p2;have t0:=Zaa k3 0;have t1:=Zaa k3 1;have t2:=Zaa k3 2;simp at t0 t1 t2;have ft:=Zae k3;have F:=FIN.out D na nc _ w3 k3 o3 (Zab p2) (B1.trans (b3.mono B1.size));clear p0 p1 p2 k3 o3 r0 r1 r2 s0 s1 s2;have FF:=hide F.1;have O5:=hide F.2.1;have B5:=hide F.2.2;clear F
  go_wp2_with fail
  (try simp only [Exit.inBlock,Exit.then])
  refine bodyPost_ret (results_cell_row rfl _ _ (w.heap.size+1+1) 108 (wayC _ _) (0,0) _ rfl FF.out Tryz.underlying108 rfl (by kernel_rfl)) rfl ?_;exact⟨_,rfl,O5.out,B5.out⟩
theorem Ze5 (l:List Int)(v:Value)(base:Nat)(w:World)(ho:w.ownsRow base 3 1 v l.length (flat intE l))(hn:l.length<=1048576):
  Calls Tryz.prog 145 #[v] w fun e w'=>∃ v',e=.returned v'/\w'.ownsRow w.heap.size 3 1 v' l.length (flat intE l)/\Below w.heap.size w w':=by
 obtain⟨va,vc,rfl⟩:=Zac ho;have OW:=hide ho;clear ho
 go_enter Tryz.func145,Tryz.ntmps145
 go_wp2_with (first
  | (at_builtin;refine ZdL ZfB (by omega) Zdj (by omega) _ rfl _ _ 40 rfl w.heap.size 3 Tryz.underlying40 (.int .i64 0) rfl Tryz.info3 _ [] rfl (YAZ _ _ _ _) base _ l rfl OW.out (by simp;omega) (by simp) ?_))
 intro v' w4 hown' hgrow;obtain⟨na,nc,rfl⟩:=Zac hown';simp only [Value.ownBlock] at hgrow;have hb4:=hide (show Below w.heap.size w w4 from (YAC w.heap.size w).grown hgrow (YA _) (fun k hk=>by simp at hk));have H1:=hide hown';clear hown' hgrow;go_wp2;go_ret;exact⟨_,rfl,by simpa using H1.out,hb4.out⟩
theorem Zgg (x:WayD)(v:Value)(base:Nat)(w:World)(ho:w.ownsRow base 3 1 v x.hops.length (flat intE x.hops))(hn:x.hops.length<=1048576):
  Calls Tryz.prog 116 #[.agg (wayC x v)] w fun e w'=>∃ v',e=.returned (.agg (wayC x v'))/\w'.ownsRow w.heap.size 3 1 v' x.hops.length (flat intE x.hops)/\Below w.heap.size w w':=by
 obtain⟨va,vc,rfl⟩:=Zac ho;have HC:=hide (fun W (hb:Below w.heap.size w W)=>Ze5 x.hops (.slice va x.hops.length vc) base W (Zad ho hb (YA _)) hn);clear ho
 go_enter Tryz.func116,Tryz.ntmps116
 unfold wayC
 go_wp2_with fail
 have hb0:Below w.heap.size w ((w.alloc (.cells #[.int .i64 x.to,.int .i64 x.cost,.slice va x.hops.length vc] 108)).alloc (.cells #[.int .i64 0,.int .i64 0,.slice none 0 0] 108)):=((YAC w.heap.size w).alloc (by simp) _).alloc (by simp) _;have q0:((w.alloc (.cells #[.int .i64 x.to,.int .i64 x.cost,.slice va x.hops.length vc] 108)).alloc (.cells #[.int .i64 0,.int .i64 0,.slice none 0 0] 108)).heap[w.heap.size]? = some (.cells #[.int .i64 x.to,.int .i64 x.cost,.slice va x.hops.length vc] 108):=by
  rw [YAH _ _ _ (by simp),YAE]
 have q1:((w.alloc (.cells #[.int .i64 x.to,.int .i64 x.cost,.slice va x.hops.length vc] 108)).alloc (.cells #[.int .i64 0,.int .i64 0,.slice none 0 0] 108)).heap[w.heap.size+1]? = some (.cells #[.int .i64 0,.int .i64 0,.slice none 0 0] 108):=by
  have e:=YAE (w.alloc (.cells #[.int .i64 x.to,.int .i64 x.cost,.slice va x.hops.length vc] 108)) (.cells #[.int .i64 0,.int .i64 0,.slice none 0 0] 108);rw [show (w.alloc (.cells #[.int .i64 x.to,.int .i64 x.cost,.slice va x.hops.length vc] 108)).heap.size=w.heap.size+1 by simp] at e;exact e
 generalize ((w.alloc (.cells #[.int .i64 x.to,.int .i64 x.cost,.slice va x.hops.length vc] 108)).alloc (.cells #[.int .i64 0,.int .i64 0,.slice none 0 0] 108))=w3 at *;refine (HC.out _ hb0).mono ?_;rintro e w4 ⟨v',rfl,hown',hb4'⟩;obtain⟨na,nc,rfl⟩:=Zac hown';have hs1:=Zab q1;have hb4:Below w.heap.size w w4:=hb0.trans (hb4'.mono (by omega));have q0:=(hb4'.block _ (by omega)).trans q0;have q1:=(hb4'.block _ hs1).trans q1;have r2:=Zaa q0 2;have f0:=Zae q0;simp at r2;have q2:=YAU w4 w.heap.size 2 _ _ (.slice na x.hops.length nc) q0;simp only [YAq,YAs,YAu] at q2;have q3:(w4.setCell ⟨w.heap.size,2,none⟩ (.slice na x.hops.length nc)).heap[w.heap.size+1]? = some (.cells #[.int .i64 0,.int .i64 0,.slice none 0 0] 108):=by
  rw [YAO w4 ⟨w.heap.size,2,none⟩ _ _ (by show w.heap.size+1≠w.heap.size;omega)];exact q1
 have y0:=Zaa q2 0;have y1:=Zaa q2 1;have y2:=Zaa q2 2;simp at y0 y1 y2;have u0:=Zaa q3 0;have u1:=Zaa q3 1;have u2:=Zaa q3 2;simp at u0 u1 u2;have fu:=Zae q3;have F:=Zds x (.slice na x.hops.length nc) q3;have hown2:=ZaG (j:=2) (u:=.slice na x.hops.length nc) hown' (show w.heap.size<w3.heap.size by omega);have G8:=Za2 (w4.setCell ⟨w.heap.size,2,none⟩ (.slice na x.hops.length nc)) (w.heap.size+1) x (.slice na x.hops.length nc);have hown3:=Zaf (b0:=w.heap.size) (hown2.kept G8 (by
  cases hv:(Value.slice na x.hops.length nc).ownBlock with
  | none=>exact .inl rfl
  | some g=>exact .inr (fun e=>by have:=(hown2.lt g hv).1;simp at e;omega))) (by omega)
 have hb5:Below w.heap.size w (Za8 (w4.setCell ⟨w.heap.size,2,none⟩ (.slice na x.hops.length nc)) (w.heap.size+1) x (.slice na x.hops.length nc)):=(hb4.setCell (p:=⟨w.heap.size,2,none⟩) (YA _) _).grown G8 (by have:=Zab q3;omega) (fun k hk=>by simp at hk;omega);have FF:=hide F;have H3:=hide hown3;have H5:=hide hb5;clear F hown3 hb5 hown2 G8 hb4 hown' hb4' q0 q1 q2 q3 hb0 HC
 go_wp2_with fail
 (try simp only [Exit.inBlock,Exit.then])
 refine bodyPost_ret (results_cell_row rfl _ _ (w.heap.size+1) 108 (wayC _ _) (0,0) _ rfl FF.out Tryz.underlying108 rfl (by kernel_rfl)) rfl ?_;exact⟨_,rfl,H3.out,H5.out⟩
theorem Zew (v:Value)(ps:List WP)(lo hi:Nat)(z:Int)(w:World)(hv:WaysOwn w lo hi v ps)(hhi:hi<=w.heap.size)(hn:totW ps<=1048576):
  Calls Tryz.prog 86 #[v,.int .i64 z] w fun e w'=>∃ u,e=.returned (.tuple #[.agg (wayC (Zbo (Zaj ps) z) u),.bool (Zbk (Zaj ps) z)])/\w'.ownsRow w.heap.size 3 1 u (Zbo (Zaj ps) z).hops.length (flat intE (Zbo (Zaj ps) z).hops)/\Below w.heap.size w w':=by
 have hnl:=ZgT ps;obtain⟨D,hD⟩:∃ D,D=Zbo (Zaj ps) z:=⟨_,rfl⟩;obtain⟨F,hF⟩:∃ F,F=Zbk (Zaj ps) z:=⟨_,rfl⟩;rw [<-hD, <-hF];have HD:=hide hD;have HF:=hide hF;clear hD hF;obtain⟨a1,c1,rfl⟩:=Zac hv.row;have HV:=hide hv;clear hv;have BX:Below w.heap.size w (w.alloc (.cells #[.int .i64 0,.int .i64 0,.slice none 0 0] 108)):=(YAC _ _).alloc (YA _) _;have hq:=YAE w (.cells #[.int .i64 0,.int .i64 0,.slice none 0 0] 108);obtain⟨w0,hw0⟩:∃ W,W=w.alloc (.cells #[.int .i64 0,.int .i64 0,.slice none 0 0] 108):=⟨_,rfl⟩;rw [<-hw0] at BX hq;have hs0:=Zab hq;have HQ:=hide hq;clear hq;unfold wayC
 go_enter Tryz.func86,Tryz.ntmps86
 go_wp2;rw [<-hw0];clear hw0
 go_loopw [10] (fun i wr=>∃ k:Nat,k<=ps.length/\i=.int .i64 k/\Hid (∀ q∈ps.take k,q.1.to≠z)/\Below w0.heap.size w0 wr) (fun i _=>ps.length-(intOf i).toNat)
 case atStart=>exact ⟨0,by omega,rfl,hide (by simp),YAC _ _⟩
 case round=>
  obtain⟨k,hk,rfl,HNO,hnx⟩:=hrel;have hsz:=hnx.size;have BWR:Below w.heap.size w wr:=BX.trans (hnx.mono (by omega));have hz1:=(hnx.block _ hs0).trans HQ.out;by_cases hlt:k<ps.length
  ·obtain ⟨p,hp⟩:∃ p,ps[k]? = some p:=⟨ps[k],YAA hlt⟩;obtain⟨b,off,cp,hve,hbb,c0,c1,c2,_⟩:=HV.out.at.cells k p hp;cases hve;have hbw:b<w.heap.size:=by omega
   have hno:=HV.out.nears p (YAG hp);obtain⟨pa,pc,hpn⟩:=Zac hno.1;have HCP:=hide (fun W (hb:Below w.heap.size w W)=>Zgg p.1 p.2 lo W (Zad hno.1 hb (YA _)) (by have:=ZmO (YAG hp);omega));unfold wayC at HCP;rw [hpn] at c2 HCP;replace c0:=(BWR.cell hbw).trans c0;replace c1:=(BWR.cell hbw).trans c1;replace c2:=(BWR.cell hbw).trans c2;have hki:(0:Int)<=(k:Int):=by omega
   have hkj:(k:Int)<(ps.length:Int):=by omega
   by_cases hzz:p.1.to=z
   ·have hh:=ZkO hp HNO.out hzz;have hDe:D=p.1:=HD.out.trans hh.1;have hFe:F=true:=HF.out.trans hh.2;subst hDe hFe;subst hzz;clear hp hno hpn hh
    go_wp2_with fail
    refine (HCP.out _ (BWR.alloc (by omega) _)).mono ?_;rintro e w2 ⟨v1,rfl,hn2',b2'⟩;obtain⟨na,nc,rfl⟩:=Zac hn2';have hn2:=Zaf (b0:=wr.heap.size) hn2' (by simp);have b2:Below wr.heap.size wr w2:=((YAC _ _).alloc (YA _) _).trans (b2'.mono (by simp));clear hn2' b2';have b2s:=b2.size;have hz2:=(b2.block _ (Zab hz1)).trans hz1;have u0:=Zaa hz2 0;have u1:=Zaa hz2 1;have u2:=Zaa hz2 2;simp at u0 u1 u2;have fu:=Zae hz2;have FF:=hide (Zds p.1 (.slice na p.1.hops.length nc) hz2);have G8:=Za2 w2 w.heap.size p.1 (.slice na p.1.hops.length nc);have O3:=hide (Zaf (b0:=w.heap.size) (hn2.kept G8 (by
     cases hv:(Value.slice na p.1.hops.length nc).ownBlock with
     | none=>exact .inl rfl
     | some g=>exact .inr (fun e=>by have:=(hn2.lt g hv).1;simp at e;omega))) (by omega))
    have B2:Below w.heap.size w w2:=BWR.trans (b2.mono (by omega));have BF:=hide (B2.grown G8 B2.size (fun k hk=>by simp at hk;omega));clear hz2 hn2 b2 G8 hz1
    go_wp2_with fail
    (try simp only [Exit.inBlock,Exit.then])
    refine bodyPost_ret (ZaR rfl _ _ w.heap.size 108 (wayC p.1 (.slice na p.1.hops.length nc)) (0,0) _ rfl FF.out Tryz.underlying108 rfl (by kernel_rfl)) rfl ?_;exact⟨_,rfl,O3.out,BF.out⟩
   ·have HN:=hide (ZmK hp HNO.out hzz);have hd:(p.1.to==z)=false:=by simpa using hzz
    clear hp hno hpn hz1;go_wp2;go_roundw
    case rel=>exact ⟨k+1,by omega,by go_num,HN,hnx.alloc (by omega) _⟩
    case measure=>simp [intOf];omega
  ·have hh:=Ziz (ps:=ps) (z:=z) (by have h:=HNO.out;rw [YAL (by omega)] at h;exact h);have hDe:D=Zbl:=HD.out.trans hh.1;have hFe:F=false:=HF.out.trans hh.2;subst hDe hFe;have u0:=Zaa hz1 0;have u1:=Zaa hz1 1;have u2:=Zaa hz1 2;simp at u0 u1 u2;have fu:=Zae hz1;have FF:=hide (Zds Zbl (.slice none 0 0) hz1);have G8:=hide (Za2 wr w.heap.size Zbl (.slice none 0 0));clear hz1 hh
   go_wp2_with fail
   (try simp only [Exit.inBlock,Exit.then])
   refine bodyPost_ret (ZaR rfl _ _ w.heap.size 108 (wayC Zbl (.slice none 0 0)) (0,0) _ rfl FF.out Tryz.underlying108 rfl (by kernel_rfl)) rfl ?_;exact⟨.slice none 0 0,rfl,YAZ _ _ _ _,BWR.grown G8.out BWR.size (fun k hk=>by simp at hk;omega)⟩
def ltAt (xs:List RecD)(r:RecD)(t:Nat):Prop:=∃ x,xs[t]? = some x/\ordR x r<0
theorem Zc1 {x:RecD}{t:Nat}(h:xs[t]? = some x):ltAt xs r t↔ordR x r<0:=by
 constructor
 ·rintro ⟨y,hy,hl⟩;rw [h] at hy;cases hy;exact hl
 ·exact fun hl=>⟨x,h,hl⟩
theorem Zip (v:Value)(ps:List RP)(hi:Nat)(r:RP)(w:World)(hv:RecsIn w hi v ps)(hhi:hi<=w.heap.size)(hn:tot ps<=1048576)(hr:ZaF w 0 hi r)(hmono:∀ s t,s<=t->t<ps.length->ltAt (fsts ps) r.1 t->ltAt (fsts ps) r.1 s):
  Calls Tryz.prog 77 #[v,.agg (recC r.1 r.2),.func (.func 78) #[] #[]] w fun e w'=>∃ (i:Nat) (f:Bool),e=.returned (.tuple #[.int .i64 (i:Int),.bool f])/\i<=ps.length/\(∀ t,t<i->ltAt (fsts ps) r.1 t)/\(∀ t,i<=t->t<ps.length->¬ltAt (fsts ps) r.1 t)/\(f=true↔∃ x,(fsts ps)[i]? = some x/\ordR x r.1=0)/\Below w.heap.size w w':=by
 have hnl:=Zbj ps;obtain⟨a1,c1,rfl⟩:=Zac hv.row;obtain⟨ra,rc,hrn⟩:=Zac hr.1;have HRN:=hide hrn;have HV:=hide hv;have HM:=hide hmono;unfold recC;rw [hrn];clear hv hr hrn hmono;have BX:Below w.heap.size w (w.alloc (.cells #[.int .i64 r.1.area,.int .i64 r.1.kind,.int .i64 r.1.owner,.int .i64 r.1.key,.int .i64 r.1.seq,.slice ra r.1.near.length rc,.int .i64 r.1.cost,.bool r.1.far] 37)):=(YAC _ _).alloc (YA _) _;have hx:=YAE w (.cells #[.int .i64 r.1.area,.int .i64 r.1.kind,.int .i64 r.1.owner,.int .i64 r.1.key,.int .i64 r.1.seq,.slice ra r.1.near.length rc,.int .i64 r.1.cost,.bool r.1.far] 37);obtain⟨w0,hw0⟩:∃ w0,w0=w.alloc (.cells #[.int .i64 r.1.area,.int .i64 r.1.kind,.int .i64 r.1.owner,.int .i64 r.1.key,.int .i64 r.1.seq,.slice ra r.1.near.length rc,.int .i64 r.1.cost,.bool r.1.far] 37):=⟨_,rfl⟩;rw [<-hw0] at BX hx;have hs0:=Zab hx;have HX:=hide hx;clear hx
 go_enter Tryz.func77,Tryz.ntmps77
 go_wp2;rw [<-hw0];clear hw0
 go_loopw [9,10] (fun i j wr=>∃ (m n:Nat),m<=n/\n<=ps.length/\i=.int .i64 m/\j=.int .i64 n/\Hid (∀ t,t<m->ltAt (fsts ps) r.1 t)/\Hid (∀ t,n<=t->t<ps.length->¬ltAt (fsts ps) r.1 t)/\Below w0.heap.size w0 wr) (fun i j _=>(intOf j).toNat-(intOf i).toNat)
 case atStart=>exact ⟨0,ps.length,by omega,by omega,rfl,rfl,hide (by omega),hide (by omega),YAC _ _⟩
 case round=>
  obtain⟨m,n,hmn,hnp,rfl,rfl,HLO,HHI,hnx⟩:=hrel;have hsz:=hnx.size;have BWR:Below w.heap.size w wr:=BX.trans (hnx.mono (by omega));by_cases hlt:m<n
  ·have hmi:(m:Int)<(n:Int):=by omega
   have hw1:IntKind.i64.wrap ((m:Int)+(n:Int))=(m:Int)+(n:Int):=ZaH _ (by omega) (by omega);go_wp2;obtain⟨k,hk⟩:∃ k:Nat,k=(m+n) / 2:=⟨_,rfl⟩;have hke:((m:Int)+(n:Int)) / 2=(k:Int):=by omega
   rw [hke];have hkm:m<=k:=by omega
   have hkn:k<n:=by omega
   have hki:(0:Int)<=(k:Int):=by omega
   have hkj:(k:Int)<(ps.length:Int):=by omega
   clear hk hke hw1;obtain⟨p,hp⟩:∃ p,ps[k]? = some p:=⟨ps[k],YAA (by omega)⟩;obtain⟨b,off,cap',hve,hbb,c0,c1,c2,c3,c4,c5,c6,c7,hnr⟩:=HV.out.at.cells k p hp;cases hve;obtain⟨pa,pc,hpn⟩:=Zat.shape hnr;rw [hpn] at c5;replace c0:=(BWR.cell (YAB hbb hhi)).trans c0;replace c1:=(BWR.cell (YAB hbb hhi)).trans c1;replace c2:=(BWR.cell (YAB hbb hhi)).trans c2;replace c3:=(BWR.cell (YAB hbb hhi)).trans c3;replace c4:=(BWR.cell (YAB hbb hhi)).trans c4;replace c5:=(BWR.cell (YAB hbb hhi)).trans c5;replace c6:=(BWR.cell (YAB hbb hhi)).trans c6;replace c7:=(BWR.cell (YAB hbb hhi)).trans c7;have hxx:=(hnx.block _ (Zab HX.out)).trans HX.out;have d0:=Zaa hxx 0;have d1:=Zaa hxx 1;have d2:=Zaa hxx 2;have d3:=Zaa hxx 3;have d4:=Zaa hxx 4;have d5:=Zaa hxx 5;have d6:=Zaa hxx 6;have d7:=Zaa hxx 7;simp at d0 d1 d2 d3 d4 d5 d6 d7;have hb1:b<wr.heap.size:=by omega
   have hb2:w.heap.size<wr.heap.size:=by omega
   have hq:=fun W=>Zb5 p.2 r.2 p.1 r.1 W;unfold recC at hq;rw [hpn,HRN.out] at hq;obtain⟨x,hx⟩:∃ x,x=ordR p.1 r.1:=⟨_,rfl⟩;rw [<-hx] at hq;have HK:=hide hq;have HXV:=hide hx;have HPP:=hide (Zbf hp);clear hq hx hp hxx hnr hpn;by_cases hx0:x<0
   ·have HLO2:=hide (show ∀ t,t<k+1->ltAt (fsts ps) r.1 t from fun t ht=>HM.out t k (by omega) (by omega) ((Zc1 HPP.out).2 (by rw [<-HXV.out];exact hx0)))
    go_region_held3 (fun W=>W.cell? ⟨b,off+k*8,none⟩=some (.int .i64 p.1.area)/\W.cell? ⟨b,off+k*8+1,none⟩=some (.int .i64 p.1.kind)/\W.cell? ⟨b,off+k*8+2,none⟩=some (.int .i64 p.1.owner)/\W.cell? ⟨b,off+k*8+3,none⟩=some (.int .i64 p.1.key)/\W.cell? ⟨b,off+k*8+4,none⟩=some (.int .i64 p.1.seq)/\W.cell? ⟨b,off+k*8+5,none⟩=some (.slice pa p.1.near.length pc)/\W.cell? ⟨b,off+k*8+6,none⟩=some (.int .i64 p.1.cost)/\W.cell? ⟨b,off+k*8+7,none⟩=some (.bool p.1.far)/\W.cell? ⟨w.heap.size,0,none⟩=some (.int .i64 r.1.area)/\W.cell? ⟨w.heap.size,1,none⟩=some (.int .i64 r.1.kind)/\W.cell? ⟨w.heap.size,2,none⟩=some (.int .i64 r.1.owner)/\W.cell? ⟨w.heap.size,3,none⟩=some (.int .i64 r.1.key)/\W.cell? ⟨w.heap.size,4,none⟩=some (.int .i64 r.1.seq)/\W.cell? ⟨w.heap.size,5,none⟩=some (.slice ra r.1.near.length rc)/\W.cell? ⟨w.heap.size,6,none⟩=some (.int .i64 r.1.cost)/\W.cell? ⟨w.heap.size,7,none⟩=some (.bool r.1.far)) (first | go_keep | (refine ⟨?_,?_,?_,?_,?_,?_,?_,?_,?_,?_,?_,?_,?_,?_,?_,?_⟩ <;> (rw [hbc.cell (by assumption)];assumption))) (first | (go_at_call 78;refine (HK.out _).mono ?_;rintro e w1 ⟨rfl,hbc⟩))
    go_wp2;go_roundw
    case rel=>exact ⟨k+1,n,by omega,by omega,by go_num,rfl,HLO2,HHI,hnx.trans ((YAC _ _).drew.trans (hbc.mono hsz))⟩
    case measure=>simp [intOf];omega
   ·have HHI2:=hide (show ∀ t,k<=t->t<ps.length->¬ltAt (fsts ps) r.1 t from fun t h1 h2 h3=>hx0 (by rw [HXV.out];exact (Zc1 HPP.out).1 (HM.out k t h1 h2 h3)))
    go_region_held3 (fun W=>W.cell? ⟨b,off+k*8,none⟩=some (.int .i64 p.1.area)/\W.cell? ⟨b,off+k*8+1,none⟩=some (.int .i64 p.1.kind)/\W.cell? ⟨b,off+k*8+2,none⟩=some (.int .i64 p.1.owner)/\W.cell? ⟨b,off+k*8+3,none⟩=some (.int .i64 p.1.key)/\W.cell? ⟨b,off+k*8+4,none⟩=some (.int .i64 p.1.seq)/\W.cell? ⟨b,off+k*8+5,none⟩=some (.slice pa p.1.near.length pc)/\W.cell? ⟨b,off+k*8+6,none⟩=some (.int .i64 p.1.cost)/\W.cell? ⟨b,off+k*8+7,none⟩=some (.bool p.1.far)/\W.cell? ⟨w.heap.size,0,none⟩=some (.int .i64 r.1.area)/\W.cell? ⟨w.heap.size,1,none⟩=some (.int .i64 r.1.kind)/\W.cell? ⟨w.heap.size,2,none⟩=some (.int .i64 r.1.owner)/\W.cell? ⟨w.heap.size,3,none⟩=some (.int .i64 r.1.key)/\W.cell? ⟨w.heap.size,4,none⟩=some (.int .i64 r.1.seq)/\W.cell? ⟨w.heap.size,5,none⟩=some (.slice ra r.1.near.length rc)/\W.cell? ⟨w.heap.size,6,none⟩=some (.int .i64 r.1.cost)/\W.cell? ⟨w.heap.size,7,none⟩=some (.bool r.1.far)) (first | go_keep | (refine ⟨?_,?_,?_,?_,?_,?_,?_,?_,?_,?_,?_,?_,?_,?_,?_,?_⟩ <;> (rw [hbc.cell (by assumption)];assumption))) (first | (go_at_call 78;refine (HK.out _).mono ?_;rintro e w1 ⟨rfl,hbc⟩))
    go_wp2;go_roundw
    case rel=>exact ⟨m,k,by omega,by omega,rfl,rfl,HLO,HHI2,hnx.trans ((YAC _ _).drew.trans (hbc.mono hsz))⟩
    case measure=>simp [intOf];omega
  ·have hmn2:m=n:=by omega
   subst hmn2;by_cases hend:m<ps.length
   ·have hmi:(0:Int)<=(m:Int):=by omega
    have hmj:(m:Int)<(ps.length:Int):=by omega
    obtain⟨p,hp⟩:∃ p,ps[m]? = some p:=⟨ps[m],YAA (by omega)⟩;obtain⟨b,off,cap',hve,hbb,c0,c1,c2,c3,c4,c5,c6,c7,hnr⟩:=HV.out.at.cells m p hp;cases hve;obtain⟨pa,pc,hpn⟩:=Zat.shape hnr;rw [hpn] at c5;replace c0:=(BWR.cell (YAB hbb hhi)).trans c0;replace c1:=(BWR.cell (YAB hbb hhi)).trans c1;replace c2:=(BWR.cell (YAB hbb hhi)).trans c2;replace c3:=(BWR.cell (YAB hbb hhi)).trans c3;replace c4:=(BWR.cell (YAB hbb hhi)).trans c4;replace c5:=(BWR.cell (YAB hbb hhi)).trans c5;replace c6:=(BWR.cell (YAB hbb hhi)).trans c6;replace c7:=(BWR.cell (YAB hbb hhi)).trans c7;have hxx:=(hnx.block _ (Zab HX.out)).trans HX.out;have d0:=Zaa hxx 0;have d1:=Zaa hxx 1;have d2:=Zaa hxx 2;have d3:=Zaa hxx 3;have d4:=Zaa hxx 4;have d5:=Zaa hxx 5;have d6:=Zaa hxx 6;have d7:=Zaa hxx 7;simp at d0 d1 d2 d3 d4 d5 d6 d7;have hb1:b<wr.heap.size:=by omega
    have hb2:w.heap.size<wr.heap.size:=by omega
    have hq:=fun W=>Zb5 p.2 r.2 p.1 r.1 W;unfold recC at hq;rw [hpn,HRN.out] at hq;obtain⟨x,hx⟩:∃ x,x=ordR p.1 r.1:=⟨_,rfl⟩;rw [<-hx] at hq;have HK:=hide hq;have HXV:=hide hx;have HPP:=hide (Zbf hp);clear hq hx hp hxx hnr hpn;have hfin:(x==0)=true↔∃ y,(fsts ps)[m]? = some y/\ordR y r.1=0:=by
     rw [HPP.out];constructor
     ·intro h;exact⟨p.1,rfl,by rw [<-HXV.out];simpa using h⟩
     ·rintro ⟨y,hy,he⟩;cases hy;rw [HXV.out];simpa using he
    have HFIN:=hide hfin;clear hfin;go_wp2
    go_region_held3 (fun W=>W.cell? ⟨b,off+m*8,none⟩=some (.int .i64 p.1.area)/\W.cell? ⟨b,off+m*8+1,none⟩=some (.int .i64 p.1.kind)/\W.cell? ⟨b,off+m*8+2,none⟩=some (.int .i64 p.1.owner)/\W.cell? ⟨b,off+m*8+3,none⟩=some (.int .i64 p.1.key)/\W.cell? ⟨b,off+m*8+4,none⟩=some (.int .i64 p.1.seq)/\W.cell? ⟨b,off+m*8+5,none⟩=some (.slice pa p.1.near.length pc)/\W.cell? ⟨b,off+m*8+6,none⟩=some (.int .i64 p.1.cost)/\W.cell? ⟨b,off+m*8+7,none⟩=some (.bool p.1.far)/\W.cell? ⟨w.heap.size,0,none⟩=some (.int .i64 r.1.area)/\W.cell? ⟨w.heap.size,1,none⟩=some (.int .i64 r.1.kind)/\W.cell? ⟨w.heap.size,2,none⟩=some (.int .i64 r.1.owner)/\W.cell? ⟨w.heap.size,3,none⟩=some (.int .i64 r.1.key)/\W.cell? ⟨w.heap.size,4,none⟩=some (.int .i64 r.1.seq)/\W.cell? ⟨w.heap.size,5,none⟩=some (.slice ra r.1.near.length rc)/\W.cell? ⟨w.heap.size,6,none⟩=some (.int .i64 r.1.cost)/\W.cell? ⟨w.heap.size,7,none⟩=some (.bool r.1.far)) (first | go_keep | (refine ⟨?_,?_,?_,?_,?_,?_,?_,?_,?_,?_,?_,?_,?_,?_,?_,?_⟩ <;> (rw [hbc.cell (by assumption)];assumption))) (first | (go_at_call 78;refine (HK.out _).mono ?_;rintro e w1 ⟨rfl,hbc⟩))
    go_wp2
    go_returns
    exact⟨m,x==0,rfl,by omega,HLO.out,HHI.out,HFIN.out,BWR.trans ((YAC _ _).drew.trans (hbc.mono (show w.heap.size<=wr.heap.size by omega)))⟩
   ·have hme:¬(m:Int)<(ps.length:Int):=by omega
    have HNO:=hide (show (false=true↔∃ y,(fsts ps)[m]? = some y/\ordR y r.1=0) from ⟨(fun h=>by cases h),(fun ⟨y,hy,_⟩=>by rw [List.getElem?_eq_none (by simp [fsts];omega)] at hy;cases hy)⟩);go_wp2
    go_quiet (fail)
    go_wp2
    go_returns
    exact⟨m,false,rfl,by omega,HLO.out,HHI.out,HNO.out,BWR.trans ⟨rfl,rfl,rfl,YA _,fun _ _=>rfl⟩⟩
def Zb1 (n:Int)(ls:List Lk):Bool:=decide (ls.length<=12)&&ZbM (ZaP n) ls&&ascB ordL ls
theorem Zlr (n:Int)(v:Value)(ls:List Lk)(w:World)(hls:ls.length<=1048576)(hv:ZaK w v ls w.heap.size):
  Calls Tryz.prog 42 #[.int .i64 n,v] w fun e w'=>e=.returned (.bool (Zb1 n ls))/\Below w.heap.size w w':=by
 obtain⟨a,cap,rfl⟩:=hv.shape;have HV:=hide hv;clear hv;by_cases h12:ls.length<=12
 case neg=>
  have hno:Zb1 n ls=false:=by unfold Zb1;rw [YAe h12];rfl
  rw [hno];have h12':(12:Int)<(ls.length:Int):=by omega
  clear hno
  go_enter Tryz.func42,Tryz.ntmps42
  go_wp2;go_ret;exact⟨rfl,YAC _ _⟩
 have h12':¬(12:Int)<(ls.length:Int):=by omega
 have hB:Zb1 n ls=(ZbM (ZaP n) ls&&ascB ordL ls):=by unfold Zb1;rw [YAT h12];rfl
 have HB:=hide hB;clear hB
 go_enter Tryz.func42,Tryz.ntmps42
 go_wp2
 go_loopw [12] (fun i wr=>∃ k:Nat,k<=ls.length/\i=.int .i64 k/\(∀ j,j<k->okAt (ZaP n) ls j=true)/\Below w.heap.size w wr) (fun i _=>ls.length-(intOf i).toNat)
 case atStart=>exact ⟨0,by omega,rfl,by omega,YAC _ _⟩
 case round=>
  obtain⟨k,hk,rfl,hno,hb⟩:=hrel;have HNO:=hide hno;clear hno;by_cases hlt:k<ls.length
  ·obtain ⟨l,hl⟩:∃ l,ls[k]? = some l:=⟨ls[k],YAA hlt⟩;obtain⟨b,off,cap',hve,hbb,c0,c1,c2,c3⟩:=HV.out.cells k l hl;cases hve;replace c0:=(hb.cell hbb).trans c0;replace c1:=(hb.cell hbb).trans c1;replace c2:=(hb.cell hbb).trans c2;replace c3:=(hb.cell hbb).trans c3;have HAT:=hide (Zck (ok:=ZaP n) hl);have HOK:=hide (Zlh n l);clear hl;obtain⟨q,hq⟩:∃ q,q=ZaP n l:=⟨_,rfl⟩;rw [<-hq] at HAT HOK;unfold lkV at HOK;clear hq;have hzr:=hb.size
   go_wp2_with fail
   refine (HOK.out _).mono ?_;rintro e w2 ⟨rfl,hbc⟩;have B2:Below w.heap.size w w2:=(hb.alloc hb.size _).trans (hbc.mono (by simp;omega));cases q
   ·have hf:Zb1 n ls=false:=by rw [HB.out];unfold ZbM;rw [ZaQ hlt HAT.out];rfl
    have HF:=hide hf;clear hf;go_wp2;go_ret;exact⟨Zah HF.out,B2⟩
   ·go_wp2;exact⟨⟨k+1,by omega,by go_num,ZaO HNO.out HAT.out,B2⟩,by simp [intOf];omega⟩
  ·have hall:ZbM (ZaP n) ls=true:=Za4 fun i hi=>HNO.out i (by omega);have hF:Zb1 n ls=ascB ordL ls:=by rw [HB.out,hall];rfl
   have HF:=hide hF;clear hF hall;have HVR:=hide (HV.out.then hb)
   go_wp2_with fail
   refine (ZpX _ ls _ hls HVR.out).mono ?_;rintro e w2 ⟨rfl,hbc⟩;go_wp2;go_ret;exact⟨Zah HF.out,hb.trans (hbc.mono hb.size)⟩
def Zc9 (n:Int)(t:Th):Bool:=inB t.k 1 9&&inB t.o 1 n&&inB t.c 1 1000
def Zbt (n:Int)(ls:List Th):Bool:=decide (ls.length<=4)&&ZbM (Zc9 n) ls&&ascB ordT ls
theorem ZkJ (n:Int)(v:Value)(ls:List Th)(w:World)(hls:ls.length<=1048576)(hv:ZaS w v ls w.heap.size):
  Calls Tryz.prog 43 #[.int .i64 n,v] w fun e w'=>e=.returned (.bool (Zbt n ls))/\Below w.heap.size w w':=by
 obtain⟨a,cap,rfl⟩:=hv.shape;have HV:=hide hv;clear hv;by_cases h12:ls.length<=4
 case neg=>
  have hno:Zbt n ls=false:=by unfold Zbt;rw [YAe h12];rfl
  rw [hno];have h12':(4:Int)<(ls.length:Int):=by omega
  clear hno
  go_enter Tryz.func43,Tryz.ntmps43
  go_wp2;go_ret;exact⟨rfl,YAC _ _⟩
 have h12':¬(4:Int)<(ls.length:Int):=by omega
 have hB:Zbt n ls=(ZbM (Zc9 n) ls&&ascB ordT ls):=by unfold Zbt;rw [YAT h12];rfl
 have HB:=hide hB;clear hB
 go_enter Tryz.func43,Tryz.ntmps43
 go_wp2
 go_loopw [12] (fun i wr=>∃ k:Nat,k<=ls.length/\i=.int .i64 k/\(∀ j,j<k->okAt (Zc9 n) ls j=true)/\Below w.heap.size w wr) (fun i _=>ls.length-(intOf i).toNat)
 case atStart=>exact ⟨0,by omega,rfl,by omega,YAC _ _⟩
 case round=>
  obtain⟨k,hk,rfl,hno,hb⟩:=hrel;have HNO:=hide hno;clear hno;by_cases hlt:k<ls.length
  ·obtain ⟨l,hl⟩:∃ l,ls[k]? = some l:=⟨ls[k],YAA hlt⟩;obtain⟨b,off,cap',hve,hbb,c0,c1,c2,c3⟩:=HV.out.cells k l hl;cases hve;replace c0:=(hb.cell hbb).trans c0;replace c1:=(hb.cell hbb).trans c1;replace c2:=(hb.cell hbb).trans c2;replace c3:=(hb.cell hbb).trans c3;have HAT:=hide (Zck (ok:=Zc9 n) hl);obtain⟨q1,hq1⟩:∃ q,q=inB l.k 1 9:=⟨_,rfl⟩;obtain⟨q2,hq2⟩:∃ q,q=inB l.o 1 n:=⟨_,rfl⟩;obtain⟨q3,hq3⟩:∃ q,q=inB l.c 1 1000:=⟨_,rfl⟩;have hok:Zc9 n l=(q1&&q2&&q3):=by unfold Zc9;rw [hq1,hq2,hq3]
   have H1:=hide (Za5 l.k 1 9);have H2:=hide (Za5 l.o 1 n);have H3:=hide (Za5 l.c 1 1000);rw [<-hq1] at H1;rw [<-hq2] at H2;rw [<-hq3] at H3;rw [hok] at HAT;clear hl hq1 hq2 hq3 hok;have hzr:=hb.size;have B2:Below w.heap.size w (wr.alloc (.cells #[.int .i64 l.o,.int .i64 l.k,.int .i64 l.c,.bool l.f] 65)):=hb.alloc hb.size _;cases q1
   ·have hf:Zbt n ls=false:=by rw [HB.out];unfold ZbM;rw [ZaQ hlt HAT.out];rfl
    have HF:=hide hf;clear hf
    go_wp2_with fail
    refine (H1.out _).mono ?_;rintro e w2 ⟨rfl,rfl⟩;go_wp2;go_ret;exact⟨Zah HF.out,B2⟩
   cases q2
   ·have hf:Zbt n ls=false:=by rw [HB.out];unfold ZbM;rw [ZaQ hlt HAT.out];rfl
    have HF:=hide hf;clear hf
    go_wp2_with fail
    refine (H1.out _).mono ?_;rintro e w2 ⟨rfl,rfl⟩
    go_wp2_with fail
    refine (H2.out _).mono ?_;rintro e w2 ⟨rfl,rfl⟩;go_wp2;go_ret;exact⟨Zah HF.out,B2⟩
   cases q3
   ·have hf:Zbt n ls=false:=by rw [HB.out];unfold ZbM;rw [ZaQ hlt HAT.out];rfl
    have HF:=hide hf;clear hf
    go_wp2_with fail
    refine (H1.out _).mono ?_;rintro e w2 ⟨rfl,rfl⟩
    go_wp2_with fail
    refine (H2.out _).mono ?_;rintro e w2 ⟨rfl,rfl⟩
    go_wp2_with fail
    refine (H3.out _).mono ?_;rintro e w2 ⟨rfl,rfl⟩;go_wp2;go_ret;exact⟨Zah HF.out,B2⟩
   ·go_wp2_with fail
    refine (H1.out _).mono ?_;rintro e w2 ⟨rfl,rfl⟩
    go_wp2_with fail
    refine (H2.out _).mono ?_;rintro e w2 ⟨rfl,rfl⟩
    go_wp2_with fail
    refine (H3.out _).mono ?_;rintro e w2 ⟨rfl,rfl⟩;go_wp2;exact⟨⟨k+1,by omega,by go_num,ZaO HNO.out HAT.out,B2⟩,by simp [intOf];omega⟩
  ·have hall:ZbM (Zc9 n) ls=true:=Za4 fun i hi=>HNO.out i (by omega);have hF:Zbt n ls=ascB ordT ls:=by rw [HB.out,hall];rfl
   have HF:=hide hF;clear hF hall;have HVR:=hide (HV.out.then hb)
   go_wp2_with fail
   refine (ZpY _ ls _ hls HVR.out).mono ?_;rintro e w2 ⟨rfl,hbc⟩;go_wp2;go_ret;exact⟨Zah HF.out,hb.trans (hbc.mono hb.size)⟩
def Za0 (x:NetD):Bool:=inB x.n 1 6&&Zb1 x.n x.ls&&Zbt x.n x.ts
theorem Zh8 (v:Value)(x:NetD)(w:World)(hl:x.ls.length<=1048576)(ht:x.ts.length<=1048576)(hv:ZmR w v x w.heap.size):
  Calls Tryz.prog 15 #[v] w fun e w'=>e=.returned (.bool (Za0 x))/\Below w.heap.size w w':=by
 obtain⟨n,ls,ts⟩:=x;obtain⟨v1,v2,rfl,h1,h2⟩:=hv;simp only [] at h1 h2 hl ht |-
 obtain⟨a1,c1,rfl⟩:=h1.shape;obtain⟨a2,c2,rfl⟩:=h2.shape;obtain⟨q1,hq1⟩:∃ q,q=inB n 1 6:=⟨_,rfl⟩;obtain⟨q2,hq2⟩:∃ q,q=Zb1 n ls:=⟨_,rfl⟩;obtain⟨q3,hq3⟩:∃ q,q=Zbt n ts:=⟨_,rfl⟩;have hok:Za0 ⟨n,ls,ts⟩=(q1&&q2&&q3):=by unfold Za0;rw [hq1,hq2,hq3]
 rw [hok];have HIN:=hide (Za5 n 1 6);rw [<-hq1] at HIN;have HL:=hide (fun W (h:Below w.heap.size w W)=>Zlr n _ ls W hl (h1.then h));have HT:=hide (fun W (h:Below w.heap.size w W)=>ZkJ n _ ts W ht (h2.then h));rw [<-hq2] at HL;rw [<-hq3] at HT;clear hq1 hq2 hq3 hok h1 h2;have B0:Below w.heap.size w (w.alloc (.cells #[.int .i64 n,.slice a1 ls.length c1,.slice a2 ts.length c2] 27)):=(YAC _ _).alloc (YA _) _;have hnew:=YAE w (.cells #[.int .i64 n,.slice a1 ls.length c1,.slice a2 ts.length c2] 27);have NEW:=hide hnew;clear hnew;cases q1
 ·go_enter Tryz.func15,Tryz.ntmps15
  go_wp2_with fail
  refine (HIN.out _).mono ?_;rintro e w1 ⟨rfl,rfl⟩;go_wp2;go_ret;exact⟨by simp,B0⟩
 cases q2
 ·go_enter Tryz.func15,Tryz.ntmps15
  go_wp2_with fail
  refine (HIN.out _).mono ?_;rintro e w1 ⟨rfl,rfl⟩
  go_wp2_with fail
  refine (HL.out _ B0).mono ?_;rintro e w1 ⟨rfl,b1⟩;go_wp2;go_ret;exact⟨by simp,B0.trans (b1.mono B0.size)⟩
 ·go_enter Tryz.func15,Tryz.ntmps15
  go_wp2_with fail
  refine (HIN.out _).mono ?_;rintro e w1 ⟨rfl,rfl⟩
  go_wp2_with fail
  refine (HL.out _ B0).mono ?_;rintro e w1 ⟨rfl,b1⟩;have g1:w1.heap[w.heap.size]? = some (.cells #[.int .i64 n,.slice a1 ls.length c1,.slice a2 ts.length c2] 27):=by rw [b1.block _ (by simp)];exact NEW.out
  have B1:Below w.heap.size w w1:=B0.trans (b1.mono B0.size);have s0:=Zaa g1 0;have s2:=Zaa g1 2;simp at s0 s2;clear g1 b1 B0
  go_wp2_with fail
  refine (HT.out _ B1).mono ?_;rintro e w2 ⟨rfl,b2⟩;go_wp2;go_ret;exact⟨by simp,B1.trans (b2.mono B1.size)⟩
def ZbR (ls:List Lk)(f:Int):List Int:=([0,1,2]:List Int).filter fun u=>decide (0<(ZgA ls f u).length)
def ZiO (ls:List Lk)(f:Int):Bool:=decide (1<(ZbR ls f).length)&&((ZbR ls f).head? == some 0)
theorem ZmZ (z:Int)(zs:List Int):Lib.compact (z::zs)≠[]:=by
 intro h;unfold Lib.compact Lib.compactUpTo at h;rw [List.map_eq_nil_iff,List.filter_eq_nil_iff] at h;exact h 0 (by simp) (Lib.keeps_lt_one _ 0 (by omega))
theorem Zmw (ls:List Lk)(f r:Int):decide (0<(ZgA ls f r).length)=decide (0<(gath ls f r ls.length).length):=by
 unfold ZgA;apply decide_eq_decide.2;have h1:=Lib.compact_length_le ((gath ls f r ls.length).mergeSort fun x y=>decide (x<=y));rw [List.length_mergeSort] at h1;constructor
 ·omega
 ·intro h;have hm:0<((gath ls f r ls.length).mergeSort fun x y=>decide (x<=y)).length:=by rw [List.length_mergeSort];exact h
  generalize ((gath ls f r ls.length).mergeSort fun x y=>decide (x<=y))=zs at hm;cases zs with
  | nil=>simp at hm
  | cons z zs=>
   cases hc:Lib.compact (z::zs) with
   | nil=>exact absurd hc (ZmZ z zs)
   | cons=>simp
theorem ZiG (ls:List Lk)(v:Int):ZbR ls v=ZbB (fun u=>decide (0<(ZgA ls v u).length)) 0 3:=by
 simp only [ZbR,ZbB,List.filter_cons,List.filter_nil,List.nil_append]
 repeat' split
 all_goals simp_all
theorem Zeu (n:Value)(v tv:Value)(ls:List Lk)(f:Int)(w:World)(hls:ls.length<=1048576)(hv:ZaK w v ls w.heap.size):
  Calls Tryz.prog 31 #[.agg #[n,v,tv],.int .i64 f] w fun e w'=>∃ x,e=.returned x/\w'.ownsRow w.heap.size 3 1 x (ZbR ls f).length (Zbb (ZbR ls f))/\Below w.heap.size w w':=by
 have HV:=hide hv;clear hv;rw [ZiG]
 go_enter Tryz.func31,Tryz.ntmps31
 go_wp2
 go_loopw [5,8] (fun x i wr=>∃ k:Nat,k<=3/\i=.int .i64 (0+(k:Int))/\Below w.heap.size w wr/\wr.heap[w.heap.size]? = some (.cells #[n,v,tv] 27)/\wr.ownsRow (w.heap.size+1) 3 1 x (ZbB (fun u=>decide (0<(ZgA ls f u).length)) 0 k).length (Zbb (ZbB (fun u=>decide (0<(ZgA ls f u).length)) 0 k))) (fun _ i _=>4-(intOf i).toNat)
 case atStart=>
  refine⟨0,by omega,rfl,ZaB _ _,?_,?_⟩
  ·rw [YAH _ _ _ (show w.heap.size<(w.alloc (.cells #[n,v,tv] 27)).heap.size by simp),YAE]
  ·have h0:=World.ownsRow_lit (base:=w.heap.size+1) (w.alloc (.cells #[n,v,tv] 27)) (#[]:Array Value) 0 (by simp) (by decide) (e:=3) (size:=1) rfl;simpa [ZbB,Zbb] using h0
 case round=>
  obtain⟨k,hk,rfl,hb,hx,hown⟩:=hrel;have c0:wr.cell? ⟨w.heap.size,0,none⟩=some n:=by rw [Zaa hx];rfl
  have c1:wr.cell? ⟨w.heap.size,1,none⟩=some v:=by rw [Zaa hx];rfl
  have c2:wr.cell? ⟨w.heap.size,2,none⟩=some tv:=by rw [Zaa hx];rfl
  have hxl:=Zab hx;have HX:=hide hx;have OW:=hide hown;clear hx hown;by_cases hlt:k<3
  ·go_wp2_with fail
   refine (ZoE n v tv ls f _ wr hls (HV.out.then hb)).mono ?_;rintro e w1 ⟨x1,rfl,hox,b1⟩;obtain⟨a1,cp1,rfl⟩:=ZcD hox;clear hox;have hown1:=Zad OW.out b1 (YA _);have hx1:w1.heap[w.heap.size]? = some (.cells #[n,v,tv] 27):=by rw [b1.block _ hxl];exact HX.out
   have hb1:Below w.heap.size w w1:=hb.trans (b1.mono hb.size);have hz1:=b1.size;have hpl:=ZeC (fun u=>decide (0<(ZgA ls f u).length)) 0 k;have HX1:=hide hx1;obtain⟨l2,hl20⟩:∃ l2,l2=ZbB (fun u=>decide (0<(ZgA ls f u).length)) 0 (k+1):=⟨_,rfl⟩;have HL20:=hide hl20;have hps:Hid (l2=ZbB (fun u=>decide (0<(ZgA ls f u).length)) 0 k++(if decide (0<(ZgA ls f (0+(k:Int))).length) then [0+(k:Int)] else [])):=hl20;clear hl20;clear b1 hx1 c0 c1 c2 OW HX;generalize ZbB (fun u=>decide (0<(ZgA ls f u).length)) 0 k=l at hown1 hpl hps;rw [Int.zero_add] at *;rw [Zmw] at hps;generalize (gath ls f (k:Int) ls.length).length=c at hps |-;by_cases hc:0<(c:Int)
   ·have hc':0<c:=by omega
    have hl2:l2=l++[(k:Int)]:=by rw [hps.out];simp [hc']
    clear hc';have HL2:=hide hl2;clear hl2 hps
    go_wp2_with (first
     | (at_builtin;refine Zbp _ rfl _ _ 40 rfl (w.heap.size+1) 3 Tryz.underlying40 Tryz.info3 u5 l (k:Int) rfl (hown1.alloc _) ⟨w1.heap.size,0,none⟩ 1 rfl ?_ (by omega) (by simp;omega) ?_))
    ·rw [add_zero',World.cell?_alloc_at _ _ _ _ rfl];rfl
    intro v' w4 l' hl' hown' hgrow;have hb4:Below w.heap.size w w4:=(hb1.alloc (by omega) _).grown hgrow (by simp;omega) (fun k hk=>by have:=(hown1.lt k hk).1;omega);have hx4:w4.heap[w.heap.size]? = some (.cells #[n,v,tv] 27):=by
     rw [hgrow.block _ (by simp;omega) (fun h=>by have:=(hown1.lt _ h.symm).1;omega),YAH _ _ _ (by omega)];exact HX1.out
    have e:l'=l2:=by rw [hl'.out,HL2.out]
    subst e;have OW2:=hide hown';have HX4:=hide hx4;clear hgrow hown' hx4 hown1;go_wp2;go_roundw
    case rel=>exact ⟨k+1,by omega,by go_num,hb4,HX4.out,by rw [<-HL20.out];exact OW2.out⟩
    case measure=>simp [intOf];omega
   ·have hc':¬0<c:=by omega
    have hl2:l2=l:=by rw [hps.out];simp [hc']
    clear hc';subst hl2;have OW2:=hide hown1;clear hown1 hps;go_wp2;go_roundw
    case rel=>exact ⟨k+1,by omega,by go_num,hb1,HX1.out,by rw [<-HL20.out];exact OW2.out⟩
    case measure=>simp [intOf];omega
  ·have hk':k=3:=by omega
   subst hk';go_wp2;go_ret;exact⟨_,rfl,ZfP OW.out (by omega),hb⟩
theorem Zhe (n:Value)(v tv:Value)(ls:List Lk)(f:Int)(w:World)(hls:ls.length<=1048576)(hv:ZaK w v ls w.heap.size):
  Calls Tryz.prog 32 #[.agg #[n,v,tv],.int .i64 f] w fun e w'=>e=.returned (.bool (ZiO ls f))/\Below w.heap.size w w':=by
 have HV:=hide hv;clear hv
 go_enter Tryz.func32,Tryz.ntmps32
 go_wp2_with fail
 refine (Zeu n v tv ls f _ hls (HV.out.then ((YAC _ _).alloc (YA _) _))).mono ?_;rintro e w1 ⟨x,rfl,hox,b1⟩;have hb1:Below w.heap.size w w1:=((YAC w.heap.size w).alloc (YA _) _).trans (b1.mono (by simp));obtain⟨zs,hzs⟩:∃ zs,zs=ZbR ls f:=⟨_,rfl⟩;have hB:ZiO ls f=(decide (1<zs.length)&&(zs.head? == some 0)):=by rw [hzs];rfl
 have HB:=hide hB;rw [<-hzs] at hox;clear hB hzs b1;by_cases h1:1<zs.length
 ·obtain ⟨g,cap,rfl,hg,hl⟩:=ZeB hox (by omega);obtain⟨z,zr,rfl⟩:∃ z zr,zs=z::zr:=by
   cases zs with
   | nil=>simp at h1
   | cons z zr=>exact ⟨z,zr,rfl⟩
  have c0:w1.cell? ⟨g,0,none⟩=some (.int .i64 z):=by rw [hox.cellAt 0 (by omega)];rfl
  have hb:(decide (1<(z::zr).length)&&((z::zr).head? == some 0))=(z==0):=by
   rw [YAT h1];simp
  have HB2:Hid (ZiO ls f=(z==0)):=HB.out.trans hb;generalize (z::zr).length=m at hox h1 hl |-;have h1':(1:Int)<(m:Int):=by omega
  have h0':(0:Int)<(m:Int):=by omega
  clear hox hb HB;go_wp2;go_ret;exact⟨by rw [HB2.out];rfl,hb1⟩
 ·obtain ⟨a,cap,rfl⟩:=ZcD hox;have hb:(decide (1<zs.length)&&(zs.head? == some 0))=false:=by rw [YAe h1];rfl
  have HB2:Hid (ZiO ls f=false):=HB.out.trans hb;have h1':¬(1:Int)<(zs.length:Int):=by omega
  clear hox hb HB;go_wp2;go_ret;exact⟨by rw [HB2.out];rfl,hb1⟩
structure HB (W:World) (lo z:Nat) (C:Array Value) (u:Value) (n:Nat) (q:Nat->Nat) (wd:Nat->WayD) (wv:Nat->Value):Prop where
 box:W.heap[z]? = some (.cells C 162)
 c7:C[7]? = some u
 hq:HQ W lo u n q wd wv
theorem HB.cell (h:HB W lo z C u n q wd wv):W.cell? ⟨z,7,none⟩=some u:=(Zaa h.box 7).trans h.c7
theorem HB.below (h:HB W lo z C u n q wd wv)(hb:Below W.heap.size W W'):HB W' lo z C u n q wd wv:=
 ⟨(hb.block _ (Zab h.box)).trans h.box,h.c7,h.hq.below hb⟩
theorem HB.shuf {q':Nat->Nat}(h:HB W lo z C u n q wd wv)(hg:W.grownBy W' u.ownBlock)(ho:W'.ownsRow lo 157 1 u n (ptrs q' n))(hs:Shuf q q' n):HB W' lo z C u n q' wd wv:=by
 refine⟨(hg.block z (Zab h.box) (Zar h.hq.row h.box (by decide))).trans h.box,h.c7,ho,fun i hi=>?_,fun i hi=>?_⟩
 ·obtain ⟨j,hj,e⟩:=hs.into i hi;rw [e];have hw:=h.hq.way j hj;exact (hg.block _ (Zab hw) (Zar h.hq.row hw (by decide))).trans hw
 ·obtain ⟨j,hj,e⟩:=hs.into i hi;rw [e];exact h.hq.sl j hj
theorem Za3 {r:Option Nat}(hb:Below W.heap.size W W'):W.grownBy W' r:=⟨hb.os,hb.tape,hb.output,hb.size,fun k hk _=>hb.block k hk⟩
theorem up_any (W:World)(lo z n:Nat)(C:Array Value)(u:Value)(q:Nat->Nat)(wd:Nat->WayD)(wv:Nat->Value)(j:Nat)(h:HB W lo z C u n q wd wv)(hj:j<n)(hn:n<=1048576)(hu:UpInv (fun k=>(wd k).cost) q n j):
  Calls Tryz.prog 162 #[.iface 185 (.pointer (some ⟨z,7,none⟩)),.int .i64 (j:Int)] W fun e W'=>∃ q',e=.returned (.tuple #[])/\ZcV (fun k=>(wd k).cost) q' n/\Shuf q q' n/\HB W' lo z C u n q' wd wv/\W.grownBy W' u.ownBlock:=by
 have HU:=hide hu;have HH:=hide h;clear hu h
 go_enter Tryz.func162,Tryz.ntmps162
 go_wp2
 go_loopw [1] (fun i wr=>∃ (j:Nat) (q':Nat->Nat),j<n/\i=.int .i64 (j:Int)/\Hid (UpInv (fun k=>(wd k).cost) q' n j)/\Hid (Shuf q q' n)/\Hid (HB wr lo z C u n q' wd wv)/\Hid (W.grownBy wr u.ownBlock)) (fun i _=>(intOf i).toNat)
 case atStart=>exact ⟨j,q,hj,rfl,HU,hide (Shuf.refl _ _),HH,hide (Zcq _ _)⟩
 case round=>
  rename World=>wa
  clear HU HH hj;obtain⟨j,q',hj,rfl,HU,HS,HH,HG⟩:=hrel;have cz:=HH.out.cell;by_cases hj0:j=0
  ·subst hj0;have HI:=hide (ZpP HU.out (.inl rfl));go_wp2
   go_returns
   exact⟨q',rfl,HI.out,HS.out,HH.out,HG.out⟩
  ·have hw1:IntKind.i64.wrap ((j:Int)-1)=((j-1:Nat):Int):=by rw [ZaH _ (by omega) (by omega)];omega
   have hw2:((j-1:Nat):Int).tdiv 2=((par j:Nat):Int):=by rw [Int.tdiv_eq_ediv_of_nonneg (by omega)];unfold par;omega
   have hpl:par j<j:=ZdF (by omega);obtain⟨p,hp⟩:∃ p,p=par j:=⟨_,rfl⟩;rw [<-hp] at hw2 hpl;have HP:=hide hp;clear hp;have hne:((p:Int)==(j:Int))=false:=by
    have h1:¬(p:Int)=(j:Int):=by omega
    simpa using h1
   have hne2:¬(p:Int)=(j:Int):=by omega
   have HL:=hide (ZfC wa lo n u q' wd wv j p HH.out.hq hj (by omega));have mL:=Zea cz;by_cases hlt:(wd (q' j)).cost<(wd (q' p)).cost
   ·go_wp2_with fail
    refine HL.out.mono ?_;rintro e w2 ⟨rfl,b2⟩;rw [YAT hlt];have H2:=HH.out.below b2;have cz2:=H2.cell;have mS:=Zeb cz2;have HSW:=hide (ZfY w2 lo n u q' p j H2.hq.row (by omega) hj);have HB2:=hide H2;have HUP:=hide (Zso HU.out (by omega) hj (by rw [<-HP.out];exact hlt));rw [<-HP.out] at HUP;have HG2:=hide (Zai HG.out (Za3 (r:=u.ownBlock) b2));clear b2 H2 mL
    go_wp2_with fail
    refine HSW.out.mono ?_;rintro e w3 ⟨rfl,ho3,hg3⟩;have HB3:=hide (HB2.out.shuf hg3 ho3 (Shuf.swap q' (by omega) hj));have HS3:=hide (HS.out.trans (Shuf.swap q' (i:=p) (j:=j) (by omega) hj));have HG3:=hide (Zai HG2.out hg3);clear ho3 hg3 mS;go_wp2;go_roundw
    case rel=>exact ⟨p,_,by omega,rfl,HUP,HS3,HB3,HG3⟩
    case measure=>simp [intOf];omega
   ·go_wp2_with fail
    refine HL.out.mono ?_;rintro e w2 ⟨rfl,b2⟩;rw [YAe (by omega)];have HI:=hide (ZpP HU.out (.inr (by rw [<-HP.out];show ¬(wd (q' j)).cost<(wd (q' p)).cost;omega)));have HB2:=hide (HH.out.below b2);have HG2:=hide (Zai HG.out (Za3 (r:=u.ownBlock) b2));clear b2 mL;go_wp2
    go_returns
    exact⟨q',rfl,HI.out,HS.out,HB2.out,HG2.out⟩
theorem Zlo {c:Nat->Int}{i j:Nat}(h1:2*i+1<n->c (q j)<=c (q (2*i+1)))(h2:2*i+2<n->c (q j)<=c (q (2*i+2))):∀ k,0<k->k<n->par k=i->c (q j)<=c (q k):=by
 intro k h0 hk hp;rcases ZmC h0 hp with rfl | rfl
 ·exact h1 hk
 ·exact h2 hk
theorem Zqb (W:World)(lo z n m:Nat)(C:Array Value)(u:Value)(q:Nat->Nat)(wd:Nat->WayD)(wv:Nat->Value)(h:HB W lo z C u m q wd wv)(hnm:n<=m)(hn:m<=1048576)(hu:DownInv (fun k=>(wd k).cost) q n 0):
  Calls Tryz.prog 163 #[.iface 185 (.pointer (some ⟨z,7,none⟩)),.int .i64 0,.int .i64 (n:Int)] W fun e W'=>∃ (r:Value) (q':Nat->Nat),e=.returned r/\ZcV (fun k=>(wd k).cost) q' n/\Shuf q q' n/\HB W' lo z C u m q' wd wv/\W.grownBy W' u.ownBlock:=by
 have HU:=hide hu;have HH:=hide h;clear hu h
 go_enter Tryz.func163,Tryz.ntmps163
 go_wp2
 go_loopw [7] (fun s wr=>∃ (i:Nat) (q':Nat->Nat),i<=n/\s=.int .i64 (i:Int)/\Hid (DownInv (fun k=>(wd k).cost) q' n i)/\Hid (Shuf q q' n)/\Hid (HB wr lo z C u m q' wd wv)/\Hid (W.grownBy wr u.ownBlock)) (fun s _=>n-(intOf s).toNat)
 case atStart=>exact ⟨0,q,by omega,rfl,HU,hide (Shuf.refl _ _),HH,hide (Zcq _ _)⟩
 case round=>
  rename World=>wa
  clear HU HH;obtain⟨i,q',hi,rfl,HU,HS,HH,HG⟩:=hrel;have cz:=HH.out.cell;have hw1:IntKind.i64.wrap (2*(i:Int))=((2*i:Nat):Int):=by rw [ZaH _ (by omega) (by omega)];omega
  have hw2:IntKind.i64.wrap (((2*i:Nat):Int)+1)=((2*i+1:Nat):Int):=by rw [ZaH _ (by omega) (by omega)];omega
  have hw3:IntKind.i64.wrap (((2*i+1:Nat):Int)+1)=((2*i+2:Nat):Int):=by rw [ZaH _ (by omega) (by omega)];omega
  obtain⟨j1,hj1⟩:∃ j,j=2*i+1:=⟨_,rfl⟩;obtain⟨j2,hj2⟩:∃ j,j=2*i+2:=⟨_,rfl⟩;obtain⟨i2,hi2⟩:∃ j,j=2*i:=⟨_,rfl⟩;rw [<-hj1] at hw2 hw3;rw [<-hi2] at hw1 hw2;rw [<-hj2] at hw3;have HJ1:=hide hj1;have HJ2:=hide hj2;have hij:i<j1:=by omega
  have hj12:j2=j1+1:=by omega
  have HJ12:=hide hj12;have hj1n:¬(j1:Int)<0:=by omega
  clear hj1 hj2 hi2;by_cases hlt:j1<n
  ·clear hj12;have hij2:i<j2:=by have:=HJ12.out;omega
   have hge:¬(n:Int)<=(j1:Int):=by omega
   have hged:decide ((j1:Int)>=(n:Int))=false:=by simp;omega
   have hged2:decide ((n:Int)<=(j1:Int))=false:=by simp;omega
   by_cases hlt2:j2<n
   ·have hl2:(j2:Int)<(n:Int):=by omega
    have mL:=Zea cz;have HL:=hide (ZfC wa lo m u q' wd wv j2 j1 HH.out.hq (by omega) (by omega));by_cases hc21:(wd (q' j2)).cost<(wd (q' j1)).cost
    ·go_wp2_with fail
     refine HL.out.mono ?_;rintro e w2 ⟨rfl,b2⟩;rw [YAT hc21];have HB2:=hide (HH.out.below b2);have HG2:=hide (Zai HG.out (Za3 (r:=u.ownBlock) b2));clear b2 mL cz HL;have hlJ:j2<n:=by omega
     have cz5:=HB2.out.cell;have mL5:=Zea cz5;have HL5:=hide (ZfC w2 lo m u q' wd wv j2 i HB2.out.hq (by omega) (by omega));have KM:=hide (Zlo (c:=fun k=>(wd k).cost) (q:=q') (n:=n) (i:=i) (j:=j2) (fun _=>by rw [<-HJ1.out];exact Int.le_of_lt hc21) (fun _=>by rw [<-HJ2.out];exact Int.le_refl _));by_cases hlt5:(wd (q' j2)).cost<(wd (q' i)).cost
     ·go_wp2_with fail
      refine HL5.out.mono ?_;rintro e w6 ⟨rfl,b6⟩;rw [YAT hlt5];have H6:=HB2.out.below b6;have cz6:=H6.cell;have mS:=Zeb cz6;have HSW:=hide (ZfY w6 lo m u q' i j2 H6.hq.row (by omega) (by omega));have HB6:=hide H6;have HDN:=hide (Zg6 HU.out (j:=j2) (by omega) hlJ (by unfold par;have:=HJ1.out;have:=HJ2.out;omega) hlt5 KM.out);have HG6:=hide (Zai HG2.out (Za3 (r:=u.ownBlock) b6));clear b6 H6 mL5 cz5
      go_wp2_with fail
      refine HSW.out.mono ?_;rintro e w7 ⟨rfl,ho7,hg7⟩;have HB7:=hide (HB6.out.shuf hg7 ho7 (Shuf.swap q' (by omega) (by omega)));have HS7:=hide (HS.out.trans (Shuf.swap q' (i:=i) (j:=j2) (by omega) hlJ));have HG7:=hide (Zai HG6.out hg7);clear ho7 hg7 mS;go_wp2;go_roundw
      case rel=>exact ⟨j2,_,by omega,rfl,HDN,HS7,HB7,HG7⟩
      case measure=>simp [intOf];omega
     ·go_wp2_with fail
      refine HL5.out.mono ?_;rintro e w6 ⟨rfl,b6⟩;rw [YAe (by omega)];have hle5:(wd (q' i)).cost<=(wd (q' j2)).cost:=by omega
      have HI:=hide (Zft HU.out (fun k h0 hk hp=>Int.le_trans hle5 (KM.out k h0 hk hp)));have HB6:=hide (HB2.out.below b6);have HG6:=hide (Zai HG2.out (Za3 (r:=u.ownBlock) b6));clear b6 mL5 cz5;go_wp2
      go_returns
      first
       | exact ⟨_,q',rfl,HI.out,HS.out,HB6.out,HG6.out⟩
       | exact ⟨_,rfl,q',HI.out,HS.out,HB6.out,HG6.out⟩
    ·go_wp2_with fail
     refine HL.out.mono ?_;rintro e w2 ⟨rfl,b2⟩;rw [YAe (by omega)];have hc21':(wd (q' j1)).cost<=(wd (q' j2)).cost:=by omega
     have HB2:=hide (HH.out.below b2);have HG2:=hide (Zai HG.out (Za3 (r:=u.ownBlock) b2));clear b2 mL cz HL;have hlJ:j1<n:=by omega
     have cz5:=HB2.out.cell;have mL5:=Zea cz5;have HL5:=hide (ZfC w2 lo m u q' wd wv j1 i HB2.out.hq (by omega) (by omega));have KM:=hide (Zlo (c:=fun k=>(wd k).cost) (q:=q') (n:=n) (i:=i) (j:=j1) (fun _=>by rw [<-HJ1.out];exact Int.le_refl _) (fun _=>by rw [<-HJ2.out];exact hc21'));by_cases hlt5:(wd (q' j1)).cost<(wd (q' i)).cost
     ·go_wp2_with fail
      refine HL5.out.mono ?_;rintro e w6 ⟨rfl,b6⟩;rw [YAT hlt5];have H6:=HB2.out.below b6;have cz6:=H6.cell;have mS:=Zeb cz6;have HSW:=hide (ZfY w6 lo m u q' i j1 H6.hq.row (by omega) (by omega));have HB6:=hide H6;have HDN:=hide (Zg6 HU.out (j:=j1) (by omega) hlJ (by unfold par;have:=HJ1.out;have:=HJ2.out;omega) hlt5 KM.out);have HG6:=hide (Zai HG2.out (Za3 (r:=u.ownBlock) b6));clear b6 H6 mL5 cz5
      go_wp2_with fail
      refine HSW.out.mono ?_;rintro e w7 ⟨rfl,ho7,hg7⟩;have HB7:=hide (HB6.out.shuf hg7 ho7 (Shuf.swap q' (by omega) (by omega)));have HS7:=hide (HS.out.trans (Shuf.swap q' (i:=i) (j:=j1) (by omega) hlJ));have HG7:=hide (Zai HG6.out hg7);clear ho7 hg7 mS;go_wp2;go_roundw
      case rel=>exact ⟨j1,_,by omega,rfl,HDN,HS7,HB7,HG7⟩
      case measure=>simp [intOf];omega
     ·go_wp2_with fail
      refine HL5.out.mono ?_;rintro e w6 ⟨rfl,b6⟩;rw [YAe (by omega)];have hle5:(wd (q' i)).cost<=(wd (q' j1)).cost:=by omega
      have HI:=hide (Zft HU.out (fun k h0 hk hp=>Int.le_trans hle5 (KM.out k h0 hk hp)));have HB6:=hide (HB2.out.below b6);have HG6:=hide (Zai HG2.out (Za3 (r:=u.ownBlock) b6));clear b6 mL5 cz5;go_wp2
      go_returns
      first
       | exact ⟨_,q',rfl,HI.out,HS.out,HB6.out,HG6.out⟩
       | exact ⟨_,rfl,q',HI.out,HS.out,HB6.out,HG6.out⟩
   ·have hl2:¬(j2:Int)<(n:Int):=by omega
    have hlJ:j1<n:=by omega
    have cz5:=HH.out.cell;have mL5:=Zea cz5;have HL5:=hide (ZfC wa lo m u q' wd wv j1 i HH.out.hq (by omega) (by omega));have KM:=hide (Zlo (c:=fun k=>(wd k).cost) (q:=q') (n:=n) (i:=i) (j:=j1) (fun _=>by rw [<-HJ1.out];exact Int.le_refl _) (fun h=>by have:=HJ2.out;omega));by_cases hlt5:(wd (q' j1)).cost<(wd (q' i)).cost
    ·go_wp2_with fail
     refine HL5.out.mono ?_;rintro e w6 ⟨rfl,b6⟩;rw [YAT hlt5];have H6:=HH.out.below b6;have cz6:=H6.cell;have mS:=Zeb cz6;have HSW:=hide (ZfY w6 lo m u q' i j1 H6.hq.row (by omega) (by omega));have HB6:=hide H6;have HDN:=hide (Zg6 HU.out (j:=j1) (by omega) hlJ (by unfold par;have:=HJ1.out;have:=HJ2.out;omega) hlt5 KM.out);have HG6:=hide (Zai HG.out (Za3 (r:=u.ownBlock) b6));clear b6 H6 mL5 cz5
     go_wp2_with fail
     refine HSW.out.mono ?_;rintro e w7 ⟨rfl,ho7,hg7⟩;have HB7:=hide (HB6.out.shuf hg7 ho7 (Shuf.swap q' (by omega) (by omega)));have HS7:=hide (HS.out.trans (Shuf.swap q' (i:=i) (j:=j1) (by omega) hlJ));have HG7:=hide (Zai HG6.out hg7);clear ho7 hg7 mS;go_wp2;go_roundw
     case rel=>exact ⟨j1,_,by omega,rfl,HDN,HS7,HB7,HG7⟩
     case measure=>simp [intOf];omega
    ·go_wp2_with fail
     refine HL5.out.mono ?_;rintro e w6 ⟨rfl,b6⟩;rw [YAe (by omega)];have hle5:(wd (q' i)).cost<=(wd (q' j1)).cost:=by omega
     have HI:=hide (Zft HU.out (fun k h0 hk hp=>Int.le_trans hle5 (KM.out k h0 hk hp)));have HB6:=hide (HH.out.below b6);have HG6:=hide (Zai HG.out (Za3 (r:=u.ownBlock) b6));clear b6 mL5 cz5;go_wp2
     go_returns
     first
      | exact ⟨_,q',rfl,HI.out,HS.out,HB6.out,HG6.out⟩
      | exact ⟨_,rfl,q',HI.out,HS.out,HB6.out,HG6.out⟩
  ·clear hj12;have hge:(n:Int)<=(j1:Int):=by omega
   have HI:=hide (Zft HU.out (fun k h0 hk hp=>by rcases ZmC h0 hp with e | e <;> (have:=HJ1.out;omega)));go_wp2
   go_returns
   first
    | exact ⟨_,q',rfl,HI.out,HS.out,HH.out,HG.out⟩
    | exact ⟨_,rfl,q',HI.out,HS.out,HH.out,HG.out⟩
    | exact ⟨⟨_,rfl⟩,q',HI.out,HS.out,HH.out,HG.out⟩
theorem Tryz.infoRoute :(Tryz.prog.info? 42).map (fun i=>(i.zero,i.size,i.bytes))=some (some (.agg (rtC Zf3 (.slice none 0 0))),6,64):=by kernel_rfl
def Za7 (ps:List QP):List RtD:=ps.map (·.1)
theorem Zn6 {B:Nat}{w w1:World}(h:Below B w w1):Below B w (w1.drewN n):=h.trans ⟨rfl,rfl,rfl,YA _,fun _ _=>rfl⟩
end Go.Proofs.YtikloccefmofdaaGreat
