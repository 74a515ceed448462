/-
  Parts.
-/
import Derived.Test.YtcnjnibnecpddaaGreatTr7
import Derived.Test.YtcnjnibnecpddaaGreatTr6
namespace Go.Proofs.YtcnjnibnecpddaaGreat
open Go.RowKit
set_option linter.unusedSimpArgs false
set_option linter.unusedVariables false
set_option maxRecDepth 100000
set_option maxHeartbeats 8000000
variable {ps:List RP}{B hi k lo m1 m2:Nat}{v1 v2 v3 v4:Value}{W W':World}
theorem Zrg (v:Value)(ps:List RP)(hi:Nat)(r:RP)(w:World)(hv:RecsIn w hi v ps)(hhi:hi<=w.heap.size)(hn:tot ps<=1048576):
  Calls Tryz.prog 64 #[v,.agg (recC r.1 r.2)] w fun e w'=>e=.returned (M (atZ (fsts ps) r.1))/\T_ w w':=by
 have hnl:=Zby ps;obtain⟨a1,c1,rfl⟩:=Zac hv.row;have HV:=hide hv;clear hv;have BX:=(YAC w.heap.size w).alloc (YA _) (.cells (recC r.1 r.2) 39);have hx:=YAE w (.cells (recC r.1 r.2) 39);obtain⟨wx,hwx⟩:∃ wx,wx=w.alloc (.cells (recC r.1 r.2) 39):=⟨_,rfl⟩;rw [<-hwx] at BX hx;unfold recC at *
 go_enter Tryz.func64,Tryz.ntmps64
 go_wp2;rw [<-hwx];have HX:=hide hx;clear hwx hx
 go_loopw [5] (fun i wr=>∃ (k:Nat),k<=ps.length/\i=M k/\(∀ j,j<k->∀ y,(fsts ps)[j]? = some y->Zat y r.1=false)/\T_ wx wr) (fun i _=>ps.length-(intOf i).toNat)
 case atStart=>exact ⟨0,by omega,rfl,by omega,YAC _ _⟩
 case round=>
  obtain⟨k,hk,rfl,hall,hnx⟩:=hrel;have HALL:=hide hall;clear hall;have hsz:=hnx.size;have hsx:=Zab HX;have BWR:T_ w wr:=BX.trans (hnx.mono (by omega));by_cases hlt:k<ps.length
  ·obtain ⟨p,hp⟩:∃ p,ps[k]? = some p:=⟨ps[k],YAA hlt⟩;have hat:=HV.out.at;obtain⟨b,off,cap',hve,hbb,c0,c1,c2,c3,c4,c5,c6,c7,_⟩:=hat.cells k p hp;cases hve;replace c0:=(BWR.cell (YAB hbb hhi)).trans c0;replace c1:=(BWR.cell (YAB hbb hhi)).trans c1;replace c2:=(BWR.cell (YAB hbb hhi)).trans c2;replace c3:=(BWR.cell (YAB hbb hhi)).trans c3;replace c4:=(BWR.cell (YAB hbb hhi)).trans c4;replace c5:=(BWR.cell (YAB hbb hhi)).trans c5;replace c6:=(BWR.cell (YAB hbb hhi)).trans c6;replace c7:=(BWR.cell (YAB hbb hhi)).trans c7;have hxx:=(hnx.block _ hsx).trans HX;have d0:=Zaa hxx 0;have d1:=Zaa hxx 1;have d2:=Zaa hxx 2;have d3:=Zaa hxx 3;have d4:=Zaa hxx 4;have d5:=Zaa hxx 5;have d6:=Zaa hxx 6;have d7:=Zaa hxx 7;simp at d0 d1 d2 d3 d4 d5 d6 d7;have hb1:b<wr.heap.size:=by omega
   have hb2:w.heap.size<wr.heap.size:=by omega
   have hki:(0:Int)<=(k:Int):=by omega
   have hkj:(k:Int)<(ps.length:Int):=by omega
   have hq:=fun W=>ZkD p.2 r.2 p.1 r.1 W;unfold recC at hq;obtain⟨q,hqq⟩:∃ q,q=Zat p.1 r.1:=⟨_,rfl⟩;rw [<-hqq] at hq;have HK:=hide hq;have HQQ:=hide hqq;have HPP:=hide (Zbq hp);clear hq hqq hp hat hxx;cases q
   ·go_wp2
    go_region_held3 (fun W=>W.cell? (U b (off+k*8))=some (M p.1.area)/\W.cell? (U b (off+k*8+1))=some (M p.1.kind)/\W.cell? (U b (off+k*8+2))=some (M p.1.owner)/\W.cell? (U b (off+k*8+3))=some (M p.1.key)/\W.cell? (U b (off+k*8+4))=some (M p.1.seq)/\W.cell? (U b (off+k*8+5))=some (p.2)/\W.cell? (U b (off+k*8+6))=some (M p.1.cost)/\W.cell? (U b (off+k*8+7))=some (.bool p.1.far)/\W.cell? (U w.heap.size 0)=some (M r.1.area)/\W.cell? (U w.heap.size 1)=some (M r.1.kind)/\W.cell? (U w.heap.size 2)=some (M r.1.owner)/\W.cell? (U w.heap.size 3)=some (M r.1.key)/\W.cell? (U w.heap.size 4)=some (M r.1.seq)/\W.cell? (U w.heap.size 5)=some (r.2)/\W.cell? (U w.heap.size 6)=some (M r.1.cost)/\W.cell? (U w.heap.size 7)=some (.bool r.1.far)) (first | go_keep | (refine ⟨?_,?_,?_,?_,?_,?_,?_,?_,?_,?_,?_,?_,?_,?_,?_,?_⟩ <;> (rw [hbc.cell (by assumption)];assumption))) (first | (go_at_call 72;refine (HK _).mono ?_;rintro e w1 ⟨rfl,hbc⟩))
    go_wp2;go_roundw
    case rel=>exact ⟨k+1,by omega,by go_num,(fun j hj y hy=>by
     by_cases e:j=k
     ·subst e;rw [HPP.out] at hy;cases hy;exact HQQ.out.symm
     ·exact HALL j (by omega) y hy),hnx.trans ((YAC _ _).drew.trans (hbc.mono hsz))⟩
    case measure=>exact MS_
   ·go_wp2
    go_region_held3 (fun W=>W.cell? (U b (off+k*8))=some (M p.1.area)/\W.cell? (U b (off+k*8+1))=some (M p.1.kind)/\W.cell? (U b (off+k*8+2))=some (M p.1.owner)/\W.cell? (U b (off+k*8+3))=some (M p.1.key)/\W.cell? (U b (off+k*8+4))=some (M p.1.seq)/\W.cell? (U b (off+k*8+5))=some (p.2)/\W.cell? (U b (off+k*8+6))=some (M p.1.cost)/\W.cell? (U b (off+k*8+7))=some (.bool p.1.far)/\W.cell? (U w.heap.size 0)=some (M r.1.area)/\W.cell? (U w.heap.size 1)=some (M r.1.kind)/\W.cell? (U w.heap.size 2)=some (M r.1.owner)/\W.cell? (U w.heap.size 3)=some (M r.1.key)/\W.cell? (U w.heap.size 4)=some (M r.1.seq)/\W.cell? (U w.heap.size 5)=some (r.2)/\W.cell? (U w.heap.size 6)=some (M r.1.cost)/\W.cell? (U w.heap.size 7)=some (.bool r.1.far)) (first | go_keep | (refine ⟨?_,?_,?_,?_,?_,?_,?_,?_,?_,?_,?_,?_,?_,?_,?_,?_⟩ <;> (rw [hbc.cell (by assumption)];assumption))) (first | (go_at_call 72;refine (HK _).mono ?_;rintro e w1 ⟨rfl,hbc⟩))
    go_wp2;go_ret;exact⟨Zc4 (by rw [Zok HPP.out HQQ.out.symm HALL.out]),BWR.trans ((YAC _ _).drew.trans (hbc.mono (show w.heap.size<=wr.heap.size by omega)))⟩
  ·have hkn:k=ps.length:=by omega
   have KN:=hide hkn;clear hkn;go_wp2;go_ret;exact⟨Zc4 (by rw [Zqc (by have h:=HALL.out;rw [KN.out] at h;simpa [fsts] using h)]),BWR⟩
theorem ZcT {P:Program}{fn:Func}{p u:Tmp}{ty:TypeId}(h:fn.results=#[.cell p ty,.tmp u])(tmps:Array Value)(w:World)(g:Nat)(t:TypeId)(cs:Array Value)(fr:Nat × Nat)(d:TypeDesc)
  (hp:tmps.getD p undef=.pointer (some (U g 0))) (hg:w.heap[g]? = some (.cells cs t fr))
  (hu:P.underlying ty=some d) (hd:(match d with | .struct _ | .array _ _=>true | _=>false)=true) (hi:(P.info? ty).map (·.size)=some cs.size):
  (results fn tmps).run P w=.ok (.tuple #[.agg cs,tmps.getD u undef]) w:=by
 have hp':tmps[p]?.getD undef=.pointer (some (U g 0)):=by simpa using hp
 rw [results_cell_tmp h];simp [hp',asAddr,run_loadVar_row w g t ty cs fr d hg hu hd hi]
def ZfE (xs:List RecD)(r:RecD):RecD:=if atZ xs r<0 then Zbf else xs.getD (atZ xs r).toNat Zbf
def Zfb (xs:List RecD)(r:RecD):Bool := !decide (atZ xs r<0)
theorem ZfF {xs:List RecD}{r:RecD}(h:atZ xs r = -1):ZfE xs r=Zbf/\Zfb xs r=false:=by unfold ZfE Zfb;rw [h];exact⟨rfl,rfl⟩
theorem Zi7 {xs:List RecD}{r y:RecD}(h:atZ xs r=(k:Int))(hy:xs[k]? = some y):ZfE xs r=y/\Zfb xs r=true:=by
 unfold ZfE Zfb;rw [h,if_neg (by omega)];exact⟨by simp [hy],by simp⟩
theorem Zii {y:RecD}(h:(fsts ps)[k]? = some y):∃ p,ps[k]? = some p/\p.1=y:=by
 simp [fsts] at h;obtain⟨v,hv⟩:=h;exact⟨(y,v),hv,rfl⟩
def togD (x y:WayD):WayD:=if Zbp x y then x else if Zbp y x then y else ⟨x.to,x.cost,addL x.hops y.hops⟩
theorem ZgE (a b:List Int):(addL a b).length<=6:=ZiJ a b 6
theorem ZpU {x y:WayD}{n:Nat}(hx:x.hops.length<=n)(hy:y.hops.length<=n)(h6:6<=n):(togD x y).hops.length<=n:=by
 unfold togD
 split
 ·exact hx
 ·split
  ·exact hy
  ·exact YAG (ZgE _ _) h6
theorem cellW3 {g b j:Nat}{x0 x1 x2:Value}(h:b≠g):(((W.setCell (U g 0) x0).setCell (U g 1) x1).setCell (U g 2) x2).cell? (U b j)=W.cell? (U b j):=by
 refine World.cell?_of_block ?_;show (((W.setCell (U g 0) x0).setCell (U g 1) x1).setCell (U g 2) x2).heap[b]? = W.heap[b]?;rw [YAU _ (U g 2) b _ h,YAU _ (U g 1) b _ h,YAU _ (U g 0) b _ h]
theorem ZmT (x y:WayD)(u1 u2:Value)(b1 b2:Nat)(w:World)(h1:w.ownsRow b1 3 1 u1 x.hops.length (flat intE x.hops))(h2:w.ownsRow b2 3 1 u2 y.hops.length (flat intE y.hops))(hx:x.hops.length<=1048576)(hy:y.hops.length<=1048576):
  Calls Tryz.prog 223 #[.agg (wayC x u1),.agg (wayC y u2)] w fun e w'=>∃ v',e=.returned (.agg (wayC (togD x y) v'))/\w'.ownsRow w.heap.size 3 1 v' (togD x y).hops.length (flat intE (togD x y).hops)/\T_ w w':=by
 obtain⟨a1,c1,rfl⟩:=Zac h1;obtain⟨a2,c2,rfl⟩:=Zac h2;have HC1:=hide (fun W (hb:T_ w W)=>ZgX x (.slice a1 x.hops.length c1) b1 W (Zad h1 hb (YA _)) hx);have HC2:=hide (fun W (hb:T_ w W)=>ZgX y (.slice a2 y.hops.length c2) b2 W (Zad h2 hb (YA _)) hy);have HB1:=hide (fun W=>ZhB (.slice a1 x.hops.length c1) (.slice a2 y.hops.length c2) x y W);have HB2:=hide (fun W=>ZhB (.slice a2 y.hops.length c2) (.slice a1 x.hops.length c1) y x W);have HAD:=hide (fun W (hb:T_ w W)=>ZbU (.slice a1 x.hops.length c1) (.slice a2 y.hops.length c2) x.hops y.hops W hx hy ((Zaw.later (Zan h1) hb (YA _)).more hb.size) ((Zaw.later (Zan h2) hb (YA _)).more hb.size));obtain⟨P,hP⟩:∃ P,P=Zbp x y:=⟨_,rfl⟩;obtain⟨Q,hQ⟩:∃ Q,Q=Zbp y x:=⟨_,rfl⟩;obtain⟨D,hD⟩:∃ D,D=togD x y:=⟨_,rfl⟩;rw [<-hP] at HB1;rw [<-hQ] at HB2;rw [<-hD];have HD:=hide hD;unfold togD at HD;rw [<-hP, <-hQ] at HD;have BW:=Zcw (w:=w) (.cells #[M x.to,M x.cost,.slice a1 x.hops.length c1] 193) (.cells #[M y.to,M y.cost,.slice a2 y.hops.length c2] 193) (.cells #[M 0,M 0,.slice none 0 0] 193);have q0:=Zlf w (.cells #[M x.to,M x.cost,.slice a1 x.hops.length c1] 193) (.cells #[M y.to,M y.cost,.slice a2 y.hops.length c2] 193) (.cells #[M 0,M 0,.slice none 0 0] 193);have q1:=Zlg w (.cells #[M x.to,M x.cost,.slice a1 x.hops.length c1] 193) (.cells #[M y.to,M y.cost,.slice a2 y.hops.length c2] 193) (.cells #[M 0,M 0,.slice none 0 0] 193);have q2:=Zlh w (.cells #[M x.to,M x.cost,.slice a1 x.hops.length c1] 193) (.cells #[M y.to,M y.cost,.slice a2 y.hops.length c2] 193) (.cells #[M 0,M 0,.slice none 0 0] 193);obtain⟨w0,hw0⟩:∃ W,W=((w.alloc (.cells #[M x.to,M x.cost,.slice a1 x.hops.length c1] 193)).alloc (.cells #[M y.to,M y.cost,.slice a2 y.hops.length c2] 193)).alloc (.cells #[M 0,M 0,.slice none 0 0] 193):=⟨_,rfl⟩;rw [<-hw0] at BW q0 q1 q2;clear h1 h2 hP hQ hD;unfold wayC at *;have fin:∀ (X:WayD) (na:Option Addr) (nc lo:Nat) (W:World),W.heap[w.heap.size+1+1]? = some (.cells #[M 0,M 0,.slice none 0 0] 193)->W.ownsRow lo 3 1 (.slice na X.hops.length nc) X.hops.length (flat intE X.hops)->w.heap.size+1+1<lo->T_ w W->(Zbb W (w.heap.size+1+1) X (.slice na X.hops.length nc)).heap[w.heap.size+1+1]? = some (.cells (wayC X (.slice na X.hops.length nc)) 193)/\(Zbb W (w.heap.size+1+1) X (.slice na X.hops.length nc)).ownsRow w.heap.size 3 1 (.slice na X.hops.length nc) X.hops.length (flat intE X.hops)/\T_ w (Zbb W (w.heap.size+1+1) X (.slice na X.hops.length nc)):=by
  intro X na nc lo W hz ho hlo hb;have G:=Za7 W (w.heap.size+1+1) X (.slice na X.hops.length nc);refine⟨ZdA X _ hz,Zaf (Zal ho (fun k hk=>G.block k (ho.lt k hk).2 (fun e=>by have:=(ho.lt k hk).1;simp at e;omega))) (by omega),hb.grown G hb.size (fun k hk=>by simp at hk;omega)⟩
 have FIN:=hide fin;clear fin;have r0:=Zaa q0 0;have r1:=Zaa q0 1;have r2:=Zaa q0 2;have s0:=Zaa q1 0;have s1:=Zaa q1 1;have s2:=Zaa q1 2;simp at r0 r1 r2 s0 s1 s2;have z0:=Zab q0;have z1:=Zab q1;have z2:=Zab q2
 go_enter Tryz.func223,Tryz.ntmps223
 go_wp2_with fail
 rw [<-hw0];clear hw0;refine (HB1 _).mono ?_;rintro e w1 ⟨rfl,e1⟩;have e1s:=e1.size;have B1:T_ w w1:=BW.trans (e1.mono BW.size);have p0:=(e1.block _ z0).trans q0;have p1:=(e1.block _ z1).trans q1;have p2:=(e1.block _ z2).trans q2;clear r0 r1 r2 s0 s1 s2 q0 q1 q2 e1;have r0:=Zaa p0 0;have r1:=Zaa p0 1;have r2:=Zaa p0 2;have s0:=Zaa p1 0;have s1:=Zaa p1 1;have s2:=Zaa p1 2;simp at r0 r1 r2 s0 s1 s2;cases P
 ·go_wp2_with fail
  refine (HB2 _).mono ?_;rintro e w2 ⟨rfl,e2⟩;have e2s:=e2.size;have B2:T_ w w2:=B1.trans (e2.mono B1.size);have k0:=(e2.block _ (Zab p0)).trans p0;have k1:=(e2.block _ (Zab p1)).trans p1;have k2:=(e2.block _ (Zab p2)).trans p2;clear r0 r1 r2 s0 s1 s2 p0 p1 p2 e2;have r0:=Zaa k0 0;have r1:=Zaa k0 1;have r2:=Zaa k0 2;have s0:=Zaa k1 0;have s1:=Zaa k1 1;have s2:=Zaa k1 2;simp at r0 r1 r2 s0 s1 s2;cases Q
  ·have hDe:D=⟨x.to,x.cost,addL x.hops y.hops⟩:=HD.out;have zz0:w.heap.size<w2.heap.size:=by omega
   have zz1:w.heap.size+1<w2.heap.size:=by omega
   have B2D:T_ w w2.drew:=B2.drew;have HAL:=hide (ZgE x.hops y.hops);have K2:=hide k2;clear k0 k1 k2;go_wp2
   go_region_held3 (fun W=>W.cell? (U w.heap.size 0)=some (M x.to)/\W.cell? (U w.heap.size 1)=some (M x.cost)/\W.cell? (U w.heap.size 2)=some (.slice a1 x.hops.length c1)/\W.cell? (U (w.heap.size+1) 2)=some (.slice a2 y.hops.length c2)) (first | (refine ⟨?_,?_,?_,?_⟩ <;> (rw [b3.cell (by assumption)];assumption)) | (refine ⟨?_,?_,?_,?_⟩ <;> (rw [cellW3 (by omega),b3.cell (by assumption)];assumption)) | go_keep) (first | (go_at_call 226;refine (HAD _ B2D).mono ?_;rintro e w3 ⟨v3,rfl,o3,b3⟩;obtain⟨na,nc,rfl⟩:=Zac o3;have k3:=(b3.block _ (show w.heap.size+1+1<w2.drew.heap.size from Zab K2)).trans K2.out;have t0:=Zaa k3 0;have t1:=Zaa k3 1;have t2:=Zaa k3 2;simp at t0 t1 t2;have ft:=Zae k3))
   have F:=FIN.out ⟨x.to,x.cost,addL x.hops y.hops⟩ na nc _ w3 k3 o3 (Zab K2) (B2D.trans (b3.mono B2D.size));subst hDe;clear k3 t0 t1 t2 ft;have FF:=hide F.1;have O5:=hide F.2.1;have B5:=hide F.2.2;clear F
   go_wp2_with fail
   (try simp only [Exit.inBlock,Exit.then])
   refine bodyPost_ret (results_cell_row rfl _ _ (w.heap.size+1+1) 193 (wayC _ _) (0,0) _ rfl FF Tryz.underlying193 rfl (by kernel_rfl)) rfl ?_;exact⟨_,rfl,O5,B5⟩
  ·have hDe:D=y:=HD.out;subst hDe
   go_wp2_with fail
   refine (HC2 _ B2).mono ?_;rintro e w3 ⟨v3,rfl,o3,b3⟩;obtain⟨na,nc,rfl⟩:=Zac o3;have k3:=(b3.block _ (Zab k2)).trans k2;have t0:=Zaa k3 0;have t1:=Zaa k3 1;have t2:=Zaa k3 2;simp at t0 t1 t2;have ft:=Zae k3;have F:=FIN.out D na nc _ w3 k3 o3 (Zab k2) (B2.trans (b3.mono B2.size));clear k0 k1 k2 k3 o3 r0 r1 r2 s0 s1 s2;have FF:=hide F.1;have O5:=hide F.2.1;have B5:=hide F.2.2;clear F
   go_wp2_with fail
   (try simp only [Exit.inBlock,Exit.then])
   refine bodyPost_ret (results_cell_row rfl _ _ (w.heap.size+1+1) 193 (wayC _ _) (0,0) _ rfl FF Tryz.underlying193 rfl (by kernel_rfl)) rfl ?_;exact⟨_,rfl,O5,B5⟩
 ·have hDe:D=x:=HD.out;subst hDe
  go_wp2_with fail
  refine (HC1 _ B1).mono ?_;rintro e w3 ⟨v3,rfl,o3,b3⟩;obtain⟨na,nc,rfl⟩:=Zac o3;have k3:=(b3.block _ (Zab p2)).trans p2;have t0:=Zaa k3 0;have t1:=Zaa k3 1;have t2:=Zaa k3 2;simp at t0 t1 t2;have ft:=Zae k3;have F:=FIN.out D na nc _ w3 k3 o3 (Zab p2) (B1.trans (b3.mono B1.size));clear p0 p1 p2 k3 o3 r0 r1 r2 s0 s1 s2;have FF:=hide F.1;have O5:=hide F.2.1;have B5:=hide F.2.2;clear F
  go_wp2_with fail
  (try simp only [Exit.inBlock,Exit.then])
  refine bodyPost_ret (results_cell_row rfl _ _ (w.heap.size+1+1) 193 (wayC _ _) (0,0) _ rfl FF Tryz.underlying193 rfl (by kernel_rfl)) rfl ?_;exact⟨_,rfl,O5,B5⟩
theorem ZaR {α:Type}{enc:α->List Value}{sz bytes:Nat}(hlen:∀ a,(enc a).length=sz)(hpos:0<sz)(hbb:bytes<=100){P:Program}(w:World){ops:Array Oper}{rest:List Oper}{o:Oper}{a:Act}{Q:Exit->Act->World->Prop}(hgd:o.guard=none)(s x:Operand)(t:TypeId)
  (ho:o.op=.call { callee:=.builtin .append,args:=#[s,x],argTypes:=#[t,t] }) (base:Nat) (e:TypeId) (ht:P.underlying t=some (.slice e)) (zv:Value) (hzv:zv.cells.size=sz)
  (hinfo:(P.info? e).map (fun i=>(i.zero,i.size,i.bytes))=some (some zv,sz,bytes))
  (v:Value) (l:List α) (y:α) (hone:∀ u∈enc y,u.oneCell'=true) (hs:a.eval s=v) (hown:w.ownsRow base e sz v l.length (flat enc l))
  (ad:Addr) (c:Nat) (hx:a.eval x=.slice (some ad) 1 c) (hnews:∀ j u,(enc y)[j]? = some u->w.cell? (ad.add j)=some u)
  (hl:l.length+1<=1000000000) (hbase:base<=w.heap.size)
  (h:∀ v' w',w'.ownsRow base e sz v' (l++[y]).length (flat enc (l++[y]))->w.grownBy w' v.ownBlock->(v'.ownBlock=v.ownBlock\/v'.ownBlock=some w.heap.size)->wpList P ops Q rest (a.put o.dst v') w'):wpList P ops Q (o::rest) a w:=by
 obtain⟨i0,hi,hz0,hz1,hz2⟩:=info_parts hinfo;refine wpList_append_own_at w hgd s x t ho base e i0 zv sz bytes ht hi hz0 hz1 hz2 hzv hpos v l.length (flat enc l) hs hown ad 1 c (enc y) hx (by rw [hlen];omega) hnews hone (by unfold maxLen;omega) ?_ hbase ?_
 ·have:(l.length+1)*bytes<=1000000000*100:=Nat.mul_le_mul hl hbb;omega
 ·intro v' w' h1 h2 _ h4;have e1:flat enc l++enc y=flat enc (l++[y]):=by rw [ZaF];simp [flat]
  rw [e1] at h1;exact h v' w' (by simpa using h1) h2 h4
theorem ZqP {l:List Int}{z y:Int}(h:l[k]? = some y)(hn:z ∉ l.take k)(hz:z≠y):z ∉ l.take (k+1):=by
 obtain⟨hk,e⟩:=YAD.1 h;rw [YAI hk,e];intro hm;rcases YAF.1 hm with h1 | h1
 ·exact hn h1
 ·exact hz (by simpa using h1)
theorem ZoS (v:Value)(l:List Int)(z:Int)(w:World)(hn:l.length<=1048576)(hv:ZaI w v l w.heap.size):
  Calls Tryz.prog 267 #[v,M z] w fun e w'=>∃ r:Int,e=.returned (M r)/\(0<=r↔z∈l)/\w=w':=by
 obtain⟨a,cap,rfl⟩:=hv.shape;have HV:=hide hv;clear hv
 go_enter Tryz.func267,Tryz.ntmps267
 go_wp2
 go_loop [8] (fun i=>∃ k:Nat,k<=l.length/\i=M k/\Hid (z ∉ l.take k)) (fun i=>l.length-(intOf i).toNat)
 case atStart=>exact ⟨0,by omega,rfl,hide (by simp)⟩
 case round=>
  obtain⟨k,hk,rfl,HNO⟩:=hrel;by_cases hlt:k<l.length
  ·obtain ⟨y,hy⟩:∃ y,l[k]? = some y:=⟨l[k],YAA hlt⟩;obtain⟨b,off,cap',hve,hbb,c0⟩:=HV.out.cell k y hy;cases hve;have hki:(0:Int)<=(k:Int):=by omega
   have hkj:(k:Int)<(l.length:Int):=by omega
   by_cases hzy:z=y
   ·have HM:=hide (show (0:Int)<=(k:Int)↔z∈l from ⟨fun _=>by rw [hzy];exact YAH hy,fun _=>by omega⟩);have hd:(z==y)=true:=by simpa using hzy
    clear hy hzy;go_wp2;go_ret;exact⟨_,rfl,HM,rfl⟩
   ·have HN:=hide (ZqP hy HNO hzy);have hd:(z==y)=false:=by simpa using hzy
    clear hy hzy;go_wp2
    go_round
    case rel=>exact ⟨k+1,by omega,by go_num,HN⟩
    case measure=>exact MS_
  ·have HM:=hide (show (0:Int) <= -1↔z∈l from ⟨fun h0=>by omega,fun hm=>by
    have h:=HNO.out;rw [YAP (by omega)] at h;exact absurd hm h⟩)
   go_wp2;go_ret;exact⟨_,rfl,HM,rfl⟩
theorem ZpA {a b:Prop} [Decidable a] [Decidable b](h:a↔b):Ending.returned (.bool (decide a))=.returned (.bool (decide b)):=by rw [decide_eq_decide.2 h]
theorem Zj1 (v:Value)(l:List Int)(z:Int)(w:World)(hn:l.length<=1048576)(hv:ZaI w v l w.heap.size):
  Calls Tryz.prog 242 #[v,M z] w fun e w'=>e=.returned (.bool (decide (z∈l)))/\w=w':=by
 obtain⟨a,cap,rfl⟩:=hv.shape;have HI:=hide (ZoS _ l z w hn hv);clear hv
 go_enter Tryz.func242,Tryz.ntmps242
 go_wp2_with fail
 refine HI.out.mono ?_;rintro e w1 ⟨r,rfl,hr,rfl⟩;have HR:=hide hr;clear hr;go_wp2;go_ret;exact⟨ZpA HR,rfl⟩
def Zdp (l:List Int):Nat->List Int
 | 0=>[]
 | k+1=>Zdp l k++(if decide ((k:Int)∈l) then [(k:Int)] else [])
theorem Zhu {l:List Int}{x:Int}:∀ {k:Nat},x∈Zdp l k↔x∈l/\0<=x/\x<(k:Int)
 | 0=>by simp [Zdp] <;> omega
 | k+1=>by
  unfold Zdp;rw [YAF,Zhu];constructor
  ·rintro (⟨h1,h2,h3⟩ | h)
   ·exact ⟨h1,h2,by omega⟩
   ·split at h
    ·rename_i h0
     have:x=(k:Int):=by simpa using h
     subst this;exact⟨by simpa using h0,by omega,by omega⟩
    ·simp at h
  ·rintro ⟨h1,h2,h3⟩;by_cases e:x=(k:Int)
   ·subst e;right;rw [if_pos (by simpa using h1)];simp
   ·exact .inl ⟨h1,h2,by omega⟩
theorem Zes (l:List Int):∀ k:Nat,(Zdp l k).length<=k
 | 0=>by simp [Zdp]
 | k+1=>by
  have:=Zes l k;unfold Zdp;rw [YAO]
  split <;> simp <;> omega
theorem ZmP (v:Value)(l:List Int)(hi:Nat)(w:World)(hn:l.length<=1048576)(hv:ZaI w v l hi)(hhi:hi<=w.heap.size):
  Calls Tryz.prog 211 #[v] w fun e w'=>∃ x,e=.returned x/\IntsOwn w' w.heap.size w'.heap.size x (Zdp l 3)/\T_ w w':=by
 obtain⟨a,cap,rfl⟩:=hv.shape;have HC:=hide (fun (z:Int) (W:World) (hb:T_ w W)=>Zj1 (.slice a l.length cap) l z W hn (Zaw.more (Zaw.later hv hb hhi) (YAG hhi hb.size)));clear hv
 go_enter Tryz.func211,Tryz.ntmps211
 go_wp2
 go_loopw [5,3] (fun i o wr=>∃ (k:Nat) (x:Value),k<=3/\i=M (k:Int)/\o=x/\wr.ownsRow w.heap.size 3 1 x (Zdp l k).length (flat intE (Zdp l k))/\T_ w wr) (fun i _ _=>4-(intOf i).toNat)
 case atStart=>exact ⟨0,_,by omega,rfl,rfl,YAX _ _ _ _,YAC _ _⟩
 case round=>
  obtain⟨k,x,hk,rfl,rfl,hown,hb⟩:=hrel;obtain⟨xa,xc,rfl⟩:=Zac hown;have hsz:=hb.size;have hrl:=Zes l k;have OW:=hide hown;clear hown;by_cases hlt:k<3
  ·have hk3:(k:Int)<3:=by omega
   obtain⟨D,hD⟩:∃ D,D=decide ((k:Int)∈l):=⟨_,rfl⟩;have HST:=hide (show Zdp l (k+1)=Zdp l k++(if D then [(k:Int)] else []) by rw [hD];rfl);have HCC:=hide (HC (k:Int) wr hb);rw [<-hD] at HCC;clear hD;obtain⟨C,hC⟩:∃ C,C=Zdp l k:=⟨_,rfl⟩;rw [<-hC] at OW HST hrl |-;clear hC
   go_wp2_with fail
   refine HCC.out.mono ?_;rintro e w1 ⟨rfl,rfl⟩;cases D
   ·have HOW:=hide (show wr.ownsRow w.heap.size 3 1 (.slice xa C.length xc) (Zdp l (k+1)).length (flat intE (Zdp l (k+1))) by rw [HST.out];simpa using OW.out);go_wp2;go_roundw
    case rel=>exact ⟨k+1,_,by omega,by go_num,rfl,HOW,hb⟩
    case measure=>exact MS_
   ·go_wp2_with (first
     | (at_builtin;refine ZaQ ZeE (by omega) (by omega) _ rfl _ _ 28 rfl w.heap.size 3 Tryz.underlying28 (M 0) rfl Tryz.info3 _ C (k:Int) (ZcM _) rfl (OW.out.alloc _) (U wr.heap.size 0) 1 rfl (Zar (cs:=intE (k:Int))) (by omega) (by simp;omega) ?_))
    intro v' w4 hown' hgrow;have B4:T_ w w4:=(hb.alloc hsz _).grown hgrow (by simp;omega) (fun j hj=>(OW.out.lt j hj).1);have O4:=hide (show w4.ownsRow w.heap.size 3 1 v' (Zdp l (k+1)).length (flat intE (Zdp l (k+1))) by rw [HST.out];simpa using hown');obtain⟨va,vc,rfl⟩:=Zac hown';clear hown' hgrow;go_wp2;go_roundw
    case rel=>exact ⟨k+1,_,by omega,by go_num,rfl,O4,B4⟩
    case measure=>exact MS_
  ·have hk3:¬(k:Int)<3:=by omega
   have hkk:k=3:=by omega
   subst hkk;have HE:=hide (IntsOwn.of OW);obtain⟨C,hC⟩:∃ C,C=Zdp l 3:=⟨_,rfl⟩;rw [<-hC] at HE |-;have HCC:=hide hC;clear hC OW;go_wp2;go_ret;exact⟨_,rfl,by rw [<-HCC.out];exact HE,hb⟩
structure SelfD where
 id:Int
 boot:Int
 net:NetD
 heard:List Int
abbrev ZlR (x:SelfD) (v1 v2 v3 v4:Value):Value:=.agg #[M x.id,M x.boot,M x.net.n,v1,v2,v3,v4]
structure SelfIn (W:World) (v1 v2 v3 v4:Value) (x:SelfD) (ps:List RP) (B:Nat):Prop where
 links:ZaV W v1 x.net.ls B
 things:ZaU W v2 x.net.ts B
 heard:ZaI W v3 x.heard B
 store:ZbG W v4 ps B
def ZrB (W:World)(v:Value)(x:SelfD)(ps:List RP)(B:Nat):Prop:=∃ v1 v2 v3 v4,v=ZlR x v1 v2 v3 v4/\ZaV W v1 x.net.ls B/\ZaU W v2 x.net.ts B/\ZaI W v3 x.heard B/\ZbG W v4 ps B
theorem ZrB.in {v:Value}{x:SelfD}(h:ZrB W v x ps B):∃ v1 v2 v3 v4,v=ZlR x v1 v2 v3 v4/\SelfIn W v1 v2 v3 v4 x ps B:=by
 obtain⟨v1,v2,v3,v4,h0,h1,h2,h3,h4⟩:=h;exact⟨v1,v2,v3,v4,h0,h1,h2,h3,h4⟩
theorem SelfIn.later {x:SelfD}{C:Nat}(h:SelfIn W v1 v2 v3 v4 x ps B)(hb:Below C W W')(hBC:B<=C):SelfIn W' v1 v2 v3 v4 x ps B:=
 ⟨Zaw.later h.links hb hBC,Zaw.later h.things hb hBC,Zaw.later h.heard hb hBC,h.store.later hb hBC⟩
theorem SelfIn.more {x:SelfD}{C:Nat}(h:SelfIn W v1 v2 v3 v4 x ps B)(hBC:B<=C):SelfIn W v1 v2 v3 v4 x ps C:=
 ⟨Zaw.more h.links hBC,Zaw.more h.things hBC,Zaw.more h.heard hBC,h.store.more hBC⟩
theorem SelfIn.then {x:SelfD}(h:SelfIn W v1 v2 v3 v4 x ps W.heap.size)(hb:T_ W W'):SelfIn W' v1 v2 v3 v4 x ps W'.heap.size:=(h.later hb (YA _)).more hb.size
structure SelfOwn (W:World) (lo hi:Nat) (v1 v2 v3 v4:Value) (x:SelfD) (ps:List RP) (m1 m2:Nat):Prop where
 o1:lo<=m1
 o2:m1<=m2
 o3:m2<=hi
 links:W.ownsRow lo 173 4 v1 x.net.ls.length (flat lkE x.net.ls)
 ltop:∀ k,v1.ownBlock=some k->k<m1
 things:W.ownsRow lo 119 4 v2 x.net.ts.length (flat thE x.net.ts)
 ttop:∀ k,v2.ownBlock=some k->k<m1
 heard:IntsOwn W m1 m2 v3 x.heard
 store:RecsOwn W m2 hi v4 ps
theorem Zeu {α:Type}{enc:α->List Value}{sz:Nat}{t:TypeId}{v:Value}{l:List α}(h:W.ownsRow lo t sz v l.length (flat enc l))(ht:∀ k,v.ownBlock=some k->k<hi):ZaL enc sz W v l hi:=by
 obtain⟨a,cap,hv,h2⟩:=Zan h;refine⟨a,cap,hv,?_⟩;rcases h2 with h0 | ⟨b,off,ha,hb1,hx⟩
 ·exact .inl h0
 ·exact .inr ⟨b,off,ha,ht b (by rw [hv,ha];rfl),hx⟩
theorem SelfOwn.in {x:SelfD}(h:SelfOwn W lo hi v1 v2 v3 v4 x ps m1 m2):SelfIn W v1 v2 v3 v4 x ps hi where
 links:=Zaw.more (Zeu h.links h.ltop) (YAG h.o2 h.o3)
 things:=Zaw.more (Zeu h.things h.ttop) (YAG h.o2 h.o3)
 heard:=Zaw.more h.heard.at h.o3
 store:=h.store.at
theorem SelfOwn.keep {x:SelfD}(h:SelfOwn W lo hi v1 v2 v3 v4 x ps m1 m2)(hk:∀ k,lo<=k->k<hi->k<W.heap.size->W'.heap[k]? = W.heap[k]?):SelfOwn W' lo hi v1 v2 v3 v4 x ps m1 m2 where
 o1:=h.o1
 o2:=h.o2
 o3:=h.o3
 links:=Zal h.links (fun k e=>by have h1:=h.links.lt k e;have h2:=h.ltop k e;have:=h.o2;have:=h.o3;exact hk k h1.1 (by omega) h1.2)
 ltop:=h.ltop
 things:=Zal h.things (fun k e=>by have h1:=h.things.lt k e;have h2:=h.ttop k e;have:=h.o2;have:=h.o3;exact hk k h1.1 (by omega) h1.2)
 ttop:=h.ttop
 heard:=h.heard.keep (fun k a b c=>by have:=h.o1;have:=h.o3;exact hk k (by omega) (by omega) c)
 store:=h.store.keep (fun k a b c=>by have:=h.o1;have:=h.o2;exact hk k (by omega) b c)
theorem SelfOwn.below {x:SelfD}(h:SelfOwn W lo hi v1 v2 v3 v4 x ps m1 m2)(hb:Below B W W')(hB:hi<=B):SelfOwn W' lo hi v1 v2 v3 v4 x ps m1 m2:=h.keep (fun k _ h2 _=>hb.block k (by omega))
theorem SelfOwn.frame {l2 h2:Nat}{x:SelfD}(h:SelfOwn W lo hi v1 v2 v3 v4 x ps m1 m2)(hb:Frame l2 h2 W W')(hB:hi<=l2\/h2<=lo):SelfOwn W' lo hi v1 v2 v3 v4 x ps m1 m2:=h.keep (fun k a b c=>hb.block k c (by omega))
theorem SelfOwn.low {lo':Nat}{x:SelfD}(h:SelfOwn W lo hi v1 v2 v3 v4 x ps m1 m2)(hl:lo'<=lo):SelfOwn W lo' hi v1 v2 v3 v4 x ps m1 m2:=
 ⟨YAG hl h.o1,h.o2,h.o3,Zaf h.links hl,h.ltop,Zaf h.things hl,h.ttop,h.heard,h.store⟩
structure SelfSrc (W:World) (hi:Nat) (v1 v2 v3 v4:Value) (x:SelfD) (ps:List RP):Prop where
 links:W.ownsRow 0 173 4 v1 x.net.ls.length (flat lkE x.net.ls)
 ltop:∀ k,v1.ownBlock=some k->k<hi
 things:W.ownsRow 0 119 4 v2 x.net.ts.length (flat thE x.net.ts)
 ttop:∀ k,v2.ownBlock=some k->k<hi
 heard:W.ownsRow 0 3 1 v3 x.heard.length (flat intE x.heard)
 htop:∀ k,v3.ownBlock=some k->k<hi
 store:RecsIn W hi v4 ps
theorem SelfOwn.src {x:SelfD}(h:SelfOwn W lo hi v1 v2 v3 v4 x ps m1 m2):SelfSrc W hi v1 v2 v3 v4 x ps where
 links:=Zaf h.links (Nat.zero_le _)
 ltop:=fun k e=>by have:=h.ltop k e;have:=h.o2;have:=h.o3;omega
 things:=Zaf h.things (Nat.zero_le _)
 ttop:=fun k e=>by have:=h.ttop k e;have:=h.o2;have:=h.o3;omega
 heard:=Zaf h.heard.row (Nat.zero_le _)
 htop:=fun k e=>by have:=h.heard.top k e;have:=h.o3;omega
 store:=h.store.in
theorem SelfSrc.below {x:SelfD}(h:SelfSrc W hi v1 v2 v3 v4 x ps)(hb:Below B W W')(hB:hi<=B):SelfSrc W' hi v1 v2 v3 v4 x ps where
 links:=Zal h.links (fun k e=>hb.block k (by have:=h.ltop k e;omega))
 ltop:=h.ltop
 things:=Zal h.things (fun k e=>hb.block k (by have:=h.ttop k e;omega))
 ttop:=h.ttop
 heard:=Zal h.heard (fun k e=>hb.block k (by have:=h.htop k e;omega))
 htop:=h.htop
 store:=h.store.below hb hB
theorem SelfSrc.in {x:SelfD}(h:SelfSrc W hi v1 v2 v3 v4 x ps):SelfIn W v1 v2 v3 v4 x ps hi where
 links:=Zeu h.links h.ltop
 things:=Zeu h.things h.ttop
 heard:=Zeu h.heard h.htop
 store:=h.store.at
theorem Zrh (cur D R:List Value)(a d:Nat)(hD:D.length=d)(hR:R.length=3)(hc:a+3+d<=cur.length):
  ((cur.take (a+3)++D++cur.drop (a+3+D.length)).take a++R++(cur.take (a+3)++D++cur.drop (a+3+D.length)).drop (a+R.length))=cur.take a++R++D++cur.drop (a+3+d):=by
 have e1:(cur.take (a+3)++D++cur.drop (a+3+D.length)).take a=cur.take a:=by
  rw [YAW,List.take_append_of_le_length (by simp;omega),List.take_take,YAR (by omega)]
 have e2:(cur.take (a+3)++D++cur.drop (a+3+D.length)).drop (a+R.length)=D++cur.drop (a+3+d):=by
  rw [hR,YAW,List.drop_append_of_le_length (by simp;omega),List.drop_of_length_le (by simp;omega),List.nil_append,hD]
 rw [e1,e2,YAW,YAW,YAW]
theorem Zih (ps:List WP)(i:Nat)(h:i<=ps.length):(flat encW ps).take (i*3)=flat encW (ps.take i):=by
 conv=>lhs;rw [<-YAa i ps,ZaF]
 have e:(flat encW (ps.take i)).length=i*3:=by rw [ZaD Zbj,YAS,YAR h]
 rw [<-e,List.take_left]
theorem Zig (ps:List WP)(i:Nat)(h:i<=ps.length):(flat encW ps).drop (i*3)=flat encW (ps.drop i):=by
 conv=>lhs;rw [<-YAa i ps,ZaF]
 have e:(flat encW (ps.take i)).length=i*3:=by rw [ZaD Zbj,YAS,YAR h]
 rw [<-e,List.drop_left]
theorem Zoz (r:WP):flat encW [r]=encW r:=by simp [flat]
theorem Zg3 (ps:List WP)(r:WP)(i:Nat):flat encW (ps.take i++[r]++ps.drop i)=flat encW (ps.take i)++encW r++flat encW (ps.drop i):=by
 rw [ZaF,ZaF,Zoz]
theorem Zjd (ps:List WP)(r:WP)(i:Nat)(h:i<=ps.length):(ps.take i++[r]++ps.drop i).length=ps.length+1:=by
 simp;omega
theorem ZfG (ps:List WP)(h:∀ p∈ps,∃ a n c,p.2=.slice a n c):∀ u∈flat encW ps,u.oneCell'=true:=by
 intro u hu;simp only [flat,YAs] at hu;obtain⟨p,hp,hu⟩:=hu;obtain⟨a,n,c,e⟩:=h p hp;obtain⟨x,v⟩:=p;simp only at e;subst e;exact Zdr x a n c u hu
theorem Tryz.infoRoute :(Tryz.prog.info? 54).map (fun i=>(i.zero,i.size,i.bytes))=some (some (.agg (rtC ZbI (.slice none 0 0))),6,64):=by kernel_rfl
def ZaO (ps:List QP):List RtD:=ps.map (·.1)
theorem Zmg {ps:List QP}{i:Nat}{p:QP}(h:ps[i]? = some p):(ZaO ps)[i]? = some p.1:=by simp [ZaO,h]
theorem Zj7 (v1 v2:Value)(ps qs:List QP)(w:World)(h1:Zd8 w v1 ps w.heap.size)(h2:Zd8 w v2 qs w.heap.size)(hn:ps.length<=1048576)(hns:∀ p∈ps,p.1.hops.length<=1048576):
  Calls Tryz.prog 45 #[v1,v2] w fun e w'=>e=.returned (.bool (decide (ZaO ps=ZaO qs)))/\T_ w w':=by
 obtain⟨a1,c1,rfl⟩:=h1.shape;obtain⟨a2,c2,rfl⟩:=h2.shape;by_cases hl:ps.length=qs.length
 ·have K1:=hide h1;have K2:=hide h2;have HLN:=hide hl;have HNS:=hide hns;rw [<-hl];clear h1 h2 hl hns
  go_enter Tryz.func45,Tryz.ntmps45
  go_wp2
  go_loopw [5] (fun i wr=>∃ k:Nat,k<=ps.length/\i=M k/\(∀ j,j<k->(ZaO ps)[j]? = (ZaO qs)[j]?)/\T_ w wr) (fun i _=>ps.length-(intOf i).toNat)
  case atStart=>exact ⟨0,by omega,rfl,by omega,YAC _ _⟩
  case round=>
   obtain⟨k,hk,rfl,hall,hnx⟩:=hrel;have HALL:=hide hall;clear hall;by_cases hlt:k<ps.length
   ·obtain ⟨p,hp⟩:∃ l,ps[k]? = some l:=⟨ps[k],YAA hlt⟩;obtain⟨r,hr⟩:∃ l,qs[k]? = some l:=⟨qs[k],YAA (by have:=HLN.out;omega)⟩;obtain⟨b1,o1,cp1,hv1,hb1,c0,c1',c2',c3',c4',c5',n1⟩:=K1.out.cells k p hp;obtain⟨b2,o2,cp2,hv2,hb2,d0,d1,d2,d3,d4,d5,n2⟩:=K2.out.cells k r hr;cases hv1;cases hv2;replace c0:=(hnx.cell hb1).trans c0;rw [<-hnx.cell (p:=(U b1 (o1+k*6+1))) hb1] at c1';rw [<-hnx.cell (p:=(U b1 (o1+k*6+2))) hb1] at c2';rw [<-hnx.cell (p:=(U b1 (o1+k*6+3))) hb1] at c3';rw [<-hnx.cell (p:=(U b1 (o1+k*6+4))) hb1] at c4';rw [<-hnx.cell (p:=(U b1 (o1+k*6+5))) hb1] at c5';replace d0:=(hnx.cell hb2).trans d0;replace d1:=(hnx.cell hb2).trans d1;replace d2:=(hnx.cell hb2).trans d2;replace d3:=(hnx.cell hb2).trans d3;replace d4:=(hnx.cell hb2).trans d4;replace d5:=(hnx.cell hb2).trans d5;have hzr:=hnx.size;have hb1':b1<wr.heap.size:=by omega
    have hb2':b2<wr.heap.size:=by omega
    have hki:(0:Int)<=(k:Int):=by omega
    have hkj:(k:Int)<(ps.length:Int):=by omega
    have hkd:T_ w wr.drew:=hnx.drew;have m1:=(Zaw.later n1 hkd (YA _)).more hkd.size;have m2:=(Zaw.later n2 hkd (YA _)).more hkd.size;have hq:=Zk9 (.agg (rtC p.1 p.2)) (.agg (rtC r.1 r.2)) p.1 r.1 wr.drew ⟨_,rfl,m1⟩ ⟨_,rfl,m2⟩ (HNS p (YAH hp));unfold rtC at hq;obtain⟨q,hqq⟩:∃ q,q=decide (p.1=r.1):=⟨_,rfl⟩;rw [<-hqq] at hq;have HQ:=hide hq;have HQQ:=hide hqq;have HX:=hide (Zmg hp);have HY:=hide (Zmg hr);clear hq hqq hp hr n1 n2 m1 m2;cases q
    ·go_wp2
     go_region_held3 (fun W=>W.cell? (U b1 (o1+k*6))=some (.bool p.1.thing)/\W.cell? (U b1 (o1+k*6+1))=some (M p.1.to)/\W.cell? (U b1 (o1+k*6+2))=some (M p.1.kind)/\W.cell? (U b1 (o1+k*6+3))=some (M p.1.cost)/\W.cell? (U b1 (o1+k*6+4))=some (M p.1.far)/\W.cell? (U b1 (o1+k*6+5))=some (p.2)/\W.cell? (U b2 (o2+k*6))=some (.bool r.1.thing)/\W.cell? (U b2 (o2+k*6+1))=some (M r.1.to)/\W.cell? (U b2 (o2+k*6+2))=some (M r.1.kind)/\W.cell? (U b2 (o2+k*6+3))=some (M r.1.cost)/\W.cell? (U b2 (o2+k*6+4))=some (M r.1.far)/\W.cell? (U b2 (o2+k*6+5))=some (r.2)) (first | go_keep | (refine ⟨?_,?_,?_,?_,?_,?_,?_,?_,?_,?_,?_,?_⟩ <;> (rw [hbc.cell (by assumption)];assumption))) (first | (go_at_call 121;refine HQ.out.mono ?_;rintro e w1 ⟨rfl,hbc⟩))
     go_wp2;go_ret;exact⟨ZbC (Zr8 HX.out HY (of_decide_eq_false HQQ.out.symm)),hnx.trans ((YAC _ _).drew.trans (hbc.mono hzr))⟩
    ·go_wp2
     go_region_held3 (fun W=>W.cell? (U b1 (o1+k*6))=some (.bool p.1.thing)/\W.cell? (U b1 (o1+k*6+1))=some (M p.1.to)/\W.cell? (U b1 (o1+k*6+2))=some (M p.1.kind)/\W.cell? (U b1 (o1+k*6+3))=some (M p.1.cost)/\W.cell? (U b1 (o1+k*6+4))=some (M p.1.far)/\W.cell? (U b1 (o1+k*6+5))=some (p.2)/\W.cell? (U b2 (o2+k*6))=some (.bool r.1.thing)/\W.cell? (U b2 (o2+k*6+1))=some (M r.1.to)/\W.cell? (U b2 (o2+k*6+2))=some (M r.1.kind)/\W.cell? (U b2 (o2+k*6+3))=some (M r.1.cost)/\W.cell? (U b2 (o2+k*6+4))=some (M r.1.far)/\W.cell? (U b2 (o2+k*6+5))=some (r.2)) (first | go_keep | (refine ⟨?_,?_,?_,?_,?_,?_,?_,?_,?_,?_,?_,?_⟩ <;> (rw [hbc.cell (by assumption)];assumption))) (first | (go_at_call 121;refine HQ.out.mono ?_;rintro e w1 ⟨rfl,hbc⟩))
     go_wp2;go_roundw
     case rel=>exact ⟨k+1,by omega,by go_num,(fun j hj=>by
      by_cases e:j=k
      ·subst e;rw [HX.out,HY.out,of_decide_eq_true HQQ.out.symm]
      ·exact HALL j (by omega)),hnx.trans ((YAC _ _).drew.trans (hbc.mono hzr))⟩
     case measure=>exact MS_
   ·have hkn:k=ps.length:=by omega
    have KN:=hide hkn;clear hkn;go_wp2;go_ret;exact⟨Zck (Zox (by simp [ZaO,HLN.out]) (by have:=HALL.out;rw [KN.out] at this;simpa [ZaO] using this)),hnx⟩
 ·clear h1 h2;have hd:((ps.length:Int) != (qs.length:Int))=true:=by simp;omega
  go_enter Tryz.func45,Tryz.ntmps45
  go_wp2;go_ret;exact⟨ZbC (fun h=>hl (by have:=congrArg List.length h;simpa [ZaO] using this)),YAC _ _⟩
end Go.Proofs.YtcnjnibnecpddaaGreat
