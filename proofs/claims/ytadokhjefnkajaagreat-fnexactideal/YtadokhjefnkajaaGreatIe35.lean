/-
  WaysI
-/
import Derived.Test.YtadokhjefnkajaaGreatIe31
namespace Go.Proofs.YtadokhjefnkajaaGreat
open Go.RowKit
set_option linter.unusedSimpArgs false
set_option linter.unusedVariables false
set_option maxRecDepth 100000
set_option maxHeartbeats 8000000
def Zcd (bp:Nat->Option Nat)(wd:Nat->WayD)(wv:Nat->Value):Nat->List WP
 | 0=>[]
 | t+1=>Zcd bp wd wv t++(match bp t with
  | some k=>[(wd k,wv k)]
  | none=>[])
theorem Zc5 {bp:Nat->Option Nat}{wd:Nat->WayD}{wv:Nat->Value}{t k:Nat}(h:bp t=some k):Zcd bp wd wv (t+1)=Zcd bp wd wv t++[(wd k,wv k)]:=by
 show Zcd bp wd wv t++(match bp t with
  | some k=>[(wd k,wv k)]
  | none=>[])=_
 rw [h]
theorem ZcC {bp:Nat->Option Nat}{wd:Nat->WayD}{wv:Nat->Value}{t:Nat}(h:bp t=none):Zcd bp wd wv (t+1)=Zcd bp wd wv t:=by
 show Zcd bp wd wv t++(match bp t with
  | some k=>[(wd k,wv k)]
  | none=>[])=_
 rw [h];simp
theorem ZeD {bp:Nat->Option Nat}{wd:Nat->WayD}{wv:Nat->Value}{p:WP}:∀ {t:Nat},p∈Zcd bp wd wv t->∃ v k,v<t/\bp v=some k/\p=(wd k,wv k)
 | 0,h=>by cases h
 | t+1,h=>by
  cases e:bp t with
  | none=>
   rw [ZcC e] at h;obtain⟨v,k,h1,h2⟩:=ZeD h;exact⟨v,k,by omega,h2⟩
  | some k=>
   rw [Zc5 e] at h
   rcases List.mem_append.1 h with h1 | h1
   ·obtain ⟨v,k,h1,h2⟩:=ZeD h1
    exact⟨v,k,by omega,h2⟩
   ·exact ⟨t,k,by omega,e,by simpa using h1⟩
theorem Ziy (bp:Nat->Option Nat)(wd:Nat->WayD)(wv:Nat->Value):∀ t,(Zcd bp wd wv t).length<=t
 | 0=>by simp [Zcd]
 | t+1=>by
  have:=Ziy bp wd wv t;cases e:bp t with
  | none=>rw [ZcC e];omega
  | some k=>rw [Zc5 e];simp;omega
theorem Zeg {bp:Nat->Option Nat}{wd:Nat->WayD}{wv:Nat->Value}(h:∀ v v' k k',v≠v'->bp v=some k->bp v'=some k'->∀ b,(wv k).ownBlock=some b->(wv k').ownBlock≠some b):∀ t,(Zcd bp wd wv t).Pairwise Zcz
 | 0=>by simp [Zcd]
 | t+1=>by
  cases e:bp t with
  | none=>rw [ZcC e];exact Zeg h t
  | some k=>
   rw [Zc5 e,List.pairwise_append];refine⟨Zeg h t,by simp,fun p hp q hq=>?_⟩
   obtain⟨v,k',hv,e2,rfl⟩:=ZeD hp;have:q=(wd k,wv k):=by simpa using hq
   subst this;intro b hb;exact h v t k' k (by omega) e2 e b hb
theorem ZgV {bp:Nat->Option Nat}{wd:Nat->WayD}{wv:Nat->Value}{c:Nat->Int}{h:Nat->List Int}(h0:bp 0=none)(hc:∀ v,cOf bp wd v=c v)(hh:∀ v,hOf bp wd v=h v)(hto:∀ v k,bp v=some k->(wd k).to=(v:Int))(hnn:∀ v k,bp v=some k->0<=(wd k).cost):∀ t,Zal (Zcd bp wd wv (t+1))=ZcJ c h t
 | 0=>by rw [ZcC h0];rfl
 | t+1=>by
  have ih:=ZgV h0 hc hh hto hnn t (wv:=wv);have e1:=hc (t+1);have e2:=hh (t+1);unfold ZcJ;cases e:bp (t+1) with
  | none=>
   rw [ZfF e] at e1;rw [ZcC e,ih,if_neg (by omega),List.append_nil]
  | some k=>
   rw [Zcq e] at e1;rw [ZdU e] at e2;have h1:=hnn (t+1) k e;have h2:=hto (t+1) k e;rw [Zc5 e,if_pos (by omega), <-ih, <-e1, <-e2, <-h2]
   simp [Zal]
theorem Zo1 (f:Nat->Value)(W:World){t:Nat}(ht:t<=6):(Instr.index 274 (.agg #[f 0,f 1,f 2,f 3,f 4,f 5,f 6]) (.int .i64 (t:Int))).run Tryz.prog W=.ok (f t) W:=by
 have h:t=0\/t=1\/t=2\/t=3\/t=4\/t=5\/t=6:=by omega
 rcases h with rfl | rfl | rfl | rfl | rfl | rfl | rfl <;> rfl
theorem Zpe (W:World)(lo z:Nat)(u:Value)(n:Nat)(q:Nat->Nat)(bp:Nat->Option Nat)(wd:Nat->WayD)(wv:Nat->Value)(s:FS W lo z u n q bp wd wv):
  Calls Tryz.prog 241 #[.pointer (some ⟨z,0,none⟩)] W fun e W'=>∃ x,e=.returned x/\WaysOwn W' lo W'.heap.size x (Zcd bp wd wv 7)/\Below lo W W':=by
 have hlo:=s.size;have lz:=Zab s.hb.box;have B0:Below W.heap.size W (W.alloc (.cells #[] 194)):=(Below.refl _ _).alloc (Nat.le_refl _) _;have O0:(W.alloc (.cells #[] 194)).ownsRow W.heap.size 194 3 (.slice (some ⟨W.heap.size,0,none⟩) 0 0) 0 (flat encW []):=World.ownsRow_lit W #[] 0 (Nat.le_refl _) (by unfold maxLen;omega) (by simp)
 obtain⟨W0,hW0⟩:∃ V,V=W.alloc (.cells #[] 194):=⟨_,rfl⟩;rw [<-hW0] at B0 O0;have bx:=s.hb.box;unfold finC at bx;have d0:=Zaa bx 0;have d1:=Zaa bx 1;have d2:=Zaa bx 2;have d3:=Zaa bx 3;have d4:=Zaa bx 4;have d5:=Zaa bx 5;have d6:=Zaa bx 6;simp at d0 d1 d2 d3 d4 d5 d6
 have FIN:=hide (fun (W':World) (x:Value) (hb:Below W.heap.size W W') (ho:W'.ownsRow W.heap.size 194 3 x (Zcd bp wd wv 7).length (flat encW (Zcd bp wd wv 7)))=>show WaysOwn W' lo W'.heap.size x (Zcd bp wd wv 7) from
  {row:=Zaj ho hlo
   top:=fun k hk=>(ho.lt k hk).2
   nears:=fun p hp=>by
    obtain⟨v,k,_,e,rfl⟩:=ZeD hp;have hr:=Zae (s.row v k e) hb (Nat.le_refl _);exact⟨hr,fun b hb=>(hr.lt b hb).2⟩
   apart:=Zeg s.apart 7 })
 have HWY:=hide (fun v k (e:bp v=some k)=>(s.way v k e).1)
 have HSL:=hide (fun v k (e:bp v=some k)=>Zac (s.row v k e))
 obtain⟨f,hf⟩:∃ f:Nat->Value,f=fun t=>ptrO (bp t):=⟨_,rfl⟩
 have HF:=hide hf;rw [show ptrO (bp 0)=f 0 by rw [hf]] at d0
 rw [show ptrO (bp 1)=f 1 by rw [hf]] at d1
 rw [show ptrO (bp 2)=f 2 by rw [hf]] at d2
 rw [show ptrO (bp 3)=f 3 by rw [hf]] at d3
 rw [show ptrO (bp 4)=f 4 by rw [hf]] at d4
 rw [show ptrO (bp 5)=f 5 by rw [hf]] at d5
 rw [show ptrO (bp 6)=f 6 by rw [hf]] at d6
 have HO0:=hide O0;clear hf s bx O0
 go_enter Tryz.func241,Tryz.ntmps241
 go_wp2
 rw [<-hW0];clear hW0 d0 d1 d2 d3 d4 d5 d6
 go_loopw [11,3] (fun i o wr=>∃ (t:Nat) (x:Value),t<=7/\i=.int .i64 (t:Int)/\o=x/\wr.ownsRow W.heap.size 194 3 x (Zcd bp wd wv t).length (flat encW (Zcd bp wd wv t))/\Below W.heap.size W wr) (fun i _ _=>8-(intOf i).toNat)
 case atStart=>exact ⟨0,_,by omega,rfl,rfl,HO0.out,B0⟩
 case round=>
  obtain⟨t,x,ht,rfl,rfl,hown,hb⟩:=hrel;clear HO0 B0;obtain⟨xa,xc,rfl⟩:=Zac hown;have hsz:=hb.size;have OW:=hide hown;have hcl:=Ziy bp wd wv t;clear hown;by_cases htl:t<7
  ·have ht6:(t:Int)<7:=by omega
   have hix:=fun V=>Zo1 f V (t:=t) (by omega)
   cases e:bp t with
   | none=>
    have hft:f t=.pointer none:=by rw [HF.out];show ptrO (bp t)=_;rw [e];rfl
    rw [hft] at hix;have HOW:=hide (show wr.ownsRow W.heap.size 194 3 (.slice xa (Zcd bp wd wv t).length xc) (Zcd bp wd wv (t+1)).length (flat encW (Zcd bp wd wv (t+1))) by rw [ZcC e];exact OW.out)
    clear e hft
    go_wp2
    go_roundw
    case rel=>exact ⟨t+1,_,by omega,by go_num,rfl,HOW.out,hb⟩
    case measure=>simp [intOf];omega
   | some k=>
    have hft:f t=.pointer (some ⟨k,0,none⟩):=by rw [HF.out];show ptrO (bp t)=_;rw [e];rfl
    rw [hft] at hix;obtain⟨ya,yc,hyv⟩:=HSL.out t k e;have hw:=HWY.out t k e;rw [hyv] at hw;obtain⟨y,hy⟩:∃ y,y=wd k:=⟨_,rfl⟩;rw [<-hy] at hw hyv;have lk:=Zab hw;have hw2:=(hb.block _ lk).trans hw;have s0:=Zaa hw2 0;have s1:=Zaa hw2 1;have s2:=Zaa hw2 2;simp [wayC] at s0 s1 s2
    have HSP:=hide (Zc5 e (wd:=wd) (wv:=wv));rw [hyv, <-hy] at HSP;obtain⟨C,hC⟩:∃ C,C=Zcd bp wd wv t:=⟨_,rfl⟩;rw [<-hC] at OW HSP hcl |-;clear e hft hw hw2 hy hyv hC
    go_wp2_with (first
     | (at_builtin;refine ZaL Zbg (by omega) (by omega) _ rfl _ _ 188 rfl W.heap.size 194 Tryz.underlying188 (.agg (wayC Zbt (.slice none 0 0))) rfl Tryz.infoWay _ C (y,.slice ya y.hops.length yc) (Zdi _ _ _ _) rfl (OW.out.alloc _) ⟨wr.heap.size,0,none⟩ 1 rfl (Zay (cs:=encW (y,.slice ya y.hops.length yc))) (by omega) (by simp;omega) ?_))
    intro v' w4 hown' hgrow;have B4:Below W.heap.size W w4:=(hb.alloc hsz _).grown hgrow (by simp;omega) (fun j hj=>(OW.out.lt j hj).1)
    have O4:=hide (show w4.ownsRow W.heap.size 194 3 v' (Zcd bp wd wv (t+1)).length (flat encW (Zcd bp wd wv (t+1))) by rw [HSP.out];simpa using hown')
    obtain⟨va,vc,rfl⟩:=Zac hown';clear hown' hgrow
    go_wp2
    go_roundw
    case rel=>exact ⟨t+1,_,by omega,by go_num,rfl,O4.out,B4⟩
    case measure=>simp [intOf];omega
  ·have ht6:¬(t:Int)<7:=by omega
   have htt:t=7:=by omega
   subst htt;have HE:=hide (FIN.out wr _ hb OW.out);have HBB:=hide (hb.mono hlo);obtain⟨C,hC⟩:∃ C,C=Zcd bp wd wv 7:=⟨_,rfl⟩;rw [<-hC] at HE |-;have HCC:=hide hC;clear hC OW FIN
   go_wp2
   go_ret
   exact⟨_,rfl,by rw [<-HCC.out];exact HE.out,HBB.out⟩
end Go.Proofs.YtadokhjefnkajaaGreat
