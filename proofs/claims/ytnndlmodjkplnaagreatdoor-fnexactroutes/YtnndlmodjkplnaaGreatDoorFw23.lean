/-
  GoOnI WayReg WaysI
-/
import Derived.Test.YtnndlmodjkplnaaGreatDoorFw22
import Derived.WalkMore
import Derived.ScopeJumps
import Derived.Test.YtnndlmodjkplnaaGreatDoorFw15
import Derived.Test.YtnndlmodjkplnaaGreatDoorFw17
import Derived.Test.YtnndlmodjkplnaaGreatDoorFw7
import Derived.Test.YtnndlmodjkplnaaGreatDoorFw14
import Derived.Test.YtnndlmodjkplnaaGreatDoorFw21
namespace Go.Proofs.YtnndlmodjkplnaaGreatDoor
open Go.RowKit
set_option linter.unusedSimpArgs false
set_option linter.unusedVariables false
set_option maxRecDepth 100000
set_option maxHeartbeats 8000000
theorem ZpD {W:World}{lo z:Nat}{L:Nat->Nat->Int}{src:Nat}(h:∃ m,GO W lo z L src m/\m<=43):∃ u n q bp wd wv F c hh,FS W lo z u n q bp wd wv/\GI F c hh n q bp wd/\Inv L src F c hh/\(∀ v,c v<=1000*(Zb8 F:Int))/\Zhf (GO W lo z L src)=7*(6-Zb8 F)+n/\7*(6-Zb8 F)+n<=43:=by
 obtain⟨m,hm,h43⟩:=h;have hle:=Zf9 hm;obtain⟨u,n,q,bp,wd,wv,F,c,hh,a1,a2,a3,a4,a5⟩:=Zkc ⟨m,hm⟩;exact⟨u,n,q,bp,wd,wv,F,c,hh,a1,a2,a3,a4,a5,by omega⟩
theorem ZjA {P:Program}{a:Act}{w:World}{Q:Exit->Act->World->Prop}{c rest:Go.Code}(l:Nat)(hf:findLabel c l=some rest)
  (pass:∀ a w,Q .normal a w->rest.wp P (Exit.jump l (fun a' w'=>Q .normal a' w'/\(0:Nat)<0) Q) a w)
  (first:c.wp P (Exit.jump l (fun a' w'=>Q .normal a' w') Q) a w):(Go.Code.scope c).wp P Q a w:=
 wp_scope_jumps l (fun a' w'=>Q .normal a' w') (fun _ _=>0) hf first pass
theorem ZoG (W:World)(lo z:Nat)(v:Value)(ps:List RP)(hi:Nat)(area:Int)(L:Nat->Nat->Int)(src:Nat)(hv:RecsIn W hi v ps)(hhi:hi<=lo)(hn:tot ps<=1048576)(hL:Links L 1000)(hLk:∀ a b:Nat,1<=a/\a<=6->1<=b/\b<=6->Zgb (fsts ps) area (a:Int) (b:Int)=L a b)(hgo:∃ m,GO W lo z L src m/\m<=43):
  Calls Tryz.prog 144 #[.pointer (some ⟨z,0,none⟩),v,.int .i64 area] W fun e W'=>e=.returned (.tuple #[])/\GEnd W' lo z L src/\Below lo W W':=by
 obtain⟨a1,c1,rfl⟩:=Zac hv.row;have HLI:=hide (fun V (hb:Below lo W V) (a b:Nat) (ha:1<=a/\a<=6) (hb':1<=b/\b<=6) (hl:lo<=V.heap.size)=>by
  have:=Zj5 (.slice a1 ps.length c1) ps hi area (a:Int) (b:Int) V (hv.below hb hhi) (Nat.le_trans hhi hl) hn;rw [hLk a b ha hb'] at this;exact this)
 have HGO:=hide hgo;have HLL:=hide hL;clear hgo hv hLk hL
 go_enter Tryz.func144,Tryz.ntmps144
 go_wp2
 go_loopw [6] (fun p wr=>(p=p)/\(∃ m,GO wr lo z L src m/\m<=43)/\Below lo W wr) (fun _ wr=>Zhf (GO wr lo z L src))
 case atStart=>exact ⟨rfl,HGO.out,Below.refl _ _⟩
 case round=>
  rename World=>wa
  clear HGO;obtain⟨_,hgo,hba⟩:=hrel;obtain⟨u,n,q,bp,wd,wv,F,c,hh,fs,gi,iv,bnd,hM,hn43⟩:=ZpD hgo;have cz:=fs.hb.cell;obtain⟨ua,uc,hu⟩:=Zac fs.hb.hq.row;rw [hu] at cz;have hlo:=fs.size;have HFS:=hide fs;have HGI:=hide gi;have HIV:=hide iv;have HBN:=hide bnd;have HM:=hide hM;clear hgo fs gi iv bnd hM;by_cases hn0:n=0
  ·subst hn0
   have HEND:=hide (show GEnd wa lo z L src from ⟨u,q,bp,wd,wv,c,hh,HFS.out,HGI.out.cc,HGI.out.hh,HGI.out.nn,HGI.out.end HIV.out⟩)
   clear hu
   go_wp2_with fail
   refine (ZhV _ _ _ _).mono ?_
   rintro e w1 ⟨rfl,rfl⟩
   go_wp2
   go_returns
   exact⟨rfl,HEND.out,hba⟩
  ·obtain ⟨m,hm⟩:∃ m,n=m+1:=⟨n-1,by omega⟩
   subst hm;have HPOP:=hide (ZjZ wa lo z m _ u q wd wv HFS.out.hb hlo (by omega) rfl HFS.out.lz HFS.out.hp)
   unfold ptrV at HPOP;have hgt:(0:Int)<((m+1:Nat):Int):=by omega
   have hAs:=fun v W=>Zlk v W
   clear hu
   go_wp2_with fail
   refine (ZhV _ _ _ _).mono ?_
   rintro e w1 ⟨rfl,rfl⟩;obtain⟨t0,kb,hto,hbp,hent⟩:=HGI.out.ent 0 (by omega)
   have ht0:1<=t0/\t0<=6:=by
    have h1:=HGI.out.cc t0;rw [Zcl hbp] at h1;have h2:=HGI.out.nn t0 kb hbp;have h3:=HIV.out.cnode t0 (by omega)
    exact h3
   go_wp2_with fail
   by_cases hst:(wd kb).cost<(wd (q 0)).cost
   ·refine ZjA 0 (rest:=?rest) ?hf ?_ ?_
    case hf=>rfl
    ·intro a w hq
     refine wp_skip ?_
     exact hq
    ·go_wp2_with fail
     refine HPOP.out.mono ?_
     rintro e w2 ⟨u',q',rfl,hip,hsh,hb',fk⟩;rw [Zf1] at hb';have fs2:=HFS.out.popped fk hb' hip;have ba2:Below lo W w2:=hba.trans fk.below;have hlo2:=fs2.size;have hw0:=HFS.out.hb.hq.way 0 (by omega)
     have hp2:=(fk.typed _ _ _ _ hw0 (by decide) (fun e=>by rw [e,HFS.out.hb.box] at hw0;simp at hw0)).trans hw0
     obtain⟨pa,pl,pk,hpv⟩:=HFS.out.hb.hq.sl 0 (by omega)
     have hk2:=(fs2.way t0 kb hbp).1;obtain⟨ba,bk,hbv⟩:=Zac (fs2.row t0 kb hbp);have kz:=fs2.known ht0;rw [hbp] at kz;unfold ptrO at kz;rw [hpv] at hp2;rw [hbv] at hk2;obtain⟨p0,hp0⟩:∃ p,p=q 0:=⟨_,rfl⟩;obtain⟨xp,hxp⟩:∃ x,x=wd (q 0):=⟨_,rfl⟩;obtain⟨xb,hxb⟩:∃ x,x=wd kb:=⟨_,rfl⟩;have HBT:=hide (fun V=>Zci (.slice ba (wd kb).hops.length bk) (.slice pa pl pk) (wd kb) (wd (q 0)) V)
     rw [<-hxp, <-hxb] at HBT;rw [<-hxp] at hp2;rw [<-hxb] at hk2;rw [<-hp0] at hp2 |-;obtain⟨bl,hbl⟩:∃ l,l=xb.hops.length:=⟨_,rfl⟩;rw [<-hbl] at hk2 HBT;have hwp:wayC xp (.slice pa pl pk)=#[.int .i64 (t0:Int),.int .i64 xp.cost,.slice pa pl pk]:=by unfold wayC;rw [hxp,hto]
     rw [hwp] at hp2 HBT;unfold wayC Zbg at HBT;unfold wayC at hk2;obtain⟨pc,hpc⟩:∃ c,c=xp.cost:=⟨_,rfl⟩;obtain⟨bt,hbt⟩:∃ c,c=xb.to:=⟨_,rfl⟩;obtain⟨bc,hbc⟩:∃ c,c=xb.cost:=⟨_,rfl⟩;rw [<-hpc] at hp2 HBT;rw [<-hbt, <-hbc] at hk2 HBT;have lp2:=Zab hp2;have lb2:=Zab hk2;have lz2:=Zab fs2.hb.box;have s1:=Zaa hp2 0;have s2:=Zaa hp2 1;have s3:=Zaa hp2 2;have s4:=Zaa hk2 0;have s5:=Zaa hk2 1;have s6:=Zaa hk2 2;simp at s1 s2 s3 s4 s5 s6
     have hti:(0:Int)<=(t0:Int):=by omega
     have htj:(t0:Int)<7:=by omega
     have FS2:=hide fs2;have HSH:=hide hsh;have HP0:=hide hp0;have HXP:=hide hxp;have HXB:=hide hxb;have HPC:=hide hpc;have HBC:=hide hbc;have HP2:=hide hp2;have HTO:=hide hto;have HBP:=hide hbp;have HEN:=hide hent;clear fs2 hsh hp0 hxp hxb hpc hbt hbc hbl hp2 hk2 hw0 fk hb' hip hpv hbv hwp hto hbp hent HPOP cz
     go_wp2
     refine wp_region_noPanic ?_
     have hS0:w2.drew.cell? ⟨z,t0,none⟩=some (.pointer (some ⟨kb,0,none⟩))/\w2.drew.cell? ⟨p0,0,none⟩=some (.int .i64 (t0:Int))/\w2.drew.cell? ⟨p0,1,none⟩=some (.int .i64 pc)/\w2.drew.cell? ⟨p0,2,none⟩=some (.slice pa pl pk)/\w2.drew.cell? ⟨kb,0,none⟩=some (.int .i64 bt)/\w2.drew.cell? ⟨kb,1,none⟩=some (.int .i64 bc)/\w2.drew.cell? ⟨kb,2,none⟩=some (.slice ba bl bk):=⟨kz,s1,s2,s3,s4,s5,s6⟩;have lz4:z<w2.drew.heap.size:=lz2;have lp4:p0<w2.drew.heap.size:=lp2;have lb4:kb<w2.drew.heap.size:=lb2;refine Zam (S:=fun W=>W.cell? ⟨z,t0,none⟩=some (.pointer (some ⟨kb,0,none⟩))/\W.cell? ⟨p0,0,none⟩=some (.int .i64 (t0:Int))/\W.cell? ⟨p0,1,none⟩=some (.int .i64 pc)/\W.cell? ⟨p0,2,none⟩=some (.slice pa pl pk)/\W.cell? ⟨kb,0,none⟩=some (.int .i64 bt)/\W.cell? ⟨kb,1,none⟩=some (.int .i64 bc)/\W.cell? ⟨kb,2,none⟩=some (.slice ba bl bk)) (by kernel_rfl) 15 rfl hS0 ?_
     intro ops hops _
     show wpAnyH Tryz.prog .any ops _ _ 15 #[false,false,false,false,false,false,false,false,false,false,false,false,false,false,false] _ w2.drew
     iterate 14
      refine Zar 15 ?_ ?_ ?_ (by rw [hops.out];kernel_rfl) ?_ ?_ (by assumption) ?_
      rotate_left 2
      ·rw [hops.out];simp only [getS,Nat.reduceSub,Nat.reduceAdd];rfl
      ·intro W hW;obtain⟨k1,k2,k3,k4,k5,k6,k7⟩:=hW;go_simp <;> with_reducible rfl
      ·exact fun _ _ _=>id
      try simp only [putS]
     refine Zao 14 (oi:=?_) ?_ (by rw [hops.out];kernel_rfl) ?_ ?_
     rotate_left 1
     ·rw [hops.out];simp only [getS];rfl
     ·rw [hops.out];kernel_rfl
     intro K hK
     go_simp
     refine (HBT.out _).mono ?_
     rintro e w5 ⟨rfl,b5⟩;have hK5:w5.cell? ⟨z,t0,none⟩=some (.pointer (some ⟨kb,0,none⟩))/\w5.cell? ⟨p0,0,none⟩=some (.int .i64 (t0:Int))/\w5.cell? ⟨p0,1,none⟩=some (.int .i64 pc)/\w5.cell? ⟨p0,2,none⟩=some (.slice pa pl pk)/\w5.cell? ⟨kb,0,none⟩=some (.int .i64 bt)/\w5.cell? ⟨kb,1,none⟩=some (.int .i64 bc)/\w5.cell? ⟨kb,2,none⟩=some (.slice ba bl bk):=by
      refine⟨?_,?_,?_,?_,?_,?_,?_⟩
      ·rw [b5.cell lz4];exact hS0.1
      ·rw [b5.cell lp4];exact hS0.2.1
      ·rw [b5.cell lp4];exact hS0.2.2.1
      ·rw [b5.cell lp4];exact hS0.2.2.2.1
      ·rw [b5.cell lb4];exact hS0.2.2.2.2.1
      ·rw [b5.cell lb4];exact hS0.2.2.2.2.2.1
      ·rw [b5.cell lb4];exact hS0.2.2.2.2.2.2
     refine hK.out _ _ hK5 (fun _=>?_)
     clear hK K
     try simp only [putS]
     refine wpAnyH_done (by rw [hops.out];kernel_rfl) ?_ _
     clear hops ops;refine NoPanic.normal ?_
     have hcc:bc<pc:=by rw [HBC.out,HPC.out,HXB.out,HXP.out];exact hst
     rw [decide_eq_true hcc];have fs5:=FS2.out.below ((bdr1 w2).trans b5);have HNX:=hide (show GO w5 lo z L src (7*(6-Zb8 F)+m) from ⟨u',m,q',bp,wd,wv,F,c,hh,fs5,HGI.out.stale HSH.out HTO.out HBP.out hst,HIV.out,HBN.out,rfl⟩)
     have B5:Below lo W w5:=ba2.trans (((bdr1 w2).trans b5).mono hlo2)
     go_wp2
     go_step3
     (try simp only [Exit.then,Exit.jump])
     refine⟨rfl,?_⟩
     go_wp2
     go_roundw
     case rel=>exact ⟨trivial,⟨_,HNX.out,by omega⟩,B5⟩
     case measure=>
      have h1:=Zf9 HNX.out;have h2:=HM.out;omega
   ·go_step3
    go_wp2_with fail
    refine HPOP.out.mono ?_
    rintro e w2 ⟨u',q',rfl,hip,hsh,hb',fk⟩;rw [Zf1] at hb';have fs2:=HFS.out.popped fk hb' hip;have ba2:Below lo W w2:=hba.trans fk.below;have hlo2:=fs2.size;have hw0:=HFS.out.hb.hq.way 0 (by omega)
    have hp2:=(fk.typed _ _ _ _ hw0 (by decide) (fun e=>by rw [e,HFS.out.hb.box] at hw0;simp at hw0)).trans hw0
    obtain⟨pa,pl,pk,hpv⟩:=HFS.out.hb.hq.sl 0 (by omega)
    have hk2:=(fs2.way t0 kb hbp).1;obtain⟨ba,bk,hbv⟩:=Zac (fs2.row t0 kb hbp);have kz:=fs2.known ht0;rw [hbp] at kz;unfold ptrO at kz;rw [hpv] at hp2;rw [hbv] at hk2;obtain⟨p0,hp0⟩:∃ p,p=q 0:=⟨_,rfl⟩;obtain⟨xp,hxp⟩:∃ x,x=wd (q 0):=⟨_,rfl⟩;obtain⟨xb,hxb⟩:∃ x,x=wd kb:=⟨_,rfl⟩;have HBT:=hide (fun V=>Zci (.slice ba (wd kb).hops.length bk) (.slice pa pl pk) (wd kb) (wd (q 0)) V)
    rw [<-hxp, <-hxb] at HBT;rw [<-hxp] at hp2;rw [<-hxb] at hk2;rw [<-hp0] at hp2 |-;obtain⟨bl,hbl⟩:∃ l,l=xb.hops.length:=⟨_,rfl⟩;rw [<-hbl] at hk2 HBT;have hwp:wayC xp (.slice pa pl pk)=#[.int .i64 (t0:Int),.int .i64 xp.cost,.slice pa pl pk]:=by unfold wayC;rw [hxp,hto]
    rw [hwp] at hp2 HBT;unfold wayC Zbg at HBT;unfold wayC at hk2;obtain⟨pc,hpc⟩:∃ c,c=xp.cost:=⟨_,rfl⟩;obtain⟨bt,hbt⟩:∃ c,c=xb.to:=⟨_,rfl⟩;obtain⟨bc,hbc⟩:∃ c,c=xb.cost:=⟨_,rfl⟩;rw [<-hpc] at hp2 HBT;rw [<-hbt, <-hbc] at hk2 HBT;have lp2:=Zab hp2;have lb2:=Zab hk2;have lz2:=Zab fs2.hb.box;have s1:=Zaa hp2 0;have s2:=Zaa hp2 1;have s3:=Zaa hp2 2;have s4:=Zaa hk2 0;have s5:=Zaa hk2 1;have s6:=Zaa hk2 2;simp at s1 s2 s3 s4 s5 s6
    have hti:(0:Int)<=(t0:Int):=by omega
    have htj:(t0:Int)<7:=by omega
    have FS2:=hide fs2;have HSH:=hide hsh;have HP0:=hide hp0;have HXP:=hide hxp;have HXB:=hide hxb;have HPC:=hide hpc;have HBC:=hide hbc;have HP2:=hide hp2;have HTO:=hide hto;have HBP:=hide hbp;have HEN:=hide hent;clear fs2 hsh hp0 hxp hxb hpc hbt hbc hbl hp2 hk2 hw0 fk hb' hip hpv hbv hwp hto hbp hent HPOP cz
    go_wp2
    refine wp_region_noPanic ?_
    have hS0:w2.drew.cell? ⟨z,t0,none⟩=some (.pointer (some ⟨kb,0,none⟩))/\w2.drew.cell? ⟨p0,0,none⟩=some (.int .i64 (t0:Int))/\w2.drew.cell? ⟨p0,1,none⟩=some (.int .i64 pc)/\w2.drew.cell? ⟨p0,2,none⟩=some (.slice pa pl pk)/\w2.drew.cell? ⟨kb,0,none⟩=some (.int .i64 bt)/\w2.drew.cell? ⟨kb,1,none⟩=some (.int .i64 bc)/\w2.drew.cell? ⟨kb,2,none⟩=some (.slice ba bl bk):=⟨kz,s1,s2,s3,s4,s5,s6⟩;have lz4:z<w2.drew.heap.size:=lz2;have lp4:p0<w2.drew.heap.size:=lp2;have lb4:kb<w2.drew.heap.size:=lb2;refine Zam (S:=fun W=>W.cell? ⟨z,t0,none⟩=some (.pointer (some ⟨kb,0,none⟩))/\W.cell? ⟨p0,0,none⟩=some (.int .i64 (t0:Int))/\W.cell? ⟨p0,1,none⟩=some (.int .i64 pc)/\W.cell? ⟨p0,2,none⟩=some (.slice pa pl pk)/\W.cell? ⟨kb,0,none⟩=some (.int .i64 bt)/\W.cell? ⟨kb,1,none⟩=some (.int .i64 bc)/\W.cell? ⟨kb,2,none⟩=some (.slice ba bl bk)) (by kernel_rfl) 15 rfl hS0 ?_
    intro ops hops _
    show wpAnyH Tryz.prog .any ops _ _ 15 #[false,false,false,false,false,false,false,false,false,false,false,false,false,false,false] _ w2.drew
    iterate 14
     refine Zar 15 ?_ ?_ ?_ (by rw [hops.out];kernel_rfl) ?_ ?_ (by assumption) ?_
     rotate_left 2
     ·rw [hops.out];simp only [getS,Nat.reduceSub,Nat.reduceAdd];rfl
     ·intro W hW;obtain⟨k1,k2,k3,k4,k5,k6,k7⟩:=hW;go_simp <;> with_reducible rfl
     ·exact fun _ _ _=>id
     try simp only [putS]
    refine Zao 14 (oi:=?_) ?_ (by rw [hops.out];kernel_rfl) ?_ ?_
    rotate_left 1
    ·rw [hops.out];simp only [getS];rfl
    ·rw [hops.out];kernel_rfl
    intro K hK
    go_simp
    refine (HBT.out _).mono ?_
    rintro e w5 ⟨rfl,b5⟩;have hK5:w5.cell? ⟨z,t0,none⟩=some (.pointer (some ⟨kb,0,none⟩))/\w5.cell? ⟨p0,0,none⟩=some (.int .i64 (t0:Int))/\w5.cell? ⟨p0,1,none⟩=some (.int .i64 pc)/\w5.cell? ⟨p0,2,none⟩=some (.slice pa pl pk)/\w5.cell? ⟨kb,0,none⟩=some (.int .i64 bt)/\w5.cell? ⟨kb,1,none⟩=some (.int .i64 bc)/\w5.cell? ⟨kb,2,none⟩=some (.slice ba bl bk):=by
     refine⟨?_,?_,?_,?_,?_,?_,?_⟩
     ·rw [b5.cell lz4];exact hS0.1
     ·rw [b5.cell lp4];exact hS0.2.1
     ·rw [b5.cell lp4];exact hS0.2.2.1
     ·rw [b5.cell lp4];exact hS0.2.2.2.1
     ·rw [b5.cell lb4];exact hS0.2.2.2.2.1
     ·rw [b5.cell lb4];exact hS0.2.2.2.2.2.1
     ·rw [b5.cell lb4];exact hS0.2.2.2.2.2.2
    refine hK.out _ _ hK5 (fun _=>?_)
    clear hK K
    try simp only [putS]
    refine wpAnyH_done (by rw [hops.out];kernel_rfl) ?_ _
    clear hops ops;refine NoPanic.normal ?_
    have hcc:¬bc<pc:=by rw [HBC.out,HPC.out,HXB.out,HXP.out];omega
    rw [decide_eq_false hcc];have fs5:=FS2.out.below ((bdr1 w2).trans b5);have B5:Below lo W w5:=ba2.trans (((bdr1 w2).trans b5).mono hlo2);obtain⟨gi5,hq0,hFt,hct,hcost,hhops,hmin⟩:=HGI.out.fresh HSH.out HFS.out.hp HTO.out HBP.out (by omega)
    have hpk:p0=kb:=by rw [HP0.out];exact hq0
    have hbp0:bp t0=some p0:=by rw [hpk];exact HBP.out
    have HGI5:=hide gi5;have HFS5:=hide fs5;have HFT:=hide hFt;have HCT:=hide hct;have HMIN:=hide hmin;have hcb:=HBN.out t0;have hcard:Zb8 F<=5:=by
     have h1:=ZdV (F:=F) (u:=t0) ht0 hFt;have h2:=ZhJ (fun v=>F v||v==t0)
     omega
    have hc5:c t0<=5000:=by omega
    have HBP0:=hide hbp0;clear gi5 fs5 hFt hct hmin hq0 hpk hbp0 hcost hhops HFS FS2 HP2 HBT hK5 hS0 kz s1 s2 s3 s4 s5 s6 HP0 HXP HXB HPC HBC HSH HTO HBP HEN hcc hst b5
    go_wp2
    go_loopw [7] (fun i wr=>∃ (t:Nat) (u:Value) (n:Nat) (q:Nat->Nat) (bp:Nat->Option Nat) (wd:Nat->WayD) (wv:Nat->Value),1<=t/\t<=7/\i=.int .i64 (t:Int)/\Hid (FS wr lo z u n q bp wd wv)/\Hid (GI (fun x=>F x||x==t0) (mixC L c t0 t) (mixH L src c hh t0 t) n q bp wd)/\Hid (bp t0=some p0)/\n+1<=m+t/\Below lo W wr) (fun i _=>8-(intOf i).toNat)
    case atStart=>exact ⟨1,_,m,q',bp,wd,wv,by omega,by omega,rfl,HFS5,hide (by rw [ZkV HLL.out,ZkX HLL.out];exact HGI5.out),HBP0,by omega,B5⟩
    case round=>
     rename World=>wr
     clear HFS5 HGI5 HBP0;obtain⟨t,u2,n2,q2,bp2,wd2,wv2,ht1,ht7,rfl,HF2,HG2,HB2,hn2,hbr⟩:=hrel;by_cases htl:t<7
     ·have ht6:(t:Int)<=6:=by omega
      have ht:1<=t/\t<=6:=by omega
      have hw:=(HF2.out.way t0 p0 HB2.out).1;have hto2:=HF2.out.to t0 p0 HB2.out;have hrow2:=HF2.out.row t0 p0 HB2.out;obtain⟨xa,xc,hxv⟩:=Zac hrow2;have hcx:(wd2 p0).cost=c t0:=by
       have h1:=HG2.out.cc t0;rw [Zcl HB2.out,Znu HCT.out] at h1;exact h1
      have hhx:(wd2 p0).hops=hh t0:=by
       have h1:=HG2.out.hh t0;rw [ZdX HB2.out,Zkg HCT.out] at h1;exact h1
      have hxl:=HF2.out.short t0 p0 HB2.out;obtain⟨x,hx⟩:∃ x,x=wd2 p0:=⟨_,rfl⟩;rw [hxv, <-hx] at hw hrow2;rw [<-hx] at hto2 hcx hhx hxl;have hwx:wayC x (.slice xa x.hops.length xc)=#[.int .i64 (t0:Int),.int .i64 x.cost,.slice xa x.hops.length xc]:=by unfold wayC;rw [hto2]
      rw [hwx] at hw;have e0:=Zaa hw 0;simp at e0
      have hlr:=HF2.out.size;have lpr:=Zab hw;have HLI2:=hide (HLI.out wr hbr t0 t ht0 ht hlr);have hl0:=HLL.out.pos t0 t;have hl1:=HLL.out.le t0 t;obtain⟨lk,hlk⟩:∃ l,l=L t0 t:=⟨_,rfl⟩;rw [<-hlk] at HLI2 hl0 hl1;have HLK:=hide hlk;have HW:=hide hw;have HROW:=hide hrow2;have HCX:=hide hcx;have HHX:=hide hhx;have HX:=hide hx;have HWX:=hide hwx;have HTO2:=hide hto2;clear hlk hw hrow2 hcx hhx hx hwx hxv hto2;by_cases hlz:lk=0
      ·subst hlz
       have HG3:=hide (Zmc (by rw [<-HLK.out];omega) HG2.out)
       go_wp2_with fail
       refine HLI2.out.mono ?_
       rintro e w6 ⟨rfl,b6⟩;have FS6:=hide (HF2.out.below b6);have B6:Below lo W w6:=hbr.trans (b6.mono hlr);clear b6
       go_wp2
       go_roundw
       case rel=>exact ⟨t+1,u2,n2,q2,bp2,wd2,wv2,by omega,by omega,by go_num,FS6,HG3,HB2,by omega,B6⟩
       case measure=>simp [intOf];omega
      ·have hlp:0<lk:=by omega
       have hlp2:lk>0:=hlp;have HY:=hide (ZoR HIV.out HCT.out HHX.out lk (t:=t))
       go_wp2_with fail
       refine HLI2.out.mono ?_
       rintro e w6 ⟨rfl,b6⟩;have fs6:=HF2.out.below b6;have B6:Below lo W w6:=hbr.trans (b6.mono hlr);have hw6:=(b6.block _ lpr).trans HW.out;have g0:=Zaa hw6 0;have g1:=Zaa hw6 1;have g2:=Zaa hw6 2;simp at g0 g1 g2
       rw [HCX.out] at g1;have hon:=Zl1 x (.slice xa x.hops.length xc) lo (t:Int) lk w6 (Zaf HROW.out b6 (Nat.le_refl _)) (by omega) (by rw [HCX.out];have:=HCT.out;omega) (by rw [HCX.out];omega)
       rw [HWX.out,HY.out,HCX.out] at hon;have HON:=hide hon;have HFS6:=hide fs6;clear hon fs6 b6 hw6
       go_wp2_with fail
       refine HON.out.mono ?_
       rintro e w7 ⟨v7,rfl,ho7,b7⟩;have fs7:=HFS6.out.below b7;have B7:Below lo W w7:=B6.trans (b7.mono HFS6.out.size);have hl67:=b7.size;have hfr:∀ v' k' b,bp2 v'=some k'->(wv2 k').ownBlock=some b->v7.ownBlock≠some b:=by
        intro v' k' b e1 e2 e3;have h1:=((HFS6.out.row v' k' e1).lt b e2).2;have h2:=(ho7.lt b e3).1;omega
       have hjl:∀ kn,bp2 t=some kn->¬c t0+lk<(wd2 kn).cost->(togI (wd2 kn) ⟨(t:Int),c t0+lk,wayL src hh t0 t⟩).hops.length<=6/\(togI (wd2 kn) ⟨(t:Int),c t0+lk,wayL src hh t0 t⟩).cost=(wd2 kn).cost/\(togI (wd2 kn) ⟨(t:Int),c t0+lk,wayL src hh t0 t⟩).to=(wd2 kn).to:=by
        intro kn e1 e2;rw [HLK.out] at e2 |-;obtain⟨j1,_,j3,j4⟩:=Znl HIV.out (by rw [<-HLK.out];exact hlp) ht HG2.out e1 e2
        exact⟨by rw [j1];exact ZnS HIV.out HLL.out HCT.out,j3,j4⟩
       have HFO:=hide (ZiM w7 lo z u2 n2 q2 bp2 wd2 wv2 t ⟨(t:Int),c t0+lk,wayL src hh t0 t⟩ v7 fs7 (by omega) ht rfl (Zah ho7 HFS6.out.size) (ZpY HIV.out ht) hfr hjl)
       obtain⟨na,nc,hv7⟩:=Zac ho7;have hkq:∀ i,i<n2->q2 i≠w7.heap.size:=fun i hi e=>by have:=Zab (fs7.hb.hq.way i hi);omega
       have hkb:∀ v,bp2 v≠some w7.heap.size:=fun v e=>by have:=Zab (fs7.way v _ e).1;omega
       have hp7:p0≠w7.heap.size:=fun e=>hkb t0 (by rw [HB2.out,e])
       have HKQ:=hide hkq;have HKB:=hide hkb;rw [hv7];rw [hv7] at HFO;clear fs7 hfr hjl ho7 b7 hkq hkb hv7
       go_wp2_with fail
       refine HFO.out.mono ?_
       rintro e w8 ⟨rfl,b8,hcs⟩;have B8:Below lo W w8:=B7.trans b8
       rcases hcs with ⟨hcase,u3,q3,fs8,hsh8⟩ | ⟨kn,vy,e1,e2,fs8⟩
       ·have HG8:=hide (Zmb HIV.out HFT.out HCT.out (by rw [<-HLK.out];exact hlp) ht HG2.out (by rw [<-HLK.out];exact hcase) HKQ.out HKB.out hsh8)
        rw [<-HLK.out] at HG8;have HFS8:=hide fs8;have HB8:=hide (show upd bp2 t (some w7.heap.size) t0=some p0 by
         rw [Zaq]
         ·exact HB2.out
         ·intro e
          subst e;have hcc:=HCT.out;have hx1:=HG2.out.cc t0;rw [Zdb] at hx1
          rcases hcase with e3 | ⟨kn,e3,e4⟩
          ·rw [HB2.out] at e3;cases e3
          ·rw [Zcl e3] at hx1
           have e5:c t0+lk<(wd2 kn).cost:=e4;omega)
        clear fs8 hsh8 hcase
        go_wp2
        go_roundw
        case rel=>exact ⟨t+1,u3,n2+1,q3,_,_,_,by omega,by omega,by go_num,HFS8,HG8,HB8,by omega,B8⟩
        case measure=>simp [intOf];omega
       ·have HG8:=hide (Zma HIV.out (by rw [<-HLK.out];exact hlp) ht HG2.out e1 (by rw [<-HLK.out];exact e2))
        rw [<-HLK.out] at HG8;have HFS8:=hide fs8;clear fs8 e1 e2
        go_wp2
        go_roundw
        case rel=>exact ⟨t+1,u2,n2,q2,bp2,_,_,by omega,by omega,by go_num,HFS8,HG8,HB2,by omega,B8⟩
        case measure=>simp [intOf];omega
     ·have ht6:¬(t:Int)<=6:=by omega
      have htt:t=7:=by omega
      subst htt;have hg9:=HG2.out;rw [ZkU HLL.out,ZkW HLL.out] at hg9;have iv9:=HIV.out.step HLL.out HFT.out HCT.out HMIN.out (fun v=>Zev HIV.out HLL.out HCT.out v)
      have hcard9:Zb8 (fun v=>F v||v==t0)=Zb8 F+1:=ZdV ht0 HFT.out
      have HNX:=hide (show GO wr lo z L src (7*(6-Zb8 (fun v=>F v||v==t0))+n2) from ⟨u2,n2,q2,bp2,wd2,wv2,_,_,_,HF2.out,hg9,iv9,fun v=>by
       rw [hcard9];have h1:=ZfA (L:=L) (u:=t0) (v:=v) HBN.out HLL.out.le;omega,rfl⟩)
      rw [hcard9] at HNX;clear hg9 iv9 hcard9
      go_wp2
      go_step3
      rw [Exit.noGoto_normal]
      go_wp2
      go_roundw
      case rel=>exact ⟨trivial,⟨_,HNX.out,by omega⟩,hbr⟩
      case measure=>
       have h1:=Zf9 HNX.out;have h2:=HM.out;omega
theorem Zdo (W:World)(o:Obj)(k:Nat)(hk:k<W.heap.size):(W.alloc o).heap[k]? = W.heap[k]? := Below.heap_alloc _ _ _ hk
theorem Ze3 {P:Program}{w:World}{o:Oper}{a:Act}{K:Act->World->Prop}{Q:Exit->Act->World->Prop}(s x:Operand)(t:TypeId)
  (ho:o.op=.call { callee:=.builtin .append,args:=#[s,x],argTypes:=#[t,t] })
  (base:Nat) (e:TypeId) (i:TypeInfo) (size:Nat) (ht:P.underlying t=some (.slice e)) (hi:P.info? e=some i)
  (v:Value) (n:Nat) (xs:List Value) (hs:a.eval s=v) (hown:w.ownsRow base e size v n xs) (hx:a.eval x=.slice none 0 0)
  (h:K (a.put o.dst v) w):o.wp P a w K Q:=by
 have hrun:=run_append_owned_none (P:=P) (w:=w) base t o.type e i size ht hi v n xs hown;unfold Oper.wp;simp [execOp,ho,resolve,invoke,builtin,hs,hx,hrun,Result.andThen]
 exact h
theorem ZgV {α:Type}{enc:α->List Value}{sz bytes:Nat}(hlen:∀ l:List α,(flat enc l).length=l.length*sz)(hpos:0<sz)(hone:∀ a,∀ u∈enc a,u.oneCell'=true)(hbb:bytes<=100){P:Program}(w:World){o:Oper}{a:Act}{K:Act->World->Prop}{Q:Exit->Act->World->Prop}(s x:Operand)(t:TypeId)
  (ho:o.op=.call { callee:=.builtin .append,args:=#[s,x],argTypes:=#[t,t] }) (base:Nat) (e:TypeId) (ht:P.underlying t=some (.slice e)) (zv:Value) (hzv:zv.cells.size=sz)
  (hinfo:(P.info? e).map (fun i=>(i.zero,i.size,i.bytes))=some (some zv,sz,bytes))
  (v:Value) (l:List α) (hs:a.eval s=v) (hown:w.ownsRow base e sz v l.length (flat enc l))
  (base2:Nat) (v2:Value) (l2:List α) (hx:a.eval x=v2) (hown2:w.ownsRow base2 e sz v2 l2.length (flat enc l2))
  (hl:l.length+l2.length<=1000000000) (hbase:base<=w.heap.size)
  (h:∀ v' w',w'.ownsRow base e sz v' (l++l2).length (flat enc (l++l2))->w.grownBy w' v.ownBlock->K (a.put o.dst v') w'):o.wp P a w K Q:=by
 obtain⟨i0,hi,hz0,hz1,hz2⟩:=info_parts hinfo
 rcases hown2.2 with ⟨e1,e2⟩ | ⟨g,cap,cur,e1,_⟩
 ·have e3:l2=[]:=List.eq_nil_of_length_eq_zero e2
  subst e3;refine Ze3 s x t ho base e i0 sz ht hi v l.length (flat enc l) hs hown (hx.trans e1) ?_
  exact h v w (by simpa using hown) (Zbb w _)
 ·refine wp_append_own w s x t ho base e i0 zv sz bytes ht hi hz0 hz1 hz2 hzv hpos v l.length (flat enc l) hs hown ⟨g,0,none⟩ l2.length cap (flat enc l2) (hx.trans e1) (hlen l2) (hown2.cells (by rw [e1];rfl)) ?_ (by unfold maxLen;omega) ?_ hbase ?_
  ·intro u hu
   simp only [flat,List.mem_flatMap] at hu
   obtain⟨b,_,hb⟩:=hu;exact hone b u hb
  ·have:(l.length+l2.length)*bytes<=1000000000*100:=Nat.mul_le_mul hl hbb
   omega
  ·intro v' w' h1 h2 _
   have e1:flat enc l++flat enc l2=flat enc (l++l2):=by rw [ZaK]
   rw [e1] at h1;exact h v' w' (by simpa using h1) h2
theorem Zfs {α:Type}{enc:α->List Value}{sz bytes:Nat}(hlen:∀ a,(enc a).length=sz)(hpos:0<sz)(y0:α)(hone:∀ u∈enc y0,u.oneCell'=true)(hbb:bytes<=100){P:Program}(w:World){o:Oper}{a:Act}{K:Act->World->Prop}{Q:Exit->Act->World->Prop}(s x:Operand)(t:TypeId)
  (ho:o.op=.call { callee:=.builtin .append,args:=#[s,x],argTypes:=#[t,t] }) (base:Nat) (e:TypeId) (ht:P.underlying t=some (.slice e)) (zv:Value) (hzv:zv.cells.size=sz)
  (hinfo:(P.info? e).map (fun i=>(i.zero,i.size,i.bytes))=some (some zv,sz,bytes))
  (v:Value) (l:List α) (hs:a.eval s=v) (hown:w.ownsRow base e sz v l.length (flat enc l))
  (ad:Addr) (c:Nat) (hx:a.eval x=.slice (some ad) 1 c) (hnews:∀ j u,(enc y0)[j]? = some u->w.cell? (ad.add j)=some u)
  (hl:l.length+1<=1000000000) (hbase:base<=w.heap.size)
  (h:∀ v' w' l',Hid (l'=l++[y0])->w'.ownsRow base e sz v' l'.length (flat enc l')->w.grownBy w' v.ownBlock->K (a.put o.dst v') w'):Oper.wp P o a w K Q:=by
 obtain⟨i0,hi,hz0,hz1,hz2⟩:=info_parts hinfo;refine wp_append_own w s x t ho base e i0 zv sz bytes ht hi hz0 hz1 hz2 hzv hpos v l.length (flat enc l) hs hown ad 1 c (enc y0) hx (by rw [hlen];omega) hnews (hone) (by unfold maxLen;omega) ?_ hbase ?_
 ·have:(l.length+1)*bytes<=1000000000*100:=Nat.mul_le_mul hl hbb
  omega
 ·intro v' w' h1 h2 _
  have e1:flat enc l++enc y0=flat enc (l++[y0]):=by rw [ZaK];simp [flat]
  rw [e1] at h1;exact h v' w' (l++[y0]) rfl (by simpa using h1) h2
def wOps:Array Oper:=#[{ dst:=some 181,op:=Go.Op.move (Go.Operand.tmp 7),type:=100,pos := "l06_way.go:102",after:=#[],guard:=none }, { dst:=some 182,op:=Go.Op.move (Go.Operand.tmp 22),type:=3,pos := "l06_way.go:102",after:=#[],guard:=none }, { dst:=some 183,op:=Go.Op.move (Go.Operand.tmp 11),type:=26,pos := "l06_way.go:102",after:=#[],guard:=none }, { dst:=some 184,op:=Go.Op.move (Go.Operand.tmp 22),type:=3,pos := "l06_way.go:102",after:=#[],guard:=none }, { dst:=some 185,op:=Go.Op.indexAddr 26 (Go.Operand.tmp 183) (Go.Operand.tmp 184),type:=0,pos := "l06_way.go:102",after:=#[{ on:=2,ground:=Go.Ground.data }, { on:=3,ground:=Go.Ground.data }],guard:=none }, { dst:=some 186,op:=Go.Op.load 3 (Go.Operand.tmp 185),type:=3,pos := "l06_way.go:102",after:=#[{ on:=4,ground:=Go.Ground.data }],guard:=none }, { dst:=some 187,op:=Go.Op.buildSlice 26 0 #[],type:=26,pos := "l06_way.go:102",after:=#[],guard:=none }, { dst:=some 188,op:=Go.Op.move (Go.Operand.tmp 12),type:=201,pos := "l06_way.go:102",after:=#[],guard:=none }, { dst:=some 189,op:=Go.Op.move (Go.Operand.tmp 22),type:=3,pos := "l06_way.go:102",after:=#[],guard:=none }, { dst:=some 190,op:=Go.Op.indexAddr 201 (Go.Operand.tmp 188) (Go.Operand.tmp 189),type:=0,pos := "l06_way.go:102",after:=#[{ on:=7,ground:=Go.Ground.data }, { on:=8,ground:=Go.Ground.data }],guard:=none }, { dst:=some 191,op:=Go.Op.load 26 (Go.Operand.tmp 190),type:=26,pos := "l06_way.go:102",after:=#[{ on:=9,ground:=Go.Ground.data }],guard:=none }, { dst:=some 192,op:=Go.Op.call { callee:=Go.Callee.builtin Go.Builtin.append,args:=#[Go.Operand.tmp 187,Go.Operand.tmp 191],argTypes:=#[26,26] },type:=26,pos := "l06_way.go:102",after:=#[{ on:=6,ground:=Go.Ground.data }, { on:=10,ground:=Go.Ground.data }],guard:=none }, { dst:=some 193,op:=Go.Op.build 104 #[(0,Go.Operand.tmp 182),(1,Go.Operand.tmp 186),(2,Go.Operand.tmp 192)],type:=104,pos := "l06_way.go:102",after:=#[{ on:=1,ground:=Go.Ground.data }, { on:=5,ground:=Go.Ground.data }, { on:=11,ground:=Go.Ground.data }],guard:=none }, { dst:=some 194,op:=Go.Op.buildSlice 100 1 #[(0,Go.Operand.tmp 193)],type:=100,pos := "l06_way.go:102",after:=#[{ on:=12,ground:=Go.Ground.data }],guard:=none }, { dst:=some 195,op:=Go.Op.call { callee:=Go.Callee.builtin Go.Builtin.append,args:=#[Go.Operand.tmp 181,Go.Operand.tmp 194],argTypes:=#[100,100] },type:=100,pos := "l06_way.go:102",after:=#[{ on:=0,ground:=Go.Ground.data }, { on:=13,ground:=Go.Ground.data }, { on:=11,ground:=Go.Ground.chain }],guard:=none }, { dst:=some 7,op:=Go.Op.assign (Go.Operand.tmp 195),type:=100,pos := "l06_way.go:102",after:=#[{ on:=14,ground:=Go.Ground.data }, { on:=14,ground:=Go.Ground.chain }, { on:=0,ground:=Go.Ground.phase }, { on:=1,ground:=Go.Ground.phase }, { on:=2,ground:=Go.Ground.phase }, { on:=3,ground:=Go.Ground.phase }, { on:=4,ground:=Go.Ground.phase }, { on:=5,ground:=Go.Ground.phase }, { on:=6,ground:=Go.Ground.phase }, { on:=7,ground:=Go.Ground.phase }, { on:=8,ground:=Go.Ground.phase }, { on:=9,ground:=Go.Ground.phase }, { on:=10,ground:=Go.Ground.phase }, { on:=11,ground:=Go.Ground.phase }, { on:=12,ground:=Go.Ground.phase }, { on:=13,ground:=Go.Ground.phase }, { on:=14,ground:=Go.Ground.phase }],guard:=none }]
theorem ZpZ (t0 t1 t2 t3 t4 t5 t6 t8 t9 t10 t13 t14 t15 t16 t17 t18 t19 t20 t21 t23 t24 t25 t26 t27 t28 t29 t30 t31 t32 t33 t34 t35 t36 t37 t38 t39 t40 t41 t42 t43 t44 t45 t46 t47 t48 t49 t50 t51 t52 t53 t54 t55 t56 t57 t58 t59 t60 t61 t62 t63 t64 t65 t66 t67 t68 t69 t70 t71 t72 t73 t74 t75 t76 t77 t78 t79 t80 t81 t82 t83 t84 t85 t86 t87 t88 t89 t90 t91 t92 t93 t94 t95 t96 t97 t98 t99 t100 t101 t102 t103 t104 t105 t106 t107 t108 t109 t110 t111 t112 t113 t114 t115 t116 t117 t118 t119 t120 t121 t122 t123 t124 t125 t126 t127 t128 t129 t130 t131 t132 t133 t134 t135 t136 t137 t138 t139 t140 t141 t142 t143 t144 t145 t146 t147 t148 t149 t150 t151 t152 t153 t154 t155 t156 t157 t158 t159 t160 t161 t162 t163 t164 t165 t166 t167 t168 t169 t170 t171 t172 t173 t174 t175 t176 t177 t178 t179 t180 t181 t182 t183 t184 t185 t186 t187 t188 t189 t190 t191 t192 t193 t194 t195 t196:Value)(W0:World)(lo b v:Nat)(cv:Int)(hl:List Int)(pv:Option Addr)(qv:Nat)(ua:Option Addr)(uc:Nat)(qs:List WP)(cb ch:Array Value)(Q:Exit->Act->World->Prop)(ops:Array Oper)(hops:Hid (ops=wOps))(hpan:∀ c a1 a2 w,Q (.panic c) a1 w->Q (.panic c) a2 w)
  (hv:v<=6) (hll:hl.length<=6) (hql:qs.length<=6) (hlo:lo<=W0.heap.size)
  (hb:W0.heap[b]? = some (.cells cb 3)) (hh:W0.heap[b+1]? = some (.cells ch 26)) (h1:W0.cell? ⟨b,v,none⟩=some (.int .i64 cv)) (h2:W0.cell? ⟨b+1,v,none⟩=some (.slice pv hl.length qv))
  (hRV:W0.ownsRow 0 3 1 (.slice pv hl.length qv) hl.length (flat intE hl)) (hWO:WaysOwn W0 lo W0.heap.size (.slice ua qs.length uc) qs)
  (hend:∀ (W4:World) (xa:Option Addr) (xc:Nat) (na:Option Addr) (nc N:Nat),WaysOwn W4 lo W4.heap.size (.slice xa (qs.length+1) xc) (qs++[(⟨(v:Int),cv,hl⟩,.slice na hl.length nc)])->(∀ k,k<W0.heap.size->some k≠(Value.slice ua qs.length uc).ownBlock->W4.heap[k]? = W0.heap[k]?)->Below lo W0 W4->Q .normal { tmps:=#[t0,t1,t2,t3,t4,t5,t6,.slice xa (qs.length+1) xc,t8,t9,t10,.slice (some ⟨b,0,none⟩) 7 7,.slice (some ⟨b+1,0,none⟩) 7 7,t13,t14,t15,t16,t17,t18,t19,t20,t21,.int .i64 (v:Int),t23,t24,t25,t26,t27,t28,t29,t30,t31,t32,t33,t34,t35,t36,t37,t38,t39,t40,t41,t42,t43,t44,t45,t46,t47,t48,t49,t50,t51,t52,t53,t54,t55,t56,t57,t58,t59,t60,t61,t62,t63,t64,t65,t66,t67,t68,t69,t70,t71,t72,t73,t74,t75,t76,t77,t78,t79,t80,t81,t82,t83,t84,t85,t86,t87,t88,t89,t90,t91,t92,t93,t94,t95,t96,t97,t98,t99,t100,t101,t102,t103,t104,t105,t106,t107,t108,t109,t110,t111,t112,t113,t114,t115,t116,t117,t118,t119,t120,t121,t122,t123,t124,t125,t126,t127,t128,t129,t130,t131,t132,t133,t134,t135,t136,t137,t138,t139,t140,t141,t142,t143,t144,t145,t146,t147,t148,t149,t150,t151,t152,t153,t154,t155,t156,t157,t158,t159,t160,t161,t162,t163,t164,t165,t166,t167,t168,t169,t170,t171,t172,t173,t174,t175,t176,t177,t178,t179,t180,.slice ua qs.length uc,.int .i64 (v:Int),.slice (some ⟨b,0,none⟩) 7 7,.int .i64 (v:Int),.pointer (some ⟨b,v,none⟩),.int .i64 cv,.slice (some ⟨W0.heap.size,0,none⟩) 0 0,.slice (some ⟨b+1,0,none⟩) 7 7,.int .i64 (v:Int),.pointer (some ⟨b+1,v,none⟩),.slice pv hl.length qv,.slice na hl.length nc,.agg #[.int .i64 (v:Int),.int .i64 cv,.slice na hl.length nc],.slice (some ⟨N,0,none⟩) 1 1,.slice xa (qs.length+1) xc,t196],defers:=[] } W4):
  wpAnyH Tryz.prog .any ops Q (fun W=>W.cell? ⟨b,v,none⟩=some (.int .i64 cv)/\W.cell? ⟨b+1,v,none⟩=some (.slice pv hl.length qv)) 16 (Array.replicate 16 false) { tmps:=#[t0,t1,t2,t3,t4,t5,t6,.slice ua qs.length uc,t8,t9,t10,.slice (some ⟨b,0,none⟩) 7 7,.slice (some ⟨b+1,0,none⟩) 7 7,t13,t14,t15,t16,t17,t18,t19,t20,t21,.int .i64 (v:Int),t23,t24,t25,t26,t27,t28,t29,t30,t31,t32,t33,t34,t35,t36,t37,t38,t39,t40,t41,t42,t43,t44,t45,t46,t47,t48,t49,t50,t51,t52,t53,t54,t55,t56,t57,t58,t59,t60,t61,t62,t63,t64,t65,t66,t67,t68,t69,t70,t71,t72,t73,t74,t75,t76,t77,t78,t79,t80,t81,t82,t83,t84,t85,t86,t87,t88,t89,t90,t91,t92,t93,t94,t95,t96,t97,t98,t99,t100,t101,t102,t103,t104,t105,t106,t107,t108,t109,t110,t111,t112,t113,t114,t115,t116,t117,t118,t119,t120,t121,t122,t123,t124,t125,t126,t127,t128,t129,t130,t131,t132,t133,t134,t135,t136,t137,t138,t139,t140,t141,t142,t143,t144,t145,t146,t147,t148,t149,t150,t151,t152,t153,t154,t155,t156,t157,t158,t159,t160,t161,t162,t163,t164,t165,t166,t167,t168,t169,t170,t171,t172,t173,t174,t175,t176,t177,t178,t179,t180,t181,t182,t183,t184,t185,t186,t187,t188,t189,t190,t191,t192,t193,t194,t195,t196],defers:=[] } W0:=by
 have hS0:W0.cell? ⟨b,v,none⟩=some (.int .i64 cv)/\W0.cell? ⟨b+1,v,none⟩=some (.slice pv hl.length qv):=⟨h1,h2⟩;have hS1:∀ W:World,(∀ k,k<W0.heap.size->W.heap[k]? = W0.heap[k]?)->W.cell? ⟨b,v,none⟩=some (.int .i64 cv)/\W.cell? ⟨b+1,v,none⟩=some (.slice pv hl.length qv):=fun W hk=>⟨(World.cell?_of_block (hk b (Zab hb))).trans h1,(World.cell?_of_block (hk (b+1) (Zab hh))).trans h2⟩
 have hvi:(0:Int)<=(v:Int):=by omega
 have hvj:(v:Int)<7:=by omega
 show wpAnyH Tryz.prog .any ops Q _ 16 #[false,false,false,false,false,false,false,false,false,false,false,false,false,false,false,false] _ W0
 refine ZaW 0 ?_ ?_ ?_ (by rw [hops.out];kernel_rfl) ?_ ?_ (by assumption) ?_
 rotate_left 2
 ·rw [hops.out];unfold wOps;simp only [getS];rfl
 ·intro W hW;obtain⟨k1,k2⟩:=hW;go_simp <;> with_reducible rfl
 ·exact fun c _ w h=>hpan c _ _ w h
 try simp only [putS]
 refine ZaW 1 ?_ ?_ ?_ (by rw [hops.out];kernel_rfl) ?_ ?_ (by assumption) ?_
 rotate_left 2
 ·rw [hops.out];unfold wOps;simp only [getS];rfl
 ·intro W hW;obtain⟨k1,k2⟩:=hW;go_simp <;> with_reducible rfl
 ·exact fun c _ w h=>hpan c _ _ w h
 try simp only [putS]
 refine ZaW 2 ?_ ?_ ?_ (by rw [hops.out];kernel_rfl) ?_ ?_ (by assumption) ?_
 rotate_left 2
 ·rw [hops.out];unfold wOps;simp only [getS];rfl
 ·intro W hW;obtain⟨k1,k2⟩:=hW;go_simp <;> with_reducible rfl
 ·exact fun c _ w h=>hpan c _ _ w h
 try simp only [putS]
 refine ZaW 3 ?_ ?_ ?_ (by rw [hops.out];kernel_rfl) ?_ ?_ (by assumption) ?_
 rotate_left 2
 ·rw [hops.out];unfold wOps;simp only [getS];rfl
 ·intro W hW;obtain⟨k1,k2⟩:=hW;go_simp <;> with_reducible rfl
 ·exact fun c _ w h=>hpan c _ _ w h
 try simp only [putS]
 refine ZaW 4 ?_ ?_ ?_ (by rw [hops.out];kernel_rfl) ?_ ?_ (by assumption) ?_
 rotate_left 2
 ·rw [hops.out];unfold wOps;simp only [getS];rfl
 ·intro W hW;obtain⟨k1,k2⟩:=hW;go_simp <;> with_reducible rfl
 ·exact fun c _ w h=>hpan c _ _ w h
 try simp only [putS]
 refine ZaW 5 ?_ ?_ ?_ (by rw [hops.out];kernel_rfl) ?_ ?_ (by assumption) ?_
 rotate_left 2
 ·rw [hops.out];unfold wOps;simp only [getS];rfl
 ·intro W hW;obtain⟨k1,k2⟩:=hW;go_simp <;> with_reducible rfl
 ·exact fun c _ w h=>hpan c _ _ w h
 try simp only [putS]
 refine ZaW 7 ?_ ?_ ?_ (by rw [hops.out];kernel_rfl) ?_ ?_ (by assumption) ?_
 rotate_left 2
 ·rw [hops.out];unfold wOps;simp only [getS];rfl
 ·intro W hW;obtain⟨k1,k2⟩:=hW;go_simp <;> with_reducible rfl
 ·exact fun c _ w h=>hpan c _ _ w h
 try simp only [putS]
 refine ZaW 8 ?_ ?_ ?_ (by rw [hops.out];kernel_rfl) ?_ ?_ (by assumption) ?_
 rotate_left 2
 ·rw [hops.out];unfold wOps;simp only [getS];rfl
 ·intro W hW;obtain⟨k1,k2⟩:=hW;go_simp <;> with_reducible rfl
 ·exact fun c _ w h=>hpan c _ _ w h
 try simp only [putS]
 refine ZaW 9 ?_ ?_ ?_ (by rw [hops.out];kernel_rfl) ?_ ?_ (by assumption) ?_
 rotate_left 2
 ·rw [hops.out];unfold wOps;simp only [getS];rfl
 ·intro W hW;obtain⟨k1,k2⟩:=hW;go_simp <;> with_reducible rfl
 ·exact fun c _ w h=>hpan c _ _ w h
 try simp only [putS]
 refine ZaW 10 ?_ ?_ ?_ (by rw [hops.out];kernel_rfl) ?_ ?_ (by assumption) ?_
 rotate_left 2
 ·rw [hops.out];unfold wOps;simp only [getS];rfl
 ·intro W hW;obtain⟨k1,k2⟩:=hW;go_simp <;> with_reducible rfl
 ·exact fun c _ w h=>hpan c _ _ w h
 try simp only [putS]
 refine Zao 6 (oi:=?_) ?_ (by rw [hops.out];kernel_rfl) ?_ ?_
 rotate_left 1
 ·rw [hops.out];unfold wOps;simp only [getS];rfl
 ·rw [hops.out];kernel_rfl
 intro K hK
 go_simp
 refine hK.out _ _ (hS1 _ (Zdo W0 _)) (fun hS=>?_)
 clear hK K
 try simp only [putS]
 refine Zao 11 (oi:=?_) ?_ (by rw [hops.out];kernel_rfl) ?_ ?_
 rotate_left 1
 ·rw [hops.out];unfold wOps;simp only [getS];rfl
 ·rw [hops.out];kernel_rfl
 intro K hK;refine ZgV Zc9 (by omega) ZcD (by omega) _ _ _ 26 rfl W0.heap.size 3 Tryz.underlying26 (.int .i64 0) rfl Tryz.info3 (.slice (some ⟨W0.heap.size,0,none⟩) 0 0) [] rfl (Zdu _ _ _ rfl (Nat.le_refl _)) 0 (.slice pv hl.length qv) hl rfl (hRV.alloc _) (by simp;omega) (by simp) ?_
 intro x W2 hox hgrow;rw [List.nil_append] at hox;obtain⟨na,nc,rfl⟩:=Zac hox;simp only [Value.ownBlock] at hgrow
 have k12:∀ k,k<W0.heap.size->W2.heap[k]? = W0.heap[k]? := fun k hk=>(hgrow.block k (by simp;omega) (by simp;omega)).trans (Zdo W0 _ k hk)
 have s12:W0.heap.size<W2.heap.size:=by have:=hgrow.size;simp at this;omega
 have B2:Below W0.heap.size W0 W2:=((Below.refl _ _).alloc (Nat.le_refl _) _).grown hgrow (by simp) (fun k hk=>by simp at hk;omega)
 refine hK.out _ _ (hS1 _ k12) (fun hS=>?_)
 clear hK K
 try simp only [putS]
 refine ZaW 12 ?_ ?_ ?_ (by rw [hops.out];kernel_rfl) ?_ ?_ (by assumption) ?_
 rotate_left 2
 ·rw [hops.out];unfold wOps;simp only [getS];rfl
 ·intro W hW;obtain⟨k1,k2⟩:=hW;go_simp <;> with_reducible rfl
 ·exact fun c _ w h=>hpan c _ _ w h
 try simp only [putS]
 refine Zao 13 (oi:=?_) ?_ (by rw [hops.out];kernel_rfl) ?_ ?_
 rotate_left 1
 ·rw [hops.out];unfold wOps;simp only [getS];rfl
 ·rw [hops.out];kernel_rfl
 intro K hK
 go_simp
 refine hK.out _ _ (hS1 _ (fun k hk=>(Zdo W2 _ k (by omega)).trans (k12 k hk))) (fun hS=>?_)
 clear hK K
 try simp only [putS]
 refine Zao 14 (oi:=?_) ?_ (by rw [hops.out];kernel_rfl) ?_ ?_
 rotate_left 1
 ·rw [hops.out];unfold wOps;simp only [getS];rfl
 ·rw [hops.out];kernel_rfl
 intro K hK;have rw3:=Zaf hWO.row (B2.alloc B2.size (.cells #[.int .i64 (v:Int),.int .i64 cv,.slice na hl.length nc] 104)) (Nat.le_refl _);refine Zfs Zba (by omega) (⟨(v:Int),cv,hl⟩,.slice na hl.length nc) (ZcU _ _ _ _) (by omega) _ _ _ 100 rfl lo 104 Tryz.underlying100 (.agg (wayC Zbi (.slice none 0 0))) rfl Tryz.infoWay (.slice ua qs.length uc) qs rfl rw3 ⟨W2.heap.size,0,none⟩ 1 rfl (Zaz (cs:=encW (⟨(v:Int),cv,hl⟩,.slice na hl.length nc))) (by omega) (by simp;omega) ?_
 intro x W4 l' hl' hox2 hgrow2;rw [hl'.out] at hox2;have ow:=hWO.push (p:=(⟨(v:Int),cv,hl⟩,.slice na hl.length nc)) (B2.alloc B2.size _) hlo ⟨hox.alloc (.cells #[.int .i64 (v:Int),.int .i64 cv,.slice na hl.length nc] 104),fun k hk=>by have:=(hox.lt k hk).2;simp;omega⟩ (by simpa using hox2) hgrow2
 have k4:∀ k,k<W0.heap.size->some k≠(Value.slice ua qs.length uc).ownBlock->W4.heap[k]? = W0.heap[k]? := fun k hk hne=>(hgrow2.block k (by simp;omega) hne).trans ((Zdo W2 _ k (by omega)).trans (k12 k hk))
 have B4:Below lo W0 W4:=((B2.alloc B2.size _).mono hlo).grown hgrow2 (by simp;omega) (fun k hk=>(hWO.row.lt k hk).1)
 rw [List.length_append,List.length_singleton] at hox2;obtain⟨xa,xc,rfl⟩:=Zac hox2;refine hK.out _ _ ⟨?_,?_⟩ (fun hS=>?_)
 ·rw [World.cell?_of_block (k4 b (Zab hb) (Zap hWO.row hb (by decide)))];exact h1
 ·rw [World.cell?_of_block (k4 (b+1) (Zab hh) (Zap hWO.row hh (by decide)))];exact h2
 clear hK K
 try simp only [putS]
 refine ZaW 15 ?_ ?_ ?_ (by rw [hops.out];kernel_rfl) ?_ ?_ (by assumption) ?_
 rotate_left 2
 ·rw [hops.out];unfold wOps;simp only [getS];rfl
 ·intro W hW;obtain⟨k1,k2⟩:=hW;go_simp <;> with_reducible rfl
 ·exact fun c _ w h=>hpan c _ _ w h
 try simp only [putS]
 refine wpAnyH_done (by rw [hops.out];kernel_rfl) ?_ _
 exact hend _ xa xc na nc W2.heap.size ow k4 B4
def Zcg (bp:Nat->Option Nat)(wd:Nat->WayD)(wv:Nat->Value):Nat->List WP
 | 0=>[]
 | t+1=>Zcg bp wd wv t++(match bp t with
  | some k=>[(wd k,wv k)]
  | none=>[])
theorem Zc7 {bp:Nat->Option Nat}{wd:Nat->WayD}{wv:Nat->Value}{t k:Nat}(h:bp t=some k):Zcg bp wd wv (t+1)=Zcg bp wd wv t++[(wd k,wv k)]:=by
 show Zcg bp wd wv t++(match bp t with
  | some k=>[(wd k,wv k)]
  | none=>[])=_
 rw [h]
theorem ZcH {bp:Nat->Option Nat}{wd:Nat->WayD}{wv:Nat->Value}{t:Nat}(h:bp t=none):Zcg bp wd wv (t+1)=Zcg bp wd wv t:=by
 show Zcg bp wd wv t++(match bp t with
  | some k=>[(wd k,wv k)]
  | none=>[])=_
 rw [h];simp
theorem ZeD {bp:Nat->Option Nat}{wd:Nat->WayD}{wv:Nat->Value}{p:WP}:∀ {t:Nat},p∈Zcg bp wd wv t->∃ v k,v<t/\bp v=some k/\p=(wd k,wv k)
 | 0,h=>by cases h
 | t+1,h=>by
  cases e:bp t with
  | none=>
   rw [ZcH e] at h;obtain⟨v,k,h1,h2⟩:=ZeD h;exact⟨v,k,by omega,h2⟩
  | some k=>
   rw [Zc7 e] at h
   rcases List.mem_append.1 h with h1 | h1
   ·obtain ⟨v,k,h1,h2⟩:=ZeD h1
    exact⟨v,k,by omega,h2⟩
   ·exact ⟨t,k,by omega,e,by simpa using h1⟩
theorem ZiA (bp:Nat->Option Nat)(wd:Nat->WayD)(wv:Nat->Value):∀ t,(Zcg bp wd wv t).length<=t
 | 0=>by simp [Zcg]
 | t+1=>by
  have:=ZiA bp wd wv t;cases e:bp t with
  | none=>rw [ZcH e];omega
  | some k=>rw [Zc7 e];simp;omega
theorem Zej {bp:Nat->Option Nat}{wd:Nat->WayD}{wv:Nat->Value}(h:∀ v v' k k',v≠v'->bp v=some k->bp v'=some k'->∀ b,(wv k).ownBlock=some b->(wv k').ownBlock≠some b):∀ t,(Zcg bp wd wv t).Pairwise Zcz
 | 0=>by simp [Zcg]
 | t+1=>by
  cases e:bp t with
  | none=>rw [ZcH e];exact Zej h t
  | some k=>
   rw [Zc7 e,List.pairwise_append];refine⟨Zej h t,by simp,fun p hp q hq=>?_⟩
   obtain⟨v,k',hv,e2,rfl⟩:=ZeD hp;have:q=(wd k,wv k):=by simpa using hq
   subst this;intro b hb;exact h v t k' k (by omega) e2 e b hb
theorem ZgZ {bp:Nat->Option Nat}{wd:Nat->WayD}{wv:Nat->Value}{c:Nat->Int}{h:Nat->List Int}(h0:bp 0=none)(hc:∀ v,cOf bp wd v=c v)(hh:∀ v,hOf bp wd v=h v)(hto:∀ v k,bp v=some k->(wd k).to=(v:Int))(hnn:∀ v k,bp v=some k->0<=(wd k).cost):∀ t,Zak (Zcg bp wd wv (t+1))=ZcM c h t
 | 0=>by rw [ZcH h0];rfl
 | t+1=>by
  have ih:=ZgZ h0 hc hh hto hnn t (wv:=wv);have e1:=hc (t+1);have e2:=hh (t+1);unfold ZcM;cases e:bp (t+1) with
  | none=>
   rw [ZfJ e] at e1;rw [ZcH e,ih,if_neg (by omega),List.append_nil]
  | some k=>
   rw [Zcl e] at e1;rw [ZdX e] at e2;have h1:=hnn (t+1) k e;have h2:=hto (t+1) k e;rw [Zc7 e,if_pos (by omega), <-ih, <-e1, <-e2, <-h2]
   simp [Zak]
theorem Zo9 (f:Nat->Value)(W:World){t:Nat}(ht:t<=6):(Instr.index 209 (.agg #[f 0,f 1,f 2,f 3,f 4,f 5,f 6]) (.int .i64 (t:Int))).run Tryz.prog W=.ok (f t) W:=by
 have h:t=0\/t=1\/t=2\/t=3\/t=4\/t=5\/t=6:=by omega
 rcases h with rfl | rfl | rfl | rfl | rfl | rfl | rfl <;> rfl
theorem Zpm (W:World)(lo z:Nat)(u:Value)(n:Nat)(q:Nat->Nat)(bp:Nat->Option Nat)(wd:Nat->WayD)(wv:Nat->Value)(s:FS W lo z u n q bp wd wv):
  Calls Tryz.prog 145 #[.pointer (some ⟨z,0,none⟩)] W fun e W'=>∃ x,e=.returned x/\WaysOwn W' lo W'.heap.size x (Zcg bp wd wv 7)/\Below lo W W':=by
 have hlo:=s.size;have lz:=Zab s.hb.box;have B0:Below W.heap.size W (W.alloc (.cells #[] 104)):=(Below.refl _ _).alloc (Nat.le_refl _) _;have O0:(W.alloc (.cells #[] 104)).ownsRow W.heap.size 104 3 (.slice (some ⟨W.heap.size,0,none⟩) 0 0) 0 (flat encW []):=World.ownsRow_lit W #[] 0 (Nat.le_refl _) (by unfold maxLen;omega) (by simp)
 obtain⟨W0,hW0⟩:∃ V,V=W.alloc (.cells #[] 104):=⟨_,rfl⟩;rw [<-hW0] at B0 O0;have bx:=s.hb.box;unfold finC at bx;have d0:=Zaa bx 0;have d1:=Zaa bx 1;have d2:=Zaa bx 2;have d3:=Zaa bx 3;have d4:=Zaa bx 4;have d5:=Zaa bx 5;have d6:=Zaa bx 6;simp at d0 d1 d2 d3 d4 d5 d6
 have FIN:=hide (fun (W':World) (x:Value) (hb:Below W.heap.size W W') (ho:W'.ownsRow W.heap.size 104 3 x (Zcg bp wd wv 7).length (flat encW (Zcg bp wd wv 7)))=>show WaysOwn W' lo W'.heap.size x (Zcg bp wd wv 7) from
  {row:=Zah ho hlo
   top:=fun k hk=>(ho.lt k hk).2
   nears:=fun p hp=>by
    obtain⟨v,k,_,e,rfl⟩:=ZeD hp;have hr:=Zaf (s.row v k e) hb (Nat.le_refl _);exact⟨hr,fun b hb=>(hr.lt b hb).2⟩
   apart:=Zej s.apart 7 })
 have HWY:=hide (fun v k (e:bp v=some k)=>(s.way v k e).1)
 have HSL:=hide (fun v k (e:bp v=some k)=>Zac (s.row v k e))
 obtain⟨f,hf⟩:∃ f:Nat->Value,f=fun t=>ptrO (bp t):=⟨_,rfl⟩
 have HF:=hide hf;rw [show ptrO (bp 0)=f 0 by rw [hf]] at d0
 rw [show ptrO (bp 1)=f 1 by rw [hf]] at d1
 rw [show ptrO (bp 2)=f 2 by rw [hf]] at d2
 rw [show ptrO (bp 3)=f 3 by rw [hf]] at d3
 rw [show ptrO (bp 4)=f 4 by rw [hf]] at d4
 rw [show ptrO (bp 5)=f 5 by rw [hf]] at d5
 rw [show ptrO (bp 6)=f 6 by rw [hf]] at d6
 have HO0:=hide O0;clear hf s bx O0
 go_enter Tryz.func145,Tryz.ntmps145
 go_wp2
 rw [<-hW0];clear hW0 d0 d1 d2 d3 d4 d5 d6
 go_loopw [11,3] (fun i o wr=>∃ (t:Nat) (x:Value),t<=7/\i=.int .i64 (t:Int)/\o=x/\wr.ownsRow W.heap.size 104 3 x (Zcg bp wd wv t).length (flat encW (Zcg bp wd wv t))/\Below W.heap.size W wr) (fun i _ _=>8-(intOf i).toNat)
 case atStart=>exact ⟨0,_,by omega,rfl,rfl,HO0.out,B0⟩
 case round=>
  obtain⟨t,x,ht,rfl,rfl,hown,hb⟩:=hrel;clear HO0 B0;obtain⟨xa,xc,rfl⟩:=Zac hown;have hsz:=hb.size;have OW:=hide hown;have hcl:=ZiA bp wd wv t;clear hown;by_cases htl:t<7
  ·have ht6:(t:Int)<7:=by omega
   have hix:=fun V=>Zo9 f V (t:=t) (by omega)
   cases e:bp t with
   | none=>
    have hft:f t=.pointer none:=by rw [HF.out];show ptrO (bp t)=_;rw [e];rfl
    rw [hft] at hix;have HOW:=hide (show wr.ownsRow W.heap.size 104 3 (.slice xa (Zcg bp wd wv t).length xc) (Zcg bp wd wv (t+1)).length (flat encW (Zcg bp wd wv (t+1))) by rw [ZcH e];exact OW.out)
    clear e hft
    go_wp2
    go_roundw
    case rel=>exact ⟨t+1,_,by omega,by go_num,rfl,HOW.out,hb⟩
    case measure=>simp [intOf];omega
   | some k=>
    have hft:f t=.pointer (some ⟨k,0,none⟩):=by rw [HF.out];show ptrO (bp t)=_;rw [e];rfl
    rw [hft] at hix;obtain⟨ya,yc,hyv⟩:=HSL.out t k e;have hw:=HWY.out t k e;rw [hyv] at hw;obtain⟨y,hy⟩:∃ y,y=wd k:=⟨_,rfl⟩;rw [<-hy] at hw hyv;have lk:=Zab hw;have hw2:=(hb.block _ lk).trans hw;have s0:=Zaa hw2 0;have s1:=Zaa hw2 1;have s2:=Zaa hw2 2;simp [wayC] at s0 s1 s2
    have HSP:=hide (Zc7 e (wd:=wd) (wv:=wv));rw [hyv, <-hy] at HSP;obtain⟨C,hC⟩:∃ C,C=Zcg bp wd wv t:=⟨_,rfl⟩;rw [<-hC] at OW HSP hcl |-;clear e hft hw hw2 hy hyv hC
    go_wp2_with (first
     | (at_builtin;refine ZbT Zba (by omega) (by omega) _ rfl _ _ 100 rfl W.heap.size 104 Tryz.underlying100 (.agg (wayC Zbi (.slice none 0 0))) rfl Tryz.infoWay _ C (y,.slice ya y.hops.length yc) (ZcU _ _ _ _) rfl (OW.out.alloc _) ⟨wr.heap.size,0,none⟩ 1 rfl (Zaz (cs:=encW (y,.slice ya y.hops.length yc))) (by omega) (by simp;omega) ?_))
    intro v' w4 hown' hgrow;have B4:Below W.heap.size W w4:=(hb.alloc hsz _).grown hgrow (by simp;omega) (fun j hj=>(OW.out.lt j hj).1)
    have O4:=hide (show w4.ownsRow W.heap.size 104 3 v' (Zcg bp wd wv (t+1)).length (flat encW (Zcg bp wd wv (t+1))) by rw [HSP.out];simpa using hown')
    obtain⟨va,vc,rfl⟩:=Zac hown';clear hown' hgrow
    go_wp2
    go_roundw
    case rel=>exact ⟨t+1,_,by omega,by go_num,rfl,O4.out,B4⟩
    case measure=>simp [intOf];omega
  ·have ht6:¬(t:Int)<7:=by omega
   have htt:t=7:=by omega
   subst htt;have HE:=hide (FIN.out wr _ hb OW.out);have HBB:=hide (hb.mono hlo);obtain⟨C,hC⟩:∃ C,C=Zcg bp wd wv 7:=⟨_,rfl⟩;rw [<-hC] at HE |-;have HCC:=hide hC;clear hC OW FIN
   go_wp2
   go_ret
   exact⟨_,rfl,by rw [<-HCC.out];exact HE.out,HBB.out⟩
end Go.Proofs.YtnndlmodjkplnaaGreatDoor
