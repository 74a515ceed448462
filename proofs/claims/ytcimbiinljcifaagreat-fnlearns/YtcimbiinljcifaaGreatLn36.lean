/-
  SfDag
-/
import Derived.Test.YtcimbiinljcifaaGreatLn21
import Derived.Test.YtcimbiinljcifaaGreatLn35
import Derived.Test.YtcimbiinljcifaaGreatLn15
import Derived.Test.YtcimbiinljcifaaGreatLn3
namespace Go.Proofs.YtcimbiinljcifaaGreat
open Go.RowKit
set_option linter.unusedSimpArgs false
set_option linter.unusedVariables false
set_option maxRecDepth 100000
set_option maxHeartbeats 8000000
def Zfw:Array Oper:=#[{ dst:=some 111,op:=Go.Op.fieldAddr 31 (Go.Operand.tmp 3) 4,type:=0,pos := "l08_tell.go:180",after:=#[],guard:=none }, { dst:=some 112,op:=Go.Op.load 29 (Go.Operand.tmp 111),type:=29,pos := "l08_tell.go:180",after:=#[{ on:=0,ground:=Go.Ground.data }],guard:=none }, { dst:=some 113,op:=Go.Op.move (Go.Operand.tmp 0),type:=59,pos := "l08_tell.go:180",after:=#[],guard:=none }, { dst:=some 114,op:=Go.Op.call { callee:=Go.Callee.value (Go.Operand.func 27),args:=#[Go.Operand.tmp 113],argTypes:=#[59] },type:=40,pos := "l08_tell.go:180",after:=#[{ on:=2,ground:=Go.Ground.data }],guard:=none }, { dst:=some 115,op:=Go.Op.call { callee:=Go.Callee.value (Go.Operand.func 32),args:=#[Go.Operand.tmp 112,Go.Operand.tmp 114],argTypes:=#[29,40] },type:=67,pos := "l08_tell.go:180",after:=#[{ on:=1,ground:=Go.Ground.data }, { on:=3,ground:=Go.Ground.data }, { on:=3,ground:=Go.Ground.chain }],guard:=none }, { dst:=some 110,op:=Go.Op.move (Go.Operand.tmp 115),type:=67,pos := "l08_tell.go:180",after:=#[{ on:=4,ground:=Go.Ground.data }],guard:=none }, { dst:=some 116,op:=Go.Op.extract (Go.Operand.tmp 110) 0,type:=29,pos := "l08_tell.go:180",after:=#[{ on:=5,ground:=Go.Ground.data }],guard:=none }, { dst:=some 117,op:=Go.Op.extract (Go.Operand.tmp 110) 1,type:=4,pos := "l08_tell.go:180",after:=#[{ on:=5,ground:=Go.Ground.data }, { on:=9,ground:=Go.Ground.gcOnly Go.Departure.lateStores }],guard:=none }, { dst:=some 118,op:=Go.Op.fieldAddr 31 (Go.Operand.tmp 3) 4,type:=0,pos := "l08_tell.go:180",after:=#[{ on:=0,ground:=Go.Ground.phase }, { on:=1,ground:=Go.Ground.phase }, { on:=2,ground:=Go.Ground.phase }, { on:=3,ground:=Go.Ground.phase }, { on:=4,ground:=Go.Ground.phase }, { on:=5,ground:=Go.Ground.phase }, { on:=6,ground:=Go.Ground.phase }, { on:=7,ground:=Go.Ground.textOnly Go.Departure.lateStores }],guard:=none }, { dst:=none,op:=Go.Op.store 29 (Go.Operand.tmp 118) (Go.Operand.tmp 116),type:=0,pos := "l08_tell.go:180",after:=#[{ on:=8,ground:=Go.Ground.data }, { on:=6,ground:=Go.Ground.data }, { on:=4,ground:=Go.Ground.chain }, { on:=0,ground:=Go.Ground.phase }, { on:=1,ground:=Go.Ground.phase }, { on:=2,ground:=Go.Ground.phase }, { on:=3,ground:=Go.Ground.phase }, { on:=4,ground:=Go.Ground.phase }, { on:=5,ground:=Go.Ground.phase }, { on:=6,ground:=Go.Ground.phase }, { on:=7,ground:=Go.Ground.textOnly Go.Departure.lateStores }],guard:=none }]
theorem Zl4 {t1 t2 t4 t5 t6 t7 t8 t9 t10 t11 t12 t13 t14 t15 t16 t17 t18 t19 t20 t21 t22 t23 t24 t25 t26 t27 t28 t29 t30 t31 t32 t33 t34 t35 t36 t37 t38 t39 t40 t41 t42 t43 t44 t45 t46 t47 t48 t49 t50 t51 t52 t53 t54 t55 t56 t57 t58 t59 t60 t61 t62 t63 t64 t65 t66 t67 t68 t69 t70 t71 t72 t73 t74 t75 t76 t77 t78 t79 t80 t81 t82 t83 t84 t85 t86 t87 t88 t89 t90 t91 t92 t93 t94 t95 t96 t97 t98 t99 t100 t101 t102 t103 t104 t105 t106 t107 t108 t109 t110 t112 t114 t115 t116 t117 t118 t119:Value}(p z:Nat)(a:Option Addr)(len cap:Nat)(b0 b1 b2 b3 b4 b5:Value)(a4:Option Addr)(d4:Nat)(ps:List RP)(w1:World)(Q:Exit->Act->World->Prop)(ops:Array Oper)(hops:Hid (ops=Zfw))(hp:p<w1.heap.size)(hz:z<w1.heap.size)(hpz:z≠p)(hc:Cur w1 p a len cap)
  (HB:w1.heap[z]? = some (.cells #[b0,b1,b2,b3,b4,b5,(.slice a4 ps.length d4)] 31)) (rin:RecsIn w1 w1.heap.size (.slice a4 ps.length d4) ps) (hsp:Zaw (fsts ps)=true) (htt:tot ps<=1048576)
  (hend:∀ (W w2:World) (x:RecD) (na:Option Addr) (nc:Nat) (xa:Option Addr) (xc:Nat) (qn:List RP) (TT:Bool),w1.grownBy W (some p)->Cur W p a len cap->Below W.heap.size W w2->RecsIn w2 w2.heap.size (.slice xa qn.length xc) qn->Zaw (fsts qn)=true->Q .normal { tmps:=#[.pointer (some ⟨p,0,none⟩),t1,t2,.pointer (some ⟨z,0,none⟩),t4,t5,t6,t7,t8,t9,t10,t11,t12,t13,t14,t15,t16,t17,t18,t19,t20,t21,t22,t23,t24,t25,t26,t27,t28,t29,t30,t31,t32,t33,t34,t35,t36,t37,t38,t39,t40,t41,t42,t43,t44,t45,t46,t47,t48,t49,t50,t51,t52,t53,t54,t55,t56,t57,t58,t59,t60,t61,t62,t63,t64,t65,t66,t67,t68,t69,t70,t71,t72,t73,t74,t75,t76,t77,t78,t79,t80,t81,t82,t83,t84,t85,t86,t87,t88,t89,t90,t91,t92,t93,t94,t95,t96,t97,t98,t99,t100,t101,t102,t103,t104,t105,t106,t107,t108,t109,.tuple #[(.slice xa qn.length xc),.bool TT],.pointer (some ⟨z,6,none⟩),(.slice a4 ps.length d4),.pointer (some ⟨p,0,none⟩),(.agg #[.int .i64 x.area,.int .i64 x.kind,.int .i64 x.owner,.int .i64 x.key,.int .i64 x.seq,.slice na x.near.length nc,.int .i64 x.cost,.bool x.far]),.tuple #[(.slice xa qn.length xc),.bool TT],(.slice xa qn.length xc),.bool TT,.pointer (some ⟨z,6,none⟩),t119],defers:=[] } (w2.setCell ⟨z,6,none⟩ (.slice xa qn.length xc))):
  wpAnyH Tryz.prog .any ops (NoPanic Q) (fun _=>True) 8 #[true,false,true,false,false,false,false,false,false,false] { tmps:=#[.pointer (some ⟨p,0,none⟩),t1,t2,.pointer (some ⟨z,0,none⟩),t4,t5,t6,t7,t8,t9,t10,t11,t12,t13,t14,t15,t16,t17,t18,t19,t20,t21,t22,t23,t24,t25,t26,t27,t28,t29,t30,t31,t32,t33,t34,t35,t36,t37,t38,t39,t40,t41,t42,t43,t44,t45,t46,t47,t48,t49,t50,t51,t52,t53,t54,t55,t56,t57,t58,t59,t60,t61,t62,t63,t64,t65,t66,t67,t68,t69,t70,t71,t72,t73,t74,t75,t76,t77,t78,t79,t80,t81,t82,t83,t84,t85,t86,t87,t88,t89,t90,t91,t92,t93,t94,t95,t96,t97,t98,t99,t100,t101,t102,t103,t104,t105,t106,t107,t108,t109,t110,.pointer (some ⟨z,6,none⟩),t112,.pointer (some ⟨p,0,none⟩),t114,t115,t116,t117,t118,t119],defers:=[] } w1:=by
 have h11:∀ (W:World) (x:RecD) (na:Option Addr) (nc:Nat),w1.grownBy W (some p)->Cur W p a len cap->W.ownsRow 0 98 2 (.slice na x.near.length nc) x.near.length (flat nrE x.near)->x.near.length<=6->wpAnyH Tryz.prog .any ops (NoPanic Q) (fun _=>True) 6 #[true,true,true,true,false,false,false,false,false,false] { tmps:=#[.pointer (some ⟨p,0,none⟩),t1,t2,.pointer (some ⟨z,0,none⟩),t4,t5,t6,t7,t8,t9,t10,t11,t12,t13,t14,t15,t16,t17,t18,t19,t20,t21,t22,t23,t24,t25,t26,t27,t28,t29,t30,t31,t32,t33,t34,t35,t36,t37,t38,t39,t40,t41,t42,t43,t44,t45,t46,t47,t48,t49,t50,t51,t52,t53,t54,t55,t56,t57,t58,t59,t60,t61,t62,t63,t64,t65,t66,t67,t68,t69,t70,t71,t72,t73,t74,t75,t76,t77,t78,t79,t80,t81,t82,t83,t84,t85,t86,t87,t88,t89,t90,t91,t92,t93,t94,t95,t96,t97,t98,t99,t100,t101,t102,t103,t104,t105,t106,t107,t108,t109,t110,.pointer (some ⟨z,6,none⟩),(.slice a4 ps.length d4),.pointer (some ⟨p,0,none⟩),(.agg #[.int .i64 x.area,.int .i64 x.kind,.int .i64 x.owner,.int .i64 x.key,.int .i64 x.seq,.slice na x.near.length nc,.int .i64 x.cost,.bool x.far]),t115,t116,t117,t118,t119],defers:=[] } W:=by
  intro W x na nc g cu hn hl;have gs:=g.size;refine wpAnyH_ready (rs:=[4]) (by rw [hops.out];kernel_rfl) (by simp) ?_
  refine AllReadyH.cons (o:=?_) ?_ (fun K hK=>?_) ?_
  rotate_left 1
  ·rw [hops.out];unfold Zfw;simp only [getS];rfl
  ·rw [if_pos (by rfl)]
   have rin2:=(rin.cur hc g).wide gs;have hin:=Zfx _ ps W.heap.size (x,.slice na x.near.length nc) W rin2 (Nat.le_refl _) htt ⟨hn,fun k hk=>(hn.lt k hk).2⟩ (by show x.near.length<=1048576;omega)
   have hsq:Zaw (fsts (Za2 ps (x,Value.slice na x.near.length nc)))=true:=by rw [Zcg];exact ZeE hsp _
   generalize Za2 ps (x,Value.slice na x.near.length nc)=qn at *;obtain⟨TT,hTT⟩:∃ T,T=ZaE (fsts ps) (x,Value.slice na x.near.length nc).1:=⟨_,rfl⟩;rw [<-hTT] at hin;clear hTT;unfold recC at hin;simp only [] at hin
   go_simp
   refine hin.mono ?_
   rintro e w2 ⟨x5,rfl,o5,b5⟩;obtain⟨xa,xc,rfl⟩:=Zac o5.row;have hE:=hend W w2 x na nc xa xc qn TT g cu b5 o5 hsq;have hb:=(b5.block z (by omega)).trans ((g.block z hz (by simp;omega)).trans HB)
   have y6:=Zaa hb 6;simp at y6
   have f6:=Zae hb 6;refine hK.out _ _ trivial (fun _=>?_)
   refine Zay 5 ?_ ?_ ?_ (by rw [hops.out];kernel_rfl) ?_ ?_ trivial ?_
   rotate_left 2
   ·rw [hops.out];unfold Zfw;simp only [getS];rfl
   ·intro W hW;(try dsimp only at hW);go_simp <;> with_reducible rfl
   ·exact fun _ _ _=>id
   try simp only [putS]
   refine Zay 6 ?_ ?_ ?_ (by rw [hops.out];kernel_rfl) ?_ ?_ trivial ?_
   rotate_left 2
   ·rw [hops.out];unfold Zfw;simp only [getS];rfl
   ·intro W hW;(try dsimp only at hW);go_simp <;> with_reducible rfl
   ·exact fun _ _ _=>id
   try simp only [putS]
   refine Zay 7 ?_ ?_ ?_ (by rw [hops.out];kernel_rfl) ?_ ?_ trivial ?_
   rotate_left 2
   ·rw [hops.out];unfold Zfw;simp only [getS];rfl
   ·intro W hW;(try dsimp only at hW);go_simp <;> with_reducible rfl
   ·exact fun _ _ _=>id
   try simp only [putS]
   refine Zay 8 ?_ ?_ ?_ (by rw [hops.out];kernel_rfl) ?_ ?_ trivial ?_
   rotate_left 2
   ·rw [hops.out];unfold Zfw;simp only [getS];rfl
   ·intro W hW;(try dsimp only at hW);go_simp <;> with_reducible rfl
   ·exact fun _ _ _=>id
   try simp only [putS]
   refine wpAnyH_ready (rs:=[9]) (by rw [hops.out];kernel_rfl) (by simp) ?_
   refine AllReadyH.cons (o:=?_) ?_ (fun K hK=>?_) ?_
   rotate_left 1
   ·rw [hops.out];unfold Zfw;simp only [getS];rfl
   ·rw [if_pos (by rfl)]
    go_simp
    refine hK.out _ _ trivial (fun _=>?_)
    refine wpAnyH_done (by rw [hops.out];kernel_rfl) ?_ _
    dsimp only at hE
    exact NoPanic.normal hE
   exact AllReadyH.nil
  exact AllReadyH.nil
 have h01:∀ (W:World) (x:RecD) (na:Option Addr) (nc:Nat),w1.grownBy W (some p)->Cur W p a len cap->W.ownsRow 0 98 2 (.slice na x.near.length nc) x.near.length (flat nrE x.near)->x.near.length<=6->wpAnyH Tryz.prog .any ops (NoPanic Q) (fun _=>True) 7 #[true,false,true,true,false,false,false,false,false,false] { tmps:=#[.pointer (some ⟨p,0,none⟩),t1,t2,.pointer (some ⟨z,0,none⟩),t4,t5,t6,t7,t8,t9,t10,t11,t12,t13,t14,t15,t16,t17,t18,t19,t20,t21,t22,t23,t24,t25,t26,t27,t28,t29,t30,t31,t32,t33,t34,t35,t36,t37,t38,t39,t40,t41,t42,t43,t44,t45,t46,t47,t48,t49,t50,t51,t52,t53,t54,t55,t56,t57,t58,t59,t60,t61,t62,t63,t64,t65,t66,t67,t68,t69,t70,t71,t72,t73,t74,t75,t76,t77,t78,t79,t80,t81,t82,t83,t84,t85,t86,t87,t88,t89,t90,t91,t92,t93,t94,t95,t96,t97,t98,t99,t100,t101,t102,t103,t104,t105,t106,t107,t108,t109,t110,.pointer (some ⟨z,6,none⟩),t112,.pointer (some ⟨p,0,none⟩),(.agg #[.int .i64 x.area,.int .i64 x.kind,.int .i64 x.owner,.int .i64 x.key,.int .i64 x.seq,.slice na x.near.length nc,.int .i64 x.cost,.bool x.far]),t115,t116,t117,t118,t119],defers:=[] } W:=by
  intro W x na nc g cu hn hl;have gs:=g.size;refine wpAnyH_ready (rs:=[1]) (by rw [hops.out];kernel_rfl) (by simp) ?_
  refine AllReadyH.cons (o:=?_) ?_ (fun K hK=>?_) ?_
  rotate_left 1
  ·rw [hops.out];unfold Zfw;simp only [getS];rfl
  ·rw [if_pos (by rfl)]
   have hb:=(g.block z hz (by simp;omega)).trans HB
   have q:=Zaa hb 6;simp at q
   go_simp
   refine hK.out _ _ trivial (fun _=>?_)
   exact h11 W x na nc g cu hn hl
  exact AllReadyH.nil
 have h10:∀ (W:World) (x:RecD) (na:Option Addr) (nc:Nat),w1.grownBy W (some p)->Cur W p a len cap->wpAnyH Tryz.prog .any ops (NoPanic Q) (fun _=>True) 7 #[true,true,true,false,false,false,false,false,false,false] { tmps:=#[.pointer (some ⟨p,0,none⟩),t1,t2,.pointer (some ⟨z,0,none⟩),t4,t5,t6,t7,t8,t9,t10,t11,t12,t13,t14,t15,t16,t17,t18,t19,t20,t21,t22,t23,t24,t25,t26,t27,t28,t29,t30,t31,t32,t33,t34,t35,t36,t37,t38,t39,t40,t41,t42,t43,t44,t45,t46,t47,t48,t49,t50,t51,t52,t53,t54,t55,t56,t57,t58,t59,t60,t61,t62,t63,t64,t65,t66,t67,t68,t69,t70,t71,t72,t73,t74,t75,t76,t77,t78,t79,t80,t81,t82,t83,t84,t85,t86,t87,t88,t89,t90,t91,t92,t93,t94,t95,t96,t97,t98,t99,t100,t101,t102,t103,t104,t105,t106,t107,t108,t109,t110,.pointer (some ⟨z,6,none⟩),(.slice a4 ps.length d4),.pointer (some ⟨p,0,none⟩),t114,t115,t116,t117,t118,t119],defers:=[] } W:=by
  intro W x na nc g cu;have gs:=g.size;refine wpAnyH_ready (rs:=[3]) (by rw [hops.out];kernel_rfl) (by simp) ?_
  refine AllReadyH.cons (o:=?_) ?_ (fun K hK=>?_) ?_
  rotate_left 1
  ·rw [hops.out];unfold Zfw;simp only [getS];rfl
  ·rw [if_pos (by rfl)]
   have hrc:=ZeT p a len cap W cu;unfold recC at hrc
   go_simp
   refine hrc.mono ?_
   rintro e w2 ⟨x2,v2,rfl,ho2,hl2,_,cu2,gr2⟩;obtain⟨na2,nc2,rfl⟩:=Zac ho2;refine hK.out _ _ trivial (fun _=>?_)
   exact h11 w2 x2 na2 nc2 (Zaj g gr2) cu2 (Zal ho2 (Nat.zero_le _)) hl2
  exact AllReadyH.nil
 have h00:∀ (W:World) (x:RecD) (na:Option Addr) (nc:Nat),w1.grownBy W (some p)->Cur W p a len cap->wpAnyH Tryz.prog .any ops (NoPanic Q) (fun _=>True) 8 #[true,false,true,false,false,false,false,false,false,false] { tmps:=#[.pointer (some ⟨p,0,none⟩),t1,t2,.pointer (some ⟨z,0,none⟩),t4,t5,t6,t7,t8,t9,t10,t11,t12,t13,t14,t15,t16,t17,t18,t19,t20,t21,t22,t23,t24,t25,t26,t27,t28,t29,t30,t31,t32,t33,t34,t35,t36,t37,t38,t39,t40,t41,t42,t43,t44,t45,t46,t47,t48,t49,t50,t51,t52,t53,t54,t55,t56,t57,t58,t59,t60,t61,t62,t63,t64,t65,t66,t67,t68,t69,t70,t71,t72,t73,t74,t75,t76,t77,t78,t79,t80,t81,t82,t83,t84,t85,t86,t87,t88,t89,t90,t91,t92,t93,t94,t95,t96,t97,t98,t99,t100,t101,t102,t103,t104,t105,t106,t107,t108,t109,t110,.pointer (some ⟨z,6,none⟩),t112,.pointer (some ⟨p,0,none⟩),t114,t115,t116,t117,t118,t119],defers:=[] } W:=by
  intro W x na nc g cu;have gs:=g.size;refine wpAnyH_ready (rs:=[1,3]) (by rw [hops.out];kernel_rfl) (by simp) ?_
  refine AllReadyH.cons (o:=?_) ?_ (fun K hK=>?_) ?_
  rotate_left 1
  ·rw [hops.out];unfold Zfw;simp only [getS];rfl
  ·rw [if_pos (by rfl)]
   have hb:=(g.block z hz (by simp;omega)).trans HB
   have q:=Zaa hb 6;simp at q
   go_simp
   refine hK.out _ _ trivial (fun _=>?_)
   exact h10 W x na nc g cu
  refine AllReadyH.cons (o:=?_) ?_ (fun K hK=>?_) ?_
  rotate_left 1
  ·rw [hops.out];unfold Zfw;simp only [getS];rfl
  ·rw [if_pos (by rfl)]
   have hrc:=ZeT p a len cap W cu;unfold recC at hrc
   go_simp
   refine hrc.mono ?_
   rintro e w2 ⟨x2,v2,rfl,ho2,hl2,_,cu2,gr2⟩;obtain⟨na2,nc2,rfl⟩:=Zac ho2;refine hK.out _ _ trivial (fun _=>?_)
   exact h01 w2 x2 na2 nc2 (Zaj g gr2) cu2 (Zal ho2 (Nat.zero_le _)) hl2
  exact AllReadyH.nil
 exact h00 w1 Zbe none 0 (ZcJ _ _) hc
end Go.Proofs.YtcimbiinljcifaaGreat
