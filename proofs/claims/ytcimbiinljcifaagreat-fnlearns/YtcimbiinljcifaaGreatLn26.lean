/-
  WayReg WListK
-/
import Derived.Test.YtcimbiinljcifaaGreatLn24
import Derived.Test.YtcimbiinljcifaaGreatLn25
import Derived.Test.YtcimbiinljcifaaGreatLn3
import Derived.Test.YtcimbiinljcifaaGreatLn23
namespace Go.Proofs.YtcimbiinljcifaaGreat
open Go.RowKit
set_option linter.unusedSimpArgs false
set_option linter.unusedVariables false
set_option maxRecDepth 100000
set_option maxHeartbeats 8000000
theorem ZcV (W:World)(o:Obj)(k:Nat)(hk:k<W.heap.size):(W.alloc o).heap[k]? = W.heap[k]? := Below.heap_alloc _ _ _ hk
theorem Zee {P:Program}{w:World}{o:Oper}{a:Act}{K:Act->World->Prop}{Q:Exit->Act->World->Prop}(s x:Operand)(t:TypeId)
  (ho:o.op=.call { callee:=.builtin .append,args:=#[s,x],argTypes:=#[t,t] })
  (base:Nat) (e:TypeId) (i:TypeInfo) (size:Nat) (ht:P.underlying t=some (.slice e)) (hi:P.info? e=some i)
  (v:Value) (n:Nat) (xs:List Value) (hs:a.eval s=v) (hown:w.ownsRow base e size v n xs) (hx:a.eval x=.slice none 0 0)
  (h:K (a.put o.dst v) w):o.wp P a w K Q:=by
 have hrun:=run_append_owned_none (P:=P) (w:=w) base t o.type e i size ht hi v n xs hown;unfold Oper.wp;simp [execOp,ho,resolve,invoke,builtin,hs,hx,hrun,Result.andThen]
 exact h
theorem ZfO {α:Type}{enc:α->List Value}{sz bytes:Nat}(hlen:∀ l:List α,(flat enc l).length=l.length*sz)(hpos:0<sz)(hone:∀ a,∀ u∈enc a,u.oneCell'=true)(hbb:bytes<=100){P:Program}(w:World){o:Oper}{a:Act}{K:Act->World->Prop}{Q:Exit->Act->World->Prop}(s x:Operand)(t:TypeId)
  (ho:o.op=.call { callee:=.builtin .append,args:=#[s,x],argTypes:=#[t,t] }) (base:Nat) (e:TypeId) (ht:P.underlying t=some (.slice e)) (zv:Value) (hzv:zv.cells.size=sz)
  (hinfo:(P.info? e).map (fun i=>(i.zero,i.size,i.bytes))=some (some zv,sz,bytes))
  (v:Value) (l:List α) (hs:a.eval s=v) (hown:w.ownsRow base e sz v l.length (flat enc l))
  (base2:Nat) (v2:Value) (l2:List α) (hx:a.eval x=v2) (hown2:w.ownsRow base2 e sz v2 l2.length (flat enc l2))
  (hl:l.length+l2.length<=1000000000) (hbase:base<=w.heap.size)
  (h:∀ v' w',w'.ownsRow base e sz v' (l++l2).length (flat enc (l++l2))->w.grownBy w' v.ownBlock->K (a.put o.dst v') w'):o.wp P a w K Q:=by
 obtain⟨i0,hi,hz0,hz1,hz2⟩:=info_parts hinfo
 rcases hown2.2 with ⟨e1,e2⟩ | ⟨g,cap,cur,e1,_⟩
 ·have e3:l2=[]:=List.eq_nil_of_length_eq_zero e2
  subst e3;refine Zee s x t ho base e i0 sz ht hi v l.length (flat enc l) hs hown (hx.trans e1) ?_
  exact h v w (by simpa using hown) (ZcJ w _)
 ·refine wp_append_own w s x t ho base e i0 zv sz bytes ht hi hz0 hz1 hz2 hzv hpos v l.length (flat enc l) hs hown ⟨g,0,none⟩ l2.length cap (flat enc l2) (hx.trans e1) (hlen l2) (hown2.cells (by rw [e1];rfl)) ?_ (by unfold maxLen;omega) ?_ hbase ?_
  ·intro u hu
   simp only [flat,List.mem_flatMap] at hu
   obtain⟨b,_,hb⟩:=hu;exact hone b u hb
  ·have:(l.length+l2.length)*bytes<=1000000000*100:=Nat.mul_le_mul hl hbb
   omega
  ·intro v' w' h1 h2 _
   have e1:flat enc l++flat enc l2=flat enc (l++l2):=by rw [ZaL]
   rw [e1] at h1;exact h v' w' (by simpa using h1) h2
theorem Zew {α:Type}{enc:α->List Value}{sz bytes:Nat}(hlen:∀ a,(enc a).length=sz)(hpos:0<sz)(y0:α)(hone:∀ u∈enc y0,u.oneCell'=true)(hbb:bytes<=100){P:Program}(w:World){o:Oper}{a:Act}{K:Act->World->Prop}{Q:Exit->Act->World->Prop}(s x:Operand)(t:TypeId)
  (ho:o.op=.call { callee:=.builtin .append,args:=#[s,x],argTypes:=#[t,t] }) (base:Nat) (e:TypeId) (ht:P.underlying t=some (.slice e)) (zv:Value) (hzv:zv.cells.size=sz)
  (hinfo:(P.info? e).map (fun i=>(i.zero,i.size,i.bytes))=some (some zv,sz,bytes))
  (v:Value) (l:List α) (hs:a.eval s=v) (hown:w.ownsRow base e sz v l.length (flat enc l))
  (ad:Addr) (c:Nat) (hx:a.eval x=.slice (some ad) 1 c) (hnews:∀ j u,(enc y0)[j]? = some u->w.cell? (ad.add j)=some u)
  (hl:l.length+1<=1000000000) (hbase:base<=w.heap.size)
  (h:∀ v' w' l',Hid (l'=l++[y0])->w'.ownsRow base e sz v' l'.length (flat enc l')->w.grownBy w' v.ownBlock->K (a.put o.dst v') w'):Oper.wp P o a w K Q:=by
 obtain⟨i0,hi,hz0,hz1,hz2⟩:=info_parts hinfo;refine wp_append_own w s x t ho base e i0 zv sz bytes ht hi hz0 hz1 hz2 hzv hpos v l.length (flat enc l) hs hown ad 1 c (enc y0) hx (by rw [hlen];omega) hnews (hone) (by unfold maxLen;omega) ?_ hbase ?_
 ·have:(l.length+1)*bytes<=1000000000*100:=Nat.mul_le_mul hl hbb
  omega
 ·intro v' w' h1 h2 _
  have e1:flat enc l++enc y0=flat enc (l++[y0]):=by rw [ZaL];simp [flat]
  rw [e1] at h1;exact h v' w' (l++[y0]) rfl (by simpa using h1) h2
def wOps:Array Oper:=#[{ dst:=some 181,op:=Go.Op.move (Go.Operand.tmp 7),type:=178,pos := "l06_way.go:102",after:=#[],guard:=none }, { dst:=some 182,op:=Go.Op.move (Go.Operand.tmp 22),type:=3,pos := "l06_way.go:102",after:=#[],guard:=none }, { dst:=some 183,op:=Go.Op.move (Go.Operand.tmp 11),type:=28,pos := "l06_way.go:102",after:=#[],guard:=none }, { dst:=some 184,op:=Go.Op.move (Go.Operand.tmp 22),type:=3,pos := "l06_way.go:102",after:=#[],guard:=none }, { dst:=some 185,op:=Go.Op.indexAddr 28 (Go.Operand.tmp 183) (Go.Operand.tmp 184),type:=0,pos := "l06_way.go:102",after:=#[{ on:=2,ground:=Go.Ground.data }, { on:=3,ground:=Go.Ground.data }],guard:=none }, { dst:=some 186,op:=Go.Op.load 3 (Go.Operand.tmp 185),type:=3,pos := "l06_way.go:102",after:=#[{ on:=4,ground:=Go.Ground.data }],guard:=none }, { dst:=some 187,op:=Go.Op.buildSlice 28 0 #[],type:=28,pos := "l06_way.go:102",after:=#[],guard:=none }, { dst:=some 188,op:=Go.Op.move (Go.Operand.tmp 12),type:=192,pos := "l06_way.go:102",after:=#[],guard:=none }, { dst:=some 189,op:=Go.Op.move (Go.Operand.tmp 22),type:=3,pos := "l06_way.go:102",after:=#[],guard:=none }, { dst:=some 190,op:=Go.Op.indexAddr 192 (Go.Operand.tmp 188) (Go.Operand.tmp 189),type:=0,pos := "l06_way.go:102",after:=#[{ on:=7,ground:=Go.Ground.data }, { on:=8,ground:=Go.Ground.data }],guard:=none }, { dst:=some 191,op:=Go.Op.load 28 (Go.Operand.tmp 190),type:=28,pos := "l06_way.go:102",after:=#[{ on:=9,ground:=Go.Ground.data }],guard:=none }, { dst:=some 192,op:=Go.Op.call { callee:=Go.Callee.builtin Go.Builtin.append,args:=#[Go.Operand.tmp 187,Go.Operand.tmp 191],argTypes:=#[28,28] },type:=28,pos := "l06_way.go:102",after:=#[{ on:=6,ground:=Go.Ground.data }, { on:=10,ground:=Go.Ground.data }],guard:=none }, { dst:=some 193,op:=Go.Op.build 183 #[(0,Go.Operand.tmp 182),(1,Go.Operand.tmp 186),(2,Go.Operand.tmp 192)],type:=183,pos := "l06_way.go:102",after:=#[{ on:=1,ground:=Go.Ground.data }, { on:=5,ground:=Go.Ground.data }, { on:=11,ground:=Go.Ground.data }],guard:=none }, { dst:=some 194,op:=Go.Op.buildSlice 178 1 #[(0,Go.Operand.tmp 193)],type:=178,pos := "l06_way.go:102",after:=#[{ on:=12,ground:=Go.Ground.data }],guard:=none }, { dst:=some 195,op:=Go.Op.call { callee:=Go.Callee.builtin Go.Builtin.append,args:=#[Go.Operand.tmp 181,Go.Operand.tmp 194],argTypes:=#[178,178] },type:=178,pos := "l06_way.go:102",after:=#[{ on:=0,ground:=Go.Ground.data }, { on:=13,ground:=Go.Ground.data }, { on:=11,ground:=Go.Ground.chain }],guard:=none }, { dst:=some 7,op:=Go.Op.assign (Go.Operand.tmp 195),type:=178,pos := "l06_way.go:102",after:=#[{ on:=14,ground:=Go.Ground.data }, { on:=14,ground:=Go.Ground.chain }, { on:=0,ground:=Go.Ground.phase }, { on:=1,ground:=Go.Ground.phase }, { on:=2,ground:=Go.Ground.phase }, { on:=3,ground:=Go.Ground.phase }, { on:=4,ground:=Go.Ground.phase }, { on:=5,ground:=Go.Ground.phase }, { on:=6,ground:=Go.Ground.phase }, { on:=7,ground:=Go.Ground.phase }, { on:=8,ground:=Go.Ground.phase }, { on:=9,ground:=Go.Ground.phase }, { on:=10,ground:=Go.Ground.phase }, { on:=11,ground:=Go.Ground.phase }, { on:=12,ground:=Go.Ground.phase }, { on:=13,ground:=Go.Ground.phase }, { on:=14,ground:=Go.Ground.phase }],guard:=none }]
theorem Zmv (t0 t1 t2 t3 t4 t5 t6 t8 t9 t10 t13 t14 t15 t16 t17 t18 t19 t20 t21 t23 t24 t25 t26 t27 t28 t29 t30 t31 t32 t33 t34 t35 t36 t37 t38 t39 t40 t41 t42 t43 t44 t45 t46 t47 t48 t49 t50 t51 t52 t53 t54 t55 t56 t57 t58 t59 t60 t61 t62 t63 t64 t65 t66 t67 t68 t69 t70 t71 t72 t73 t74 t75 t76 t77 t78 t79 t80 t81 t82 t83 t84 t85 t86 t87 t88 t89 t90 t91 t92 t93 t94 t95 t96 t97 t98 t99 t100 t101 t102 t103 t104 t105 t106 t107 t108 t109 t110 t111 t112 t113 t114 t115 t116 t117 t118 t119 t120 t121 t122 t123 t124 t125 t126 t127 t128 t129 t130 t131 t132 t133 t134 t135 t136 t137 t138 t139 t140 t141 t142 t143 t144 t145 t146 t147 t148 t149 t150 t151 t152 t153 t154 t155 t156 t157 t158 t159 t160 t161 t162 t163 t164 t165 t166 t167 t168 t169 t170 t171 t172 t173 t174 t175 t176 t177 t178 t179 t180 t181 t182 t183 t184 t185 t186 t187 t188 t189 t190 t191 t192 t193 t194 t195 t196:Value)(W0:World)(lo b v:Nat)(cv:Int)(hl:List Int)(pv:Option Addr)(qv:Nat)(ua:Option Addr)(uc:Nat)(qs:List WP)(cb ch:Array Value)(Q:Exit->Act->World->Prop)(ops:Array Oper)(hops:Hid (ops=wOps))(hpan:∀ c a1 a2 w,Q (.panic c) a1 w->Q (.panic c) a2 w)
  (hv:v<=6) (hll:hl.length<=6) (hql:qs.length<=6) (hlo:lo<=W0.heap.size)
  (hb:W0.heap[b]? = some (.cells cb 3)) (hh:W0.heap[b+1]? = some (.cells ch 28)) (h1:W0.cell? ⟨b,v,none⟩=some (.int .i64 cv)) (h2:W0.cell? ⟨b+1,v,none⟩=some (.slice pv hl.length qv))
  (hRV:W0.ownsRow 0 3 1 (.slice pv hl.length qv) hl.length (flat intE hl)) (hWO:WaysOwn W0 lo W0.heap.size (.slice ua qs.length uc) qs)
  (hend:∀ (W4:World) (xa:Option Addr) (xc:Nat) (na:Option Addr) (nc N:Nat),WaysOwn W4 lo W4.heap.size (.slice xa (qs.length+1) xc) (qs++[(⟨(v:Int),cv,hl⟩,.slice na hl.length nc)])->(∀ k,k<W0.heap.size->some k≠(Value.slice ua qs.length uc).ownBlock->W4.heap[k]? = W0.heap[k]?)->Below lo W0 W4->Q .normal { tmps:=#[t0,t1,t2,t3,t4,t5,t6,.slice xa (qs.length+1) xc,t8,t9,t10,.slice (some ⟨b,0,none⟩) 7 7,.slice (some ⟨b+1,0,none⟩) 7 7,t13,t14,t15,t16,t17,t18,t19,t20,t21,.int .i64 (v:Int),t23,t24,t25,t26,t27,t28,t29,t30,t31,t32,t33,t34,t35,t36,t37,t38,t39,t40,t41,t42,t43,t44,t45,t46,t47,t48,t49,t50,t51,t52,t53,t54,t55,t56,t57,t58,t59,t60,t61,t62,t63,t64,t65,t66,t67,t68,t69,t70,t71,t72,t73,t74,t75,t76,t77,t78,t79,t80,t81,t82,t83,t84,t85,t86,t87,t88,t89,t90,t91,t92,t93,t94,t95,t96,t97,t98,t99,t100,t101,t102,t103,t104,t105,t106,t107,t108,t109,t110,t111,t112,t113,t114,t115,t116,t117,t118,t119,t120,t121,t122,t123,t124,t125,t126,t127,t128,t129,t130,t131,t132,t133,t134,t135,t136,t137,t138,t139,t140,t141,t142,t143,t144,t145,t146,t147,t148,t149,t150,t151,t152,t153,t154,t155,t156,t157,t158,t159,t160,t161,t162,t163,t164,t165,t166,t167,t168,t169,t170,t171,t172,t173,t174,t175,t176,t177,t178,t179,t180,.slice ua qs.length uc,.int .i64 (v:Int),.slice (some ⟨b,0,none⟩) 7 7,.int .i64 (v:Int),.pointer (some ⟨b,v,none⟩),.int .i64 cv,.slice (some ⟨W0.heap.size,0,none⟩) 0 0,.slice (some ⟨b+1,0,none⟩) 7 7,.int .i64 (v:Int),.pointer (some ⟨b+1,v,none⟩),.slice pv hl.length qv,.slice na hl.length nc,.agg #[.int .i64 (v:Int),.int .i64 cv,.slice na hl.length nc],.slice (some ⟨N,0,none⟩) 1 1,.slice xa (qs.length+1) xc,t196],defers:=[] } W4):
  wpAnyH Tryz.prog .any ops Q (fun W=>W.cell? ⟨b,v,none⟩=some (.int .i64 cv)/\W.cell? ⟨b+1,v,none⟩=some (.slice pv hl.length qv)) 16 (Array.replicate 16 false) { tmps:=#[t0,t1,t2,t3,t4,t5,t6,.slice ua qs.length uc,t8,t9,t10,.slice (some ⟨b,0,none⟩) 7 7,.slice (some ⟨b+1,0,none⟩) 7 7,t13,t14,t15,t16,t17,t18,t19,t20,t21,.int .i64 (v:Int),t23,t24,t25,t26,t27,t28,t29,t30,t31,t32,t33,t34,t35,t36,t37,t38,t39,t40,t41,t42,t43,t44,t45,t46,t47,t48,t49,t50,t51,t52,t53,t54,t55,t56,t57,t58,t59,t60,t61,t62,t63,t64,t65,t66,t67,t68,t69,t70,t71,t72,t73,t74,t75,t76,t77,t78,t79,t80,t81,t82,t83,t84,t85,t86,t87,t88,t89,t90,t91,t92,t93,t94,t95,t96,t97,t98,t99,t100,t101,t102,t103,t104,t105,t106,t107,t108,t109,t110,t111,t112,t113,t114,t115,t116,t117,t118,t119,t120,t121,t122,t123,t124,t125,t126,t127,t128,t129,t130,t131,t132,t133,t134,t135,t136,t137,t138,t139,t140,t141,t142,t143,t144,t145,t146,t147,t148,t149,t150,t151,t152,t153,t154,t155,t156,t157,t158,t159,t160,t161,t162,t163,t164,t165,t166,t167,t168,t169,t170,t171,t172,t173,t174,t175,t176,t177,t178,t179,t180,t181,t182,t183,t184,t185,t186,t187,t188,t189,t190,t191,t192,t193,t194,t195,t196],defers:=[] } W0:=by
 have hS0:W0.cell? ⟨b,v,none⟩=some (.int .i64 cv)/\W0.cell? ⟨b+1,v,none⟩=some (.slice pv hl.length qv):=⟨h1,h2⟩;have hS1:∀ W:World,(∀ k,k<W0.heap.size->W.heap[k]? = W0.heap[k]?)->W.cell? ⟨b,v,none⟩=some (.int .i64 cv)/\W.cell? ⟨b+1,v,none⟩=some (.slice pv hl.length qv):=fun W hk=>⟨(World.cell?_of_block (hk b (Zab hb))).trans h1,(World.cell?_of_block (hk (b+1) (Zab hh))).trans h2⟩
 have hvi:(0:Int)<=(v:Int):=by omega
 have hvj:(v:Int)<7:=by omega
 show wpAnyH Tryz.prog .any ops Q _ 16 #[false,false,false,false,false,false,false,false,false,false,false,false,false,false,false,false] _ W0
 refine Zay 0 ?_ ?_ ?_ (by rw [hops.out];kernel_rfl) ?_ ?_ (by assumption) ?_
 rotate_left 2
 ·rw [hops.out];unfold wOps;simp only [getS];rfl
 ·intro W hW;obtain⟨k1,k2⟩:=hW;go_simp <;> with_reducible rfl
 ·exact fun c _ w h=>hpan c _ _ w h
 try simp only [putS]
 refine Zay 1 ?_ ?_ ?_ (by rw [hops.out];kernel_rfl) ?_ ?_ (by assumption) ?_
 rotate_left 2
 ·rw [hops.out];unfold wOps;simp only [getS];rfl
 ·intro W hW;obtain⟨k1,k2⟩:=hW;go_simp <;> with_reducible rfl
 ·exact fun c _ w h=>hpan c _ _ w h
 try simp only [putS]
 refine Zay 2 ?_ ?_ ?_ (by rw [hops.out];kernel_rfl) ?_ ?_ (by assumption) ?_
 rotate_left 2
 ·rw [hops.out];unfold wOps;simp only [getS];rfl
 ·intro W hW;obtain⟨k1,k2⟩:=hW;go_simp <;> with_reducible rfl
 ·exact fun c _ w h=>hpan c _ _ w h
 try simp only [putS]
 refine Zay 3 ?_ ?_ ?_ (by rw [hops.out];kernel_rfl) ?_ ?_ (by assumption) ?_
 rotate_left 2
 ·rw [hops.out];unfold wOps;simp only [getS];rfl
 ·intro W hW;obtain⟨k1,k2⟩:=hW;go_simp <;> with_reducible rfl
 ·exact fun c _ w h=>hpan c _ _ w h
 try simp only [putS]
 refine Zay 4 ?_ ?_ ?_ (by rw [hops.out];kernel_rfl) ?_ ?_ (by assumption) ?_
 rotate_left 2
 ·rw [hops.out];unfold wOps;simp only [getS];rfl
 ·intro W hW;obtain⟨k1,k2⟩:=hW;go_simp <;> with_reducible rfl
 ·exact fun c _ w h=>hpan c _ _ w h
 try simp only [putS]
 refine Zay 5 ?_ ?_ ?_ (by rw [hops.out];kernel_rfl) ?_ ?_ (by assumption) ?_
 rotate_left 2
 ·rw [hops.out];unfold wOps;simp only [getS];rfl
 ·intro W hW;obtain⟨k1,k2⟩:=hW;go_simp <;> with_reducible rfl
 ·exact fun c _ w h=>hpan c _ _ w h
 try simp only [putS]
 refine Zay 7 ?_ ?_ ?_ (by rw [hops.out];kernel_rfl) ?_ ?_ (by assumption) ?_
 rotate_left 2
 ·rw [hops.out];unfold wOps;simp only [getS];rfl
 ·intro W hW;obtain⟨k1,k2⟩:=hW;go_simp <;> with_reducible rfl
 ·exact fun c _ w h=>hpan c _ _ w h
 try simp only [putS]
 refine Zay 8 ?_ ?_ ?_ (by rw [hops.out];kernel_rfl) ?_ ?_ (by assumption) ?_
 rotate_left 2
 ·rw [hops.out];unfold wOps;simp only [getS];rfl
 ·intro W hW;obtain⟨k1,k2⟩:=hW;go_simp <;> with_reducible rfl
 ·exact fun c _ w h=>hpan c _ _ w h
 try simp only [putS]
 refine Zay 9 ?_ ?_ ?_ (by rw [hops.out];kernel_rfl) ?_ ?_ (by assumption) ?_
 rotate_left 2
 ·rw [hops.out];unfold wOps;simp only [getS];rfl
 ·intro W hW;obtain⟨k1,k2⟩:=hW;go_simp <;> with_reducible rfl
 ·exact fun c _ w h=>hpan c _ _ w h
 try simp only [putS]
 refine Zay 10 ?_ ?_ ?_ (by rw [hops.out];kernel_rfl) ?_ ?_ (by assumption) ?_
 rotate_left 2
 ·rw [hops.out];unfold wOps;simp only [getS];rfl
 ·intro W hW;obtain⟨k1,k2⟩:=hW;go_simp <;> with_reducible rfl
 ·exact fun c _ w h=>hpan c _ _ w h
 try simp only [putS]
 refine Zap 6 (oi:=?_) ?_ (by rw [hops.out];kernel_rfl) ?_ ?_
 rotate_left 1
 ·rw [hops.out];unfold wOps;simp only [getS];rfl
 ·rw [hops.out];kernel_rfl
 intro K hK
 go_simp
 refine hK.out _ _ (hS1 _ (ZcV W0 _)) (fun hS=>?_)
 clear hK K
 try simp only [putS]
 refine Zap 11 (oi:=?_) ?_ (by rw [hops.out];kernel_rfl) ?_ ?_
 rotate_left 1
 ·rw [hops.out];unfold wOps;simp only [getS];rfl
 ·rw [hops.out];kernel_rfl
 intro K hK;refine ZfO ZdZ (by omega) Zc0 (by omega) _ _ _ 28 rfl W0.heap.size 3 Tryz.underlying28 (.int .i64 0) rfl Tryz.info3 (.slice (some ⟨W0.heap.size,0,none⟩) 0 0) [] rfl (ZcC _ _ _ rfl (Nat.le_refl _)) 0 (.slice pv hl.length qv) hl rfl (hRV.alloc _) (by simp;omega) (by simp) ?_
 intro x W2 hox hgrow;rw [List.nil_append] at hox;obtain⟨na,nc,rfl⟩:=Zac hox;simp only [Value.ownBlock] at hgrow
 have k12:∀ k,k<W0.heap.size->W2.heap[k]? = W0.heap[k]? := fun k hk=>(hgrow.block k (by simp;omega) (by simp;omega)).trans (ZcV W0 _ k hk)
 have s12:W0.heap.size<W2.heap.size:=by have:=hgrow.size;simp at this;omega
 have B2:Below W0.heap.size W0 W2:=((Below.refl _ _).alloc (Nat.le_refl _) _).grown hgrow (by simp) (fun k hk=>by simp at hk;omega)
 refine hK.out _ _ (hS1 _ k12) (fun hS=>?_)
 clear hK K
 try simp only [putS]
 refine Zay 12 ?_ ?_ ?_ (by rw [hops.out];kernel_rfl) ?_ ?_ (by assumption) ?_
 rotate_left 2
 ·rw [hops.out];unfold wOps;simp only [getS];rfl
 ·intro W hW;obtain⟨k1,k2⟩:=hW;go_simp <;> with_reducible rfl
 ·exact fun c _ w h=>hpan c _ _ w h
 try simp only [putS]
 refine Zap 13 (oi:=?_) ?_ (by rw [hops.out];kernel_rfl) ?_ ?_
 rotate_left 1
 ·rw [hops.out];unfold wOps;simp only [getS];rfl
 ·rw [hops.out];kernel_rfl
 intro K hK
 go_simp
 refine hK.out _ _ (hS1 _ (fun k hk=>(ZcV W2 _ k (by omega)).trans (k12 k hk))) (fun hS=>?_)
 clear hK K
 try simp only [putS]
 refine Zap 14 (oi:=?_) ?_ (by rw [hops.out];kernel_rfl) ?_ ?_
 rotate_left 1
 ·rw [hops.out];unfold wOps;simp only [getS];rfl
 ·rw [hops.out];kernel_rfl
 intro K hK;have rw3:=Zah hWO.row (B2.alloc B2.size (.cells #[.int .i64 (v:Int),.int .i64 cv,.slice na hl.length nc] 183)) (Nat.le_refl _);refine Zew ZeM (by omega) (⟨(v:Int),cv,hl⟩,.slice na hl.length nc) (ZgI _ _ _ _) (by omega) _ _ _ 178 rfl lo 183 Tryz.underlying178 (.agg (wayC Zcu (.slice none 0 0))) rfl Tryz.infoWay (.slice ua qs.length uc) qs rfl rw3 ⟨W2.heap.size,0,none⟩ 1 rfl (Zar (cs:=encW (⟨(v:Int),cv,hl⟩,.slice na hl.length nc))) (by omega) (by simp;omega) ?_
 intro x W4 l' hl' hox2 hgrow2;rw [hl'.out] at hox2;have ow:=hWO.push (p:=(⟨(v:Int),cv,hl⟩,.slice na hl.length nc)) (B2.alloc B2.size _) hlo ⟨hox.alloc (.cells #[.int .i64 (v:Int),.int .i64 cv,.slice na hl.length nc] 183),fun k hk=>by have:=(hox.lt k hk).2;simp;omega⟩ (by simpa using hox2) hgrow2
 have k4:∀ k,k<W0.heap.size->some k≠(Value.slice ua qs.length uc).ownBlock->W4.heap[k]? = W0.heap[k]? := fun k hk hne=>(hgrow2.block k (by simp;omega) hne).trans ((ZcV W2 _ k (by omega)).trans (k12 k hk))
 have B4:Below lo W0 W4:=((B2.alloc B2.size _).mono hlo).grown hgrow2 (by simp;omega) (fun k hk=>(hWO.row.lt k hk).1)
 rw [List.length_append,List.length_singleton] at hox2;obtain⟨xa,xc,rfl⟩:=Zac hox2;refine hK.out _ _ ⟨?_,?_⟩ (fun hS=>?_)
 ·rw [World.cell?_of_block (k4 b (Zab hb) (Zax hWO.row hb (by decide)))];exact h1
 ·rw [World.cell?_of_block (k4 (b+1) (Zab hh) (Zax hWO.row hh (by decide)))];exact h2
 clear hK K
 try simp only [putS]
 refine Zay 15 ?_ ?_ ?_ (by rw [hops.out];kernel_rfl) ?_ ?_ (by assumption) ?_
 rotate_left 2
 ·rw [hops.out];unfold wOps;simp only [getS];rfl
 ·intro W hW;obtain⟨k1,k2⟩:=hW;go_simp <;> with_reducible rfl
 ·exact fun c _ w h=>hpan c _ _ w h
 try simp only [putS]
 refine wpAnyH_done (by rw [hops.out];kernel_rfl) ?_ _
 exact hend _ xa xc na nc W2.heap.size ow k4 B4
abbrev LP:=Value × List WP
def ZgH (p:LP):List Value:=[p.1]
theorem Ze5 (p:LP):(ZgH p).length=1:=rfl
theorem Zf8 {W W':World}{base size n:Nat}{e T:TypeId}{v:Value}{xs:List Value}(h:W.ownsRow base e size v n xs)(hne:e≠T)(hk:∀ (k:Nat) (cs:Array Value) (t:TypeId) (fr:Nat × Nat),W.heap[k]? = some (.cells cs t fr)->t≠T->W'.heap[k]? = W.heap[k]?):W'.ownsRow base e size v n xs:=by
 refine Zam h (fun j hj=>?_)
 rcases h.2 with ⟨e1,_⟩ | ⟨g2,cap,cur,e1,_,hh,_⟩
 ·rw [e1] at hj;cases hj
 ·rw [e1] at hj
  simp [Value.ownBlock] at hj
  subst hj;exact hk _ _ _ _ hh hne
theorem WaysOwn.typed {W W':World}{lo hi:Nat}{T:TypeId}{v:Value}{ps:List WP}(h:WaysOwn W lo hi v ps)(h1:(183:TypeId)≠T)(h2:(3:TypeId)≠T)(hk:∀ (k:Nat) (cs:Array Value) (t:TypeId) (fr:Nat × Nat),W.heap[k]? = some (.cells cs t fr)->t≠T->W'.heap[k]? = W.heap[k]?):WaysOwn W' lo hi v ps:=
 ⟨Zf8 h.row h1 hk,h.top,fun p hp=>⟨Zf8 (h.nears p hp).1 h2 hk,(h.nears p hp).2⟩,h.apart⟩
structure WLs (W:World) (lo hi:Nat) (u:Value) (ls:List LP):Prop where
 row:W.ownsRow lo 178 1 u ls.length (flat ZgH ls)
 top:∀ k,u.ownBlock=some k->k<hi
 ways:∀ p∈ls,WaysOwn W lo hi p.1 p.2
theorem WLs.below {W W':World}{lo hi B:Nat}{u:Value}{ls:List LP}(h:WLs W lo hi u ls)(hb:Below B W W')(hB:hi<=B):WLs W' lo hi u ls:=
 ⟨Zam h.row (fun k e=>hb.block k (by have:=h.top k e;omega)),h.top,fun p hp=>(h.ways p hp).below hb hB⟩
theorem WLs.wide {W:World}{lo hi lo' hi':Nat}{u:Value}{ls:List LP}(h:WLs W lo hi u ls)(hl:lo'<=lo)(hh:hi<=hi'):WLs W lo' hi' u ls:=
 ⟨Zal h.row hl,fun k e=>Nat.lt_of_lt_of_le (h.top k e) hh,fun p hp=>(h.ways p hp).wide hl hh⟩
theorem WLs.cell {W:World}{lo hi:Nat}{u:Value}{ls:List LP}(h:WLs W lo hi u ls){i:Nat}{p:LP}(hp:ls[i]? = some p):∃ g cap,u=.slice (some ⟨g,0,none⟩) ls.length cap/\W.cell? ⟨g,i,none⟩=some p.1/\g<hi/\g<W.heap.size:=by
 have hi':i<ls.length:=(List.getElem?_eq_some_iff.1 hp).1
 rcases h.row.2 with ⟨_,e⟩ | ⟨g,cap,cur,hv,_⟩
 ·omega
 ·refine ⟨g,cap,hv,?_,h.top g (by rw [hv];rfl),(h.row.lt g (by rw [hv];rfl)).2⟩
  have:=World.ownsRow.cellAt (by rw [<-hv];exact h.row) i (by omega)
  rw [this];have e:=ZeP Ze5 ls i 0 p hp (by omega)
  simpa [ZgH] using e
theorem WLs.push {W Wa W2:World}{lo:Nat}{u u':Value}{ls:List LP}{p:LP}(h:WLs W lo W.heap.size u ls)(hb:Below W.heap.size W Wa)(hp:WaysOwn Wa lo Wa.heap.size p.1 p.2)
  (row:W2.ownsRow lo 178 1 u' (ls.length+1) (flat ZgH (ls++[p]))) (hg:Wa.grownBy W2 u.ownBlock):WLs W2 lo W2.heap.size u' (ls++[p]):=by
 have rowa:=Zah h.row hb (Nat.le_refl _);have hk:∀ (k:Nat) (cs:Array Value) (t:TypeId) (fr:Nat × Nat),Wa.heap[k]? = some (.cells cs t fr)->t≠178->W2.heap[k]? = Wa.heap[k]? := fun k cs t fr hk ht=>hg.block k (Zab hk) (Zax rowa hk (fun e=>ht e.symm))
 refine⟨by simpa using row,fun k e=>(row.lt k e).2,fun q hq=>?_⟩
 rcases List.mem_append.1 hq with h1 | h1
 ·exact (((h.ways q h1).below hb (Nat.le_refl _)).typed (by decide) (by decide) hk).wide (Nat.le_refl _) (Nat.le_trans hb.size hg.size)
 ·have:q=p:=by simpa using h1
  subst this;exact (hp.typed (by decide) (by decide) hk).wide (Nat.le_refl _) hg.size
end Go.Proofs.YtcimbiinljcifaaGreat
