/-
  Parts of the proof: CH, CI.
-/
import Derived.Test.YtclpcnignheijaaGreatDoorQ20
import Derived.Test.YtclpcnignheijaaGreatDoorQ37
import Derived.Test.YtclpcnignheijaaGreatDoorQ21
import Derived.Test.YtclpcnignheijaaGreatDoorQ31
set_option maxRecDepth 100000
namespace Go.Proofs.YtclpcnignheijaaGreatDoor.Num
open Go.RowKit Go.Proofs.YtclpcnignheijaaGreatDoor Go.Conc
abbrev CloK:=@Go.Proofs.YtclpcnignheijaaGreatDoor.Clo
def sndC:Code→Code
 | .seq _ c=>c
 | c=>c
noncomputable def lp4:Code:=match part10 4 with | .seq _ (.block _ (.loop c))=>c | _=>.skip
noncomputable def bl4:Code:=match lp4 with | .seq _ (.seq (.block _ x) _)=>x | _=>.skip
noncomputable def r4:Array Oper:=opsC (fstC (part10 4))
noncomputable def r5:Array Oper:=opsC (fstC (fstC lp4))
noncomputable def r6:Array Oper:=opsC (sndC (sndC lp4))
noncomputable def r7:Array Oper:=opsC (fstC bl4)
noncomputable def r8:Array Oper:=opsC (fstC (sndN 1 bl4))
noncomputable def r9:Array Oper:=opsC (fstC (sndN 2 bl4))
noncomputable def r10:Array Oper:=opsC (match sndN 3 bl4 with | .cond _ x _=>x | c=>c)
noncomputable def r11:Array Oper:=opsC (match sndN 3 bl4 with | .cond _ _ x=>x | c=>c)
theorem part4_eq:part10 4=.seq (.region 4 r4 false) (.block 0 (.loop lp4)):=by kernel_rfl
theorem lp4_eq:lp4=.seq (.seq (.region 5 r5 false) (.cond (.tmp 36) .skip (.exit 0))) (.seq (.block 1 (.seq (.region 7 r7 false) (.seq (.region 8 r8 false) (.seq (.region 9 r9 false) (.cond (.tmp 49) (.region 10 r10 false) (.region 11 r11 false)))))) (.region 6 r6 false)):=by kernel_rfl
theorem t4_0:(r4[0]?).map (fun o=>(o.op,o.dst,o.guard))=some (.assign (.const (.int .i64 0)),some 10,none):=by kernel_rfl
theorem n4:List.range r4.size=[0]:=by kernel_rfl
theorem t5_0:(r5[0]?).map (fun o=>(o.op,o.dst,o.guard))=some (.move (.tmp 10),some 29,none):=by kernel_rfl
theorem t5_1:(r5[1]?).map (fun o=>(o.op,o.dst,o.guard))=some (.move (.tmp 0),some 30,none):=by kernel_rfl
theorem t5_2:(r5[2]?).map (fun o=>(o.op,o.dst,o.guard))=some (.call { callee:=.builtin .len,args:=#[.tmp 30],argTypes:=#[62] },some 31,none):=by kernel_rfl
theorem t5_3:(r5[3]?).map (fun o=>(o.op,o.dst,o.guard))=some (.binOp .lss 3 (.tmp 29) (.tmp 31) 3,some 32,none):=by kernel_rfl
theorem t5_4:(r5[4]?).map (fun o=>(o.op,o.dst,o.guard))=some (.move (.tmp 32),some 33,none):=by kernel_rfl
theorem t5_5:(r5[5]?).map (fun o=>(o.op,o.dst,o.guard))=some (.move (.tmp 10),some 34,some (4,true)):=by kernel_rfl
theorem t5_6:(r5[6]?).map (fun o=>(o.op,o.dst,o.guard))=some (.binOp .lss 3 (.tmp 34) (.const (.int .i64 40)) 3,some 35,some (4,true)):=by kernel_rfl
theorem t5_7:(r5[7]?).map (fun o=>(o.op,o.dst,o.guard))=some (.pick (.tmp 33) (.tmp 35) (.const (.bool false)),some 36,none):=by kernel_rfl
theorem g5_4:(r5[4]?).bind (·.dst)=some 33:=by kernel_rfl
theorem n5:List.range r5.size=[0,1,2,3,4,5,6,7]:=by kernel_rfl
theorem t6_0:(r6[0]?).map (fun o=>(o.op,o.dst,o.guard))=some (.move (.tmp 10),some 37,none):=by kernel_rfl
theorem t6_1:(r6[1]?).map (fun o=>(o.op,o.dst,o.guard))=some (.binOp .add 3 (.tmp 37) (.const (.int .i64 1)) 3,some 38,none):=by kernel_rfl
theorem t6_2:(r6[2]?).map (fun o=>(o.op,o.dst,o.guard))=some (.assign (.tmp 38),some 10,none):=by kernel_rfl
theorem n6:List.range r6.size=[0,1,2]:=by kernel_rfl
theorem t7_0:(r7[0]?).map (fun o=>(o.op,o.dst,o.guard))=some (.move (.tmp 0),some 39,none):=by kernel_rfl
theorem t7_1:(r7[1]?).map (fun o=>(o.op,o.dst,o.guard))=some (.move (.tmp 10),some 40,none):=by kernel_rfl
theorem t7_2:(r7[2]?).map (fun o=>(o.op,o.dst,o.guard))=some (.indexAddr 62 (.tmp 39) (.tmp 40),some 41,none):=by kernel_rfl
theorem t7_3:(r7[3]?).map (fun o=>(o.op,o.dst,o.guard))=some (.load 3 (.tmp 41),some 42,none):=by kernel_rfl
theorem t7_4:(r7[4]?).map (fun o=>(o.op,o.dst,o.guard))=some (.call { callee:=.value (.func 35),args:=#[.tmp 42,.const (.int .i64 3)],argTypes:=#[3,3] },some 43,none):=by kernel_rfl
theorem t7_5:(r7[5]?).map (fun o=>(o.op,o.dst,o.guard))=some (.binOp .eql 3 (.tmp 43) (.const (.int .i64 0)) 3,some 44,none):=by kernel_rfl
theorem t7_6:(r7[6]?).map (fun o=>(o.op,o.dst,o.guard))=some (.assign (.tmp 44),some 11,none):=by kernel_rfl
theorem n7:List.range r7.size=[0,1,2,3,4,5,6]:=by kernel_rfl
theorem t8_0:(r8[0]?).map (fun o=>(o.op,o.dst,o.guard))=some (.move (.tmp 9),some 45,none):=by kernel_rfl
theorem t8_1:(r8[1]?).map (fun o=>(o.op,o.dst,o.guard))=some (.move (.tmp 11),some 46,none):=by kernel_rfl
theorem t8_2:(r8[2]?).map (fun o=>(o.op,o.dst,o.guard))=some (.buildSlice 74 1 #[(0,.tmp 46)],some 47,none):=by kernel_rfl
theorem t8_3:(r8[3]?).map (fun o=>(o.op,o.dst,o.guard))=some (.call { callee:=.builtin .append,args:=#[.tmp 45,.tmp 47],argTypes:=#[74,74] },some 48,none):=by kernel_rfl
theorem t8_4:(r8[4]?).map (fun o=>(o.op,o.dst,o.guard))=some (.assign (.tmp 48),some 9,none):=by kernel_rfl
theorem n8:List.range r8.size=[0,1,2,3,4]:=by kernel_rfl
theorem t9_0:(r9[0]?).map (fun o=>(o.op,o.dst,o.guard))=some (.move (.tmp 11),some 49,none):=by kernel_rfl
theorem n9:List.range r9.size=[0]:=by kernel_rfl
theorem t10_0:(r10[0]?).map (fun o=>(o.op,o.dst,o.guard))=some (.move (.tmp 8),some 50,none):=by kernel_rfl
theorem t10_1:(r10[1]?).map (fun o=>(o.op,o.dst,o.guard))=some (.binOp .add 9 (.tmp 50) (.const (.string ⟨#[60,105,62]⟩)) 9,some 51,none):=by kernel_rfl
theorem t10_2:(r10[2]?).map (fun o=>(o.op,o.dst,o.guard))=some (.move (.tmp 10),some 52,none):=by kernel_rfl
theorem t10_3:(r10[3]?).map (fun o=>(o.op,o.dst,o.guard))=some (.call { callee:=.value (.func 36),args:=#[.tmp 52],argTypes:=#[3] },some 53,none):=by kernel_rfl
theorem t10_4:(r10[4]?).map (fun o=>(o.op,o.dst,o.guard))=some (.binOp .add 9 (.tmp 51) (.tmp 53) 9,some 54,none):=by kernel_rfl
theorem t10_5:(r10[5]?).map (fun o=>(o.op,o.dst,o.guard))=some (.binOp .add 9 (.tmp 54) (.const (.string ⟨#[60,47,105,62]⟩)) 9,some 55,none):=by kernel_rfl
theorem t10_6:(r10[6]?).map (fun o=>(o.op,o.dst,o.guard))=some (.assign (.tmp 55),some 8,none):=by kernel_rfl
theorem n10:List.range r10.size=[0,1,2,3,4,5,6]:=by kernel_rfl
theorem t11_0:(r11[0]?).map (fun o=>(o.op,o.dst,o.guard))=some (.move (.tmp 8),some 56,none):=by kernel_rfl
theorem t11_1:(r11[1]?).map (fun o=>(o.op,o.dst,o.guard))=some (.binOp .add 9 (.tmp 56) (.const (.string ⟨#[60,105,47,62]⟩)) 9,some 57,none):=by kernel_rfl
theorem t11_2:(r11[2]?).map (fun o=>(o.op,o.dst,o.guard))=some (.assign (.tmp 57),some 8,none):=by kernel_rfl
theorem n11:List.range r11.size=[0,1,2]:=by kernel_rfl
def upd (f:Nat→Value) (d:Nat) (v:Value):Nat→Value:=fun i=>if i=d then v else f i
abbrev AlM:FuncId→Prop:=fun f=>alM f=true
structure St (π:Ren Tryz.prog.globals.size) (f:Nat→Value) (a:Act):Prop where
 size:a.tmps.size=219
 defers:a.defers=[]
 val:∀ i,i < 219→a.eval (.tmp i)=f i
 rel:∀ i,i < 219→∃ z,VRel AlM π z (f i)
section
variable {π π':Ren Tryz.prog.globals.size} {f:Nat→Value} {a:Act}
theorem St.put (S:St π f a) (d:Nat) (v:Value) (hd:d < 219) (hv:∃ z,VRel AlM π z v):St π (upd f d v) (a.put (some d) v):=by
 refine ⟨by rw [put_size]; exact S.size,by rw [put_defers]; exact S.defers,fun i hi=>?_,fun i hi=>?_⟩
 ·rw [eval_put,S.size]
  unfold upd
  by_cases e:i=d
  ·rw [if_pos ⟨e,hd⟩,if_pos e]
  ·rw [if_neg (fun h=>e h.1),if_neg e]
   exact S.val i hi
 ·unfold upd
  by_cases e:i=d
  ·rw [if_pos e]; exact hv
  ·rw [if_neg e]; exact S.rel i hi
theorem St.mono (S:St π f a) (h:Ren.le π π'):St π' f a:=⟨S.size,S.defers,S.val,fun i hi=>(S.rel i hi).imp fun _ h'=>h'.mono h⟩
theorem rel_bool (b:Bool):∃ z,VRel AlM π z (.bool b):=⟨_,.bool b⟩
theorem rel_int (n:Int):∃ z,VRel AlM π z (.int .i64 n):=⟨_,.int .i64 n⟩
theorem rel_str (s:ByteArray):∃ z,VRel AlM π z (.string s):=⟨_,.string s⟩
theorem rel_lost (x:Value) (h:lostable x=true):∃ z,VRel AlM π z x:=⟨_,.lost x h⟩
end
section
variable {P:Program} {m:Bool} {N0:Nat} {σ:Type} {K:σ→(Nat→Prop)→Goroutine→World→Prop} {fn:FuncId} {Q:Exit→Act→σ→(Nat→Prop)→World→Prop} {a:Act} {s:σ} {O:Nat→Prop} {w:World} {ops:Array Oper} {i d:Nat} {rest:List Nat} {op:Op} {g:Option (Nat × Bool)}
theorem kplain (C:CloK P m N0 K) {v:Value} (hk:(ops[i]?).map (fun o=>(o.op,o.dst,o.guard))=some (op,some d,g)) (hw:∀ o:Oper,o.guard=g→Region.wanted o (yielded ops a.tmps)=true) (hr:∀ (o:Oper) w1,o.op=op→(execOp a.eval o).runT P w1 #[]=(.ok (.value v) w1,#[]))
  (h:opsK K fn ops rest Q (a.put (some d) v) s O w):opsK K fn ops (i :: rest) Q a s O w:=by
 obtain ⟨o,ho,e⟩:=Option.map_eq_some_iff.1 hk
 simp only [Prod.mk.injEq] at e
 obtain ⟨e1,e2,e3⟩:=e
 have h2:=fun w1=>hr o w1 e1
 simp only [Sem.runT_eq,Prod.mk.injEq] at h2
 refine opsK_plain C ho (hw o e3) (fun w1=>(h2 w1).1) (fun w1=>?_) (by rw [e2]; exact h)
 unfold listed
 rw [(h2 w1).2,seen_none]
theorem knot (C:CloK P m N0 K) {j:Nat} {b:Bool} (hk:(ops[i]?).map (fun o=>(o.op,o.dst,o.guard))=some (op,some d,some (j,b))) {dj:Nat} (hj:(ops[j]?).bind (·.dst)=some dj) (hs:dj < a.tmps.size) (hv:a.eval (.tmp dj)=.bool !b)
  (h:opsK K fn ops rest Q (a.put (some d) undef) s O w):opsK K fn ops (i :: rest) Q a s O w:=by
 obtain ⟨o,ho,e⟩:=Option.map_eq_some_iff.1 hk
 simp only [Prod.mk.injEq] at e
 obtain ⟨e1,e2,e3⟩:=e
 refine opsK_unwanted C ho ?_ (by rw [e2]; exact h)
 have e:a.tmps[dj]? = some (.bool !b):=by
  rw [Array.getElem?_eq_getElem hs]
  simpa [Act.eval,hs] using hv
 unfold Region.wanted yielded
 rw [e3]
 simp [hj,e]
theorem wanted_none (o:Oper) (h:o.guard=none):Region.wanted o (yielded ops a.tmps)=true:=by simp [Region.wanted,h]
theorem wanted_yes {j dj:Nat} {b:Bool} (hj:(ops[j]?).bind (·.dst)=some dj) (hs:dj < a.tmps.size) (hv:a.eval (.tmp dj)=.bool b) (o:Oper) (hg:o.guard=some (j,b)):Region.wanted o (yielded ops a.tmps)=true:=by
 have e:a.tmps[dj]? = some (.bool b):=by
  rw [Array.getElem?_eq_getElem hs]
  simpa [Act.eval,hs] using hv
 unfold Region.wanted yielded
 rw [hg]
 simp [hj,e]
theorem run_mv {x:Operand} {v:Value} (hx:a.eval x=v) (o:Oper) (w1:World) (hop:o.op=.move x∨o.op=.assign x):(execOp a.eval o).runT P w1 #[]=(.ok (.value v) w1,#[]):=by
 rw [Sem.runT_eq]
 unfold execOp
 rcases hop with hop | hop <;> (rw [hop]; simp [hx])
theorem run_pick {q x y:Operand} {t:Bool} {v:Value} (hq:a.eval q=.bool t) (hv:(if t then a.eval x else a.eval y)=v) (o:Oper) (w1:World) (hop:o.op=.pick q x y):(execOp a.eval o).runT P w1 #[]=(.ok (.value v) w1,#[]):=by
 rw [Sem.runT_eq]
 unfold execOp
 rw [hop]
 simp only [asBool,hq]
 simp [← hv]
theorem run_len {x:Operand} {ao:Option Addr} {n c:Nat} (hx:a.eval x=.slice ao n c) (o:Oper) (w1:World) (hop:o.op=.call { callee:=.builtin .len,args:=#[x],argTypes:=#[62] }):(execOp a.eval o).runT Tryz.prog w1 #[]=(.ok (.value (.int .i64 n)) w1,#[]):=by
 rw [Sem.runT_eq]
 unfold execOp
 rw [hop]
 revert hx
 generalize a.eval=ev
 intro hx
 simp [go_sem,hx]
theorem run_lss {x y:Operand} {i n:Int} (hx:a.eval x=.int .i64 i) (hy:a.eval y=.int .i64 n) {t:Bool} (ht:decide (i < n)=t) (o:Oper) (w1:World) (hop:o.op=.binOp .lss 3 x y 3):(execOp a.eval o).runT P w1 #[]=(.ok (.value (.bool t)) w1,#[]):=by
 rw [Sem.runT_eq]
 unfold execOp
 rw [hop]
 revert hx hy
 generalize a.eval=ev
 intro hx hy
 simp [go_sem,hx,hy,ht]
theorem run_eqi {x y:Operand} {i n:Int} (hx:a.eval x=.int .i64 i) (hy:a.eval y=.int .i64 n) {t:Bool} (ht:(i == n)=t) (o:Oper) (w1:World) (hop:o.op=.binOp .eql 3 x y 3):(execOp a.eval o).runT P w1 #[]=(.ok (.value (.bool t)) w1,#[]):=by
 rw [Sem.runT_eq]
 unfold execOp
 rw [hop]
 revert hx hy
 generalize a.eval=ev
 intro hx hy
 simp [go_sem,hx,hy,ht]
theorem run_addi {x y:Operand} {i n:Int} (hx:a.eval x=.int .i64 i) (hy:a.eval y=.int .i64 n) (hw:IntKind.i64.wrap (i+n)=i+n) (o:Oper) (w1:World) (hop:o.op=.binOp .add 3 x y 3):(execOp a.eval o).runT P w1 #[]=(.ok (.value (.int .i64 (i+n))) w1,#[]):=by
 rw [Sem.runT_eq]
 unfold execOp
 rw [hop]
 revert hx hy
 generalize a.eval=ev
 intro hx hy
 simp [go_sem,hx,hy,hw]
theorem run_cat {x y:Operand} {p q:ByteArray} (hx:a.eval x=.string p) (hy:a.eval y=.string q) (hs:p.size+q.size≤9223372036854775807) (o:Oper) (w1:World) (hop:o.op=.binOp .add 9 x y 9):(execOp a.eval o).runT P w1 #[]=(.ok (.value (.string (p++q))) w1,#[]):=by
 rw [Sem.runT_eq]
 unfold execOp
 rw [hop]
 simp only []
 rw [hx,hy]
 simp [go_sem,Op.stringOp]
 omega
theorem run_index {x y:Operand} {g off n c:Nat} {i:Nat} (hx:a.eval x=.slice (some ⟨g,off,none⟩) n c) (hy:a.eval y=.int .i64 (i:Int)) (hi:i < n) (o:Oper) (w1:World) (hop:o.op=.indexAddr 62 x y):(execOp a.eval o).runT Tryz.prog w1 #[]=(.ok (.value (.pointer (some ⟨g,off+i,none⟩))) w1,#[]):=by
 rw [Sem.runT_eq]
 unfold execOp
 rw [hop]
 revert hx hy
 generalize a.eval=ev
 intro hx hy
 have h3:¬ n≤i:=by omega
 simp [go_sem,hx,hy,h3,Instr.indexAt]
theorem run_loadi {x:Operand} {g off:Nat} {z:Int} {w1:World} (hx:a.eval x=.pointer (some ⟨g,off,none⟩)) (hc:w1.cell? ⟨g,off,none⟩=some (.int .i64 z)) (o:Oper) (hop:o.op=.load 3 x):(execOp a.eval o).runT Tryz.prog w1 #[]=(.ok (.value (.int .i64 z)) w1,#[⟨.cell ⟨g,off,none⟩,false,false⟩]):=by
 rw [Sem.runT_eq]
 unfold execOp
 rw [hop]
 revert hx
 generalize a.eval=ev
 intro hx
 simp [go_sem,hx,hc]
end
section
variable {m:Bool} {N0:Nat} {σ:Type} {K:σ→(Nat→Prop)→Goroutine→World→Prop} {fn:FuncId} {Q:Exit→Act→σ→(Nat→Prop)→World→Prop} {a:Act} {s:σ} {O:Nat→Prop} {w:World} {ops:Array Oper} {i d t:Nat} {rest:List Nat} {op:Op} {g:Option (Nat × Bool)} {π:Ren Tryz.prog.globals.size} {f:Nat→Value}
theorem smvG (C:CloK Tryz.prog m N0 K) (hk:(ops[i]?).map (fun o=>(o.op,o.dst,o.guard))=some (.move (.tmp t),some d,g)) (S:St π f a) (hw:∀ o:Oper,o.guard=g→Region.wanted o (yielded ops a.tmps)=true) (ht:t < 219) (hd:d < 219) (h:∀ a',St π (upd f d (f t)) a'→opsK K fn ops rest Q a' s O w):opsK K fn ops (i :: rest) Q a s O w :=
 kplain C (v:=f t) hk hw (fun o w1 e=>run_mv (S.val t ht) o w1 (.inl e)) (h _ (S.put d _ hd (S.rel t ht)))
theorem smv (C:CloK Tryz.prog m N0 K) (hk:(ops[i]?).map (fun o=>(o.op,o.dst,o.guard))=some (.move (.tmp t),some d,none)) (S:St π f a) (ht:t < 219) (hd:d < 219) (h:∀ a',St π (upd f d (f t)) a'→opsK K fn ops rest Q a' s O w):opsK K fn ops (i :: rest) Q a s O w :=
 smvG C hk S wanted_none ht hd h
theorem sas (C:CloK Tryz.prog m N0 K) (hk:(ops[i]?).map (fun o=>(o.op,o.dst,o.guard))=some (.assign (.tmp t),some d,none)) (S:St π f a) (ht:t < 219) (hd:d < 219) (h:∀ a',St π (upd f d (f t)) a'→opsK K fn ops rest Q a' s O w):opsK K fn ops (i :: rest) Q a s O w :=
 kplain C (v:=f t) hk wanted_none (fun o w1 e=>run_mv (S.val t ht) o w1 (.inr e)) (h _ (S.put d _ hd (S.rel t ht)))
theorem scn (C:CloK Tryz.prog m N0 K) {v:Value} (hv:∃ z,VRel AlM π z v) (hk:(ops[i]?).map (fun o=>(o.op,o.dst,o.guard))=some (.assign (.const v),some d,none)) (S:St π f a) (hd:d < 219) (h:∀ a',St π (upd f d v) a'→opsK K fn ops rest Q a' s O w):opsK K fn ops (i :: rest) Q a s O w :=
 kplain C (v:=v) hk wanted_none (fun o w1 e=>run_mv rfl o w1 (.inr e)) (h _ (S.put d _ hd hv))
theorem sval (C:CloK Tryz.prog m N0 K) {v:Value} (hv:∃ z,VRel AlM π z v) (hk:(ops[i]?).map (fun o=>(o.op,o.dst,o.guard))=some (op,some d,none)) (S:St π f a) (hr:∀ (o:Oper) w1,o.op=op→(execOp a.eval o).runT Tryz.prog w1 #[]=(.ok (.value v) w1,#[])) (hd:d < 219) (h:∀ a',St π (upd f d v) a'→opsK K fn ops rest Q a' s O w):opsK K fn ops (i :: rest) Q a s O w :=
 kplain C hk wanted_none hr (h _ (S.put d _ hd hv))
theorem St.v (S:St π f a) {t:Nat} {v:Value} (h:f t=v) (ht:t < 219):a.eval (.tmp t)=v:=(S.val t ht).trans h
theorem reg5 (C:CloK Tryz.prog m N0 K) (S:St π f a) {ao:Option Addr} {n cap j:Nat} (h0:f 0=.slice ao n cap) (h10:f 10=.int .i64 (j:Int)) (hQ:∀ a' f',St π f' a'→(∀ x,x < 29→f' x=f x)→f' 36=.bool (decide ((j:Int) < n) && decide ((j:Int) < 40))→Q .normal a' s O w):wpK K fn (.region 5 r5 false) Q a s O w:=by
 refine wpK_region C ?_
 rw [n5]
 refine smv C t5_0 S (by decide) (by decide) fun a1 S1=>?_
 refine smv C t5_1 S1 (by decide) (by decide) fun a2 S2=>?_
 refine sval C (rel_int _) t5_2 S2 (fun o w1 e=>run_len (S2.v (t:=30) h0 (by decide)) o w1 e) (by decide) fun a3 S3=>?_
 refine sval C (rel_bool (decide ((j:Int) < n))) t5_3 S3 (fun o w1 e=>run_lss (S3.v (t:=29) h10 (by decide)) (S3.v (t:=31) rfl (by decide)) rfl o w1 e) (by decide) fun a4 S4=>?_
 refine smv C t5_4 S4 (by decide) (by decide) fun a5 S5=>?_
 have e5:a5.eval (.tmp 33)=.bool (decide ((j:Int) < n)):=S5.v rfl (by decide)
 have keep:∀ x,x < 29→∀ v1 v2 v3,upd (upd (upd (upd (upd (upd (upd (upd f 29 (f 10)) 30 (f 0)) 31 (.int .i64 n)) 32 (.bool (decide ((j:Int) < n)))) 33 (.bool (decide ((j:Int) < n)))) 34 v1) 35 v2) 36 v3 x=f x:=by
  intro x hx v1 v2 v3
  unfold upd
  simp only [show x≠36 by omega,show x≠35 by omega,show x≠34 by omega,show x≠33 by omega,show x≠32 by omega,show x≠31 by omega,show x≠30 by omega,show x≠29 by omega,if_false]
 cases hb:decide ((j:Int) < n) with
 | true =>
  rw [hb] at e5
  refine smvG C t5_5 S5 (wanted_yes g5_4 (by rw [S5.size]; decide) e5) (by decide) (by decide) fun a6 S6=>?_
  have e6:a6.eval (.tmp 33)=.bool true:=by rw [S6.v (t:=33) (v:=.bool (decide ((j:Int) < n))) rfl (by decide),hb]
  refine kplain C (v:=.bool (decide ((j:Int) < 40))) t5_6 (wanted_yes g5_4 (by rw [S6.size]; decide) e6) (fun o w1 e=>run_lss (S6.v (t:=34) h10 (by decide)) rfl rfl o w1 e) ?_
  have S7:=S6.put 35 (.bool (decide ((j:Int) < 40))) (by decide) (rel_bool _)
  generalize a6.put (some 35) (.bool (decide ((j:Int) < 40)))=a7 at S7 ⊢
  have e7:a7.eval (.tmp 33)=.bool true:=by rw [S7.v (t:=33) (v:=.bool (decide ((j:Int) < n))) rfl (by decide),hb]
  refine sval C (rel_bool (decide ((j:Int) < 40))) t5_7 S7 (fun o w1 e=>run_pick e7 (by rw [if_pos rfl]; exact S7.v rfl (by decide)) o w1 e) (by decide) fun a8 S8=>?_
  exact opsK_nil C (hQ a8 _ S8 (fun x hx=>keep x hx _ _ _) (by rw [hb]; rfl))
 | false =>
  rw [hb] at e5
  refine knot C t5_5 g5_4 (by rw [S5.size]; decide) e5 ?_
  have S6:=S5.put 34 undef (by decide) ⟨_,undef_rel _ _⟩
  generalize a5.put (some 34) undef=a6 at S6 ⊢
  have e6:a6.eval (.tmp 33)=.bool false:=by rw [S6.v (t:=33) (v:=.bool (decide ((j:Int) < n))) rfl (by decide),hb]
  refine knot C t5_6 g5_4 (by rw [S6.size]; decide) e6 ?_
  have S7:=S6.put 35 undef (by decide) ⟨_,undef_rel _ _⟩
  generalize a6.put (some 35) undef=a7 at S7 ⊢
  have e7:a7.eval (.tmp 33)=.bool false:=by rw [S7.v (t:=33) (v:=.bool (decide ((j:Int) < n))) rfl (by decide),hb]
  refine sval C (rel_bool false) t5_7 S7 (fun o w1 e=>run_pick e7 (by rw [if_neg (by decide)]; rfl) o w1 e) (by decide) fun a8 S8=>?_
  exact opsK_nil C (hQ a8 _ S8 (fun x hx=>keep x hx _ _ _) (by rw [hb]; rfl))
theorem reg6 (C:CloK Tryz.prog m N0 K) (S:St π f a) {j:Nat} (h10:f 10=.int .i64 (j:Int)) (hj:j≤40) (hQ:∀ a' f',St π f' a'→(∀ x,x < 29→x≠10→f' x=f x)→f' 10=.int .i64 ((j+1:Nat):Int)→Q .normal a' s O w):wpK K fn (.region 6 r6 false) Q a s O w:=by
 refine wpK_region C ?_
 rw [n6]
 refine smv C t6_0 S (by decide) (by decide) fun a1 S1=>?_
 refine sval C (rel_int ((j:Int)+1)) t6_1 S1 (fun o w1 e=>run_addi (S1.v (t:=37) h10 (by decide)) rfl (by simp [IntKind.wrap,IntKind.bits,IntKind.signed]; omega) o w1 e) (by decide) fun a2 S2=>?_
 refine sas C t6_2 S2 (by decide) (by decide) fun a3 S3=>?_
 refine opsK_nil C (hQ a3 _ S3 (fun x hx hx'=>?_) (by show Value.int .i64 ((j:Int)+1)=_; simp))
 unfold upd
 simp only [show x≠10 from hx',show x≠38 by omega,show x≠37 by omega,if_false]
theorem reg9 (C:CloK Tryz.prog m N0 K) (S:St π f a) (hQ:∀ a' f',St π f' a'→(∀ x,x < 29→f' x=f x)→f' 49=f 11→Q .normal a' s O w):wpK K fn (.region 9 r9 false) Q a s O w:=by
 refine wpK_region C ?_
 rw [n9]
 refine smv C t9_0 S (by decide) (by decide) fun a1 S1=>?_
 refine opsK_nil C (hQ a1 _ S1 (fun x hx=>?_) rfl)
 unfold upd
 simp only [show x≠49 by omega,if_false]
theorem reg11 (C:CloK Tryz.prog m N0 K) (S:St π f a) {D:ByteArray} (h8:f 8=.string D) (hD:D.size+4≤9223372036854775807) (hQ:∀ a' f',St π f' a'→(∀ x,x < 29→x≠8→f' x=f x)→f' 8=.string (D++⟨#[60,105,47,62]⟩)→Q .normal a' s O w):wpK K fn (.region 11 r11 false) Q a s O w:=by
 refine wpK_region C ?_
 rw [n11]
 refine smv C t11_0 S (by decide) (by decide) fun a1 S1=>?_
 refine sval C (rel_str _) t11_1 S1 (fun o w1 e=>run_cat (q:=⟨#[60,105,47,62]⟩) (S1.v (t:=56) h8 (by decide)) rfl hD o w1 e) (by decide) fun a2 S2=>?_
 refine sas C t11_2 S2 (by decide) (by decide) fun a3 S3=>?_
 refine opsK_nil C (hQ a3 _ S3 (fun x hx hx'=>?_) rfl)
 unfold upd
 simp only [show x≠8 from hx',show x≠57 by omega,show x≠56 by omega,if_false]
variable {E:Nat→Prop} {wE u:World}
theorem reg10 (C:CloK Tryz.prog m 0 K) (V:InView Tryz.prog alM glP 0 E wE O π u w) (S:St π f a) {D:ByteArray} {j:Nat} (h8:f 8=.string D) (h10:f 10=.int .i64 (j:Int)) (hj:j < 100) (hD:D.size+100≤9223372036854775807)
  (hQ:∀ a' f' O' π' u' w',Ren.le π π'→InView Tryz.prog alM glP 0 E wE O' π' u' w'→Old u u'→St π' f' a'→(∀ x,x < 29→x≠8→f' x=f x)→f' 8=.string (D++⟨#[60,105,62]⟩++⟨(decI (j:Int)).toArray⟩++⟨#[60,47,105,62]⟩)→Q .normal a' s O' w'):wpK K fn (.region 10 r10 false) Q a s O w:=by
 have hdj:(decI (j:Int)).length≤2:=by
  rw [show decI (j:Int)=decL j from by unfold decI; rw [if_neg (by omega),Int.toNat_natCast]]
  exact (dec_len j).1
 refine wpK_region C ?_
 rw [n10]
 refine smv C t10_0 S (by decide) (by decide) fun a1 S1=>?_
 refine sval C (rel_str _) t10_1 S1 (fun o w1 e=>run_cat (S1.v (t:=50) h8 (by decide)) rfl (by show D.size+3≤_; omega) o w1 e) (by decide) fun a2 S2=>?_
 refine smv C t10_2 S2 (by decide) (by decide) fun a3 S3=>?_
 obtain ⟨o,ho,e⟩:=Option.map_eq_some_iff.1 t10_3
 simp only [Prod.mk.injEq] at e
 obtain ⟨e1,e2,e3⟩:=e
 have hx3:a3.eval (.tmp 52)=.int .i64 (j:Int):=S3.v h10 (by decide)
 refine opsK_callV C setupM V ho (wanted_none o e3) e1 rfl Tryz.func36 rfl rfl (xs:=#[.int .i64 (j:Int)]) ⟨by simp,fun k hk hk'=>?_⟩ (Post:=fun x u1=>x=.string ⟨(decI (j:Int)).toArray⟩∧Old u u1) (fun x w' T d h=>⟨h.1,h.2.trans (Old.heap rfl)⟩) (fun T=>(dec_q (u.re T 0) (j:Int) (by omega)).mono ?_) ?_
 ·have hk:k < 1:=hk
  obtain rfl:k=0:=by omega
  simp only [List.map_toArray,List.map_cons,List.map_nil]
  show VRel _ _ (.int .i64 (j:Int)) (a3.eval (.tmp 52))
  rw [hx3]
  exact .int _ _
 ·rintro e w' ⟨rfl,ho⟩
  exact ⟨_,rfl,rfl,(Old.heap (w:=u) (w':=u.re T 0) rfl).trans ho⟩
 rintro O1 π1 x x' u1 w1 hle ⟨rfl,o1⟩ hx V1
 obtain rfl:x'=.string ⟨(decI (j:Int)).toArray⟩:=plain_eq hx rfl
 rw [e2]
 have S4:=(S3.mono hle).put 53 (.string ⟨(decI (j:Int)).toArray⟩) (by decide) (rel_str _)
 generalize a3.put (some 53) (.string ⟨(decI (j:Int)).toArray⟩)=a4 at S4 ⊢
 have sz:(⟨(decI (j:Int)).toArray⟩:ByteArray).size≤2:=by show (decI (j:Int)).toArray.size≤2; simpa using hdj
 have sz1:(D++⟨#[60,105,62]⟩:ByteArray).size=D.size+3:=by rw [ByteArray.size_append]; rfl
 refine sval C (rel_str _) t10_4 S4 (fun o w1 e=>run_cat (S4.v (t:=51) rfl (by decide)) (S4.v (t:=53) rfl (by decide)) (by rw [sz1]; omega) o w1 e) (by decide) fun a5 S5=>?_
 refine sval C (rel_str _) t10_5 S5 (fun o w1 e=>run_cat (S5.v (t:=54) rfl (by decide)) rfl (by rw [ByteArray.size_append,sz1]; show _+4≤_; omega) o w1 e) (by decide) fun a6 S6=>?_
 refine sas C t10_6 S6 (by decide) (by decide) fun a7 S7=>?_
 refine opsK_nil C (hQ a7 _ O1 π1 u1 w1 hle V1 o1 S7 (fun x hx hx'=>?_) rfl)
 unfold upd
 simp only [show x≠8 from hx',show x≠55 by omega,show x≠54 by omega,show x≠53 by omega,show x≠52 by omega,show x≠51 by omega,show x≠50 by omega,if_false]
theorem reg7 (C:CloK Tryz.prog m 0 K) (V:InView Tryz.prog alM glP 0 E wE O π u w) (S:St π f a) {gb off n cap j:Nat} {z:Int} (h0:f 0=.slice (some ⟨gb,off,none⟩) n cap) (h10:f 10=.int .i64 (j:Int)) (hj:j < n) (hz:-9223372036854775808≤z∧z≤9223372036854775807) (hO:O gb) (hc:w.cell? ⟨gb,off+j,none⟩=some (.int .i64 z))
  (hQ:∀ a' f' O' π' u' w',Ren.le π π'→InView Tryz.prog alM glP 0 E wE O' π' u' w'→Old u u'→St π' f' a'→(∀ x,x < 29→x≠11→f' x=f x)→f' 11=.bool (pickP z 3 == 0)→Q .normal a' s O' w'):wpK K fn (.region 7 r7 false) Q a s O w:=by
 refine wpK_region C ?_
 rw [n7]
 refine smv C t7_0 S (by decide) (by decide) fun a1 S1=>?_
 refine smv C t7_1 S1 (by decide) (by decide) fun a2 S2=>?_
 refine sval C (rel_lost (.pointer (some ⟨gb,off+j,none⟩)) rfl) t7_2 S2 (fun o w1 e=>run_index (S2.v (t:=39) h0 (by decide)) (S2.v (t:=40) h10 (by decide)) hj o w1 e) (by decide) fun a3 S3=>?_
 have hx3:a3.eval (.tmp 41)=.pointer (some ⟨gb,off+j,none⟩):=S3.v rfl (by decide)
 obtain ⟨o,ho,e⟩:=Option.map_eq_some_iff.1 t7_3
 simp only [Prod.mk.injEq] at e
 obtain ⟨e1,e2,e3⟩:=e
 refine opsK_value C ho (wanted_none o e3) fun w1 h1=>?_
 have hc1:w1.cell? ⟨gb,off+j,none⟩=some (.int .i64 z):=by
  unfold World.cell? at hc ⊢
  rw [show (⟨gb,off+j,none⟩:Addr).block=gb from rfl] at hc ⊢
  rw [h1.own gb hO]
  exact hc
 have hr:=run_loadi (w1:=w1) hx3 hc1 o e1
 rw [Sem.runT_eq] at hr
 simp only [Prod.mk.injEq] at hr
 refine ⟨.int .i64 z,w1,hr.1,⟨Nat.le_refl _,fun _ _ _=>rfl,⟨rfl,rfl,rfl,Nat.le_refl _⟩,fun ev hev=>?_⟩,?_⟩
 ·unfold listed at hev
  rw [hr.2] at hev
  have:=Go.Conc.mem_seen hev
  simp only [List.mem_toArray,List.mem_singleton] at this
  subst this
  exact .inl ⟨_,rfl,rfl,.inl (.inl hO)⟩
 rw [grow_self,e2]
 have S4:=S3.put 42 (.int .i64 z) (by decide) (rel_int z)
 generalize a3.put (some 42) (.int .i64 z)=a4 at S4 ⊢
 have V1:=V.rely h1
 obtain ⟨o',ho',e'⟩:=Option.map_eq_some_iff.1 t7_4
 simp only [Prod.mk.injEq] at e'
 obtain ⟨e1',e2',e3'⟩:=e'
 have hx4:a4.eval (.tmp 42)=.int .i64 z:=S4.v rfl (by decide)
 refine opsK_callV C setupM V1 ho' (wanted_none o' e3') e1' rfl Tryz.func35 rfl rfl (xs:=#[.int .i64 z,.int .i64 3]) ⟨by simp,fun k hk hk'=>?_⟩ (Post:=fun x u1=>x=.int .i64 (pickP z 3)∧Old u u1) (fun x w' T d h=>⟨h.1,h.2.trans (Old.heap rfl)⟩) (fun T=>(pick_q (u.re T 0) z 3 hz ⟨by omega,by omega⟩).mono ?_) ?_
 ·have hk:k < 2:=hk
  obtain rfl | rfl:k=0∨k=1:=by omega
  ·simp only [List.map_toArray,List.map_cons,List.map_nil]
   show VRel _ _ (.int .i64 z) (a4.eval (.tmp 42))
   rw [hx4]
   exact .int _ _
  ·simp only [List.map_toArray,List.map_cons,List.map_nil]
   show VRel _ _ (.int .i64 3) (.int .i64 3)
   exact .int _ _
 ·rintro e w' ⟨rfl,rfl⟩
  exact ⟨_,rfl,rfl,Old.heap rfl⟩
 rintro O2 π2 x x' u2 w2 hle ⟨rfl,o2⟩ hx V2
 obtain rfl:x'=.int .i64 (pickP z 3):=plain_eq hx rfl
 rw [e2']
 have S5:=(S4.mono hle).put 43 (.int .i64 (pickP z 3)) (by decide) (rel_int _)
 generalize a4.put (some 43) (.int .i64 (pickP z 3))=a5 at S5 ⊢
 refine sval C (rel_bool (pickP z 3 == 0)) t7_5 S5 (fun o w1 e=>run_eqi (S5.v (t:=43) rfl (by decide)) rfl rfl o w1 e) (by decide) fun a6 S6=>?_
 refine sas C t7_6 S6 (by decide) (by decide) fun a7 S7=>?_
 refine opsK_nil C (hQ a7 _ O2 π2 u2 w2 hle V2 o2 S7 (fun x hx hx'=>?_) rfl)
 unfold upd
 simp only [show x≠11 from hx',show x≠44 by omega,show x≠43 by omega,show x≠42 by omega,show x≠41 by omega,show x≠40 by omega,show x≠39 by omega,if_false]
end
theorem infoB:∃ i,Tryz.prog.info? 4=some i∧i.zero=some (.bool false)∧i.size=1∧i.bytes=1:=by
 have h:=infoBool
 cases hi:Tryz.prog.info? 4 with
 | none=>rw [hi] at h; cases h
 | some i =>
  rw [hi] at h
  simp only [Option.map_some,Option.some.injEq,Prod.mk.injEq] at h
  exact ⟨i,rfl,h.1,h.2.1,h.2.2⟩
theorem run_buildB (o:Oper) (s:Nat) (hop:o.op=.buildSlice 74 1 #[(0,.tmp s)]) (u:World) (b:Bool):(execOp (one (.bool b)) o).run Tryz.prog u=.ok (.value (.slice (some ⟨u.heap.size,0,none⟩) 1 1)) (u.alloc (.cells #[.bool b] 4)):=by
 obtain ⟨i,hi,hz,hs,hb⟩:=infoB
 have e:=run_buildSlice u 74 4 1 #[(0,.bool b)] #[.bool b] i _ Tryz.underlying74 hi hz (by rw [hs]; decide) (by rw [hs]; decide) (by rw [hs]; simp [Instr.fill,Value.cells,show Array.range 1=#[0] from rfl])
 unfold execOp
 rw [hop]
 simp [one,e]
theorem run_appendB (o:Oper) (s t:Nat) (hop:o.op=.call { callee:=.builtin .append,args:=#[.tmp s,.tmp t],argTypes:=#[74,74] }) (u:World) (base:Nat) (v:Value) (l:List Bool) (b:Bool) (ad:Addr) (hown:u.ownsRow base 4 1 v l.length (l.map .bool)) (hx:u.cell? ad=some (.bool b)) (hl:l.length < 1099511627776) (hb:base≤u.heap.size)
  (ρ:Operand→Value) (h1:ρ (.tmp s)=v) (h2:ρ (.tmp t)=.slice (some ad) 1 1):∃ v' u',(execOp ρ o).run Tryz.prog u=.ok (.value v') u'∧u'.ownsRow base 4 1 v' (l.length+1) ((l++[b]).map .bool)∧u.grownBy u' v.ownBlock:=by
 obtain ⟨i,hi,hz,hs,hb'⟩:=infoB
 obtain ⟨v',u',e,h3,h4,-⟩:=run_append_own (P:=Tryz.prog) u base 74 o.type 4 i _ 1 1 Tryz.underlying74 hi hz hs hb' rfl (by decide) v l.length (l.map .bool) hown ad 1 1 [.bool b] rfl (fun j x hj=>by
  cases j with
  | zero=>simp at hj; subst hj; exact hx
  | succ j=>simp at hj) (fun x hx=>by simp at hx; subst hx; rfl) (by simp only [maxLen]; omega) (by omega) hb
 refine ⟨v',u',?_,by rw [List.map_append]; exact h3,h4⟩
 unfold execOp
 rw [hop]
 simp only [resolve,invoke,builtin,Sem.run_bind,Sem.run_pure,Result.andThen_ok,List.map_toArray,List.map_cons,List.map_nil,h1,h2,e]
section
variable {m:Bool} {σ:Type} {K:σ→(Nat→Prop)→Goroutine→World→Prop} {fn:FuncId} {Q:Exit→Act→σ→(Nat→Prop)→World→Prop} {a:Act} {s:σ} {O E:Nat→Prop} {wE u w:World} {π:Ren Tryz.prog.globals.size} {f:Nat→Value}
theorem reg8 (C:CloK Tryz.prog m 0 K) (V:InView Tryz.prog alM glP 0 E wE O π u w) (S:St π f a) {u0:World} (hou:Old u0 u) {y:Value} {l:List Bool} {b:Bool} (h11:f 11=.bool b) (hy:VRel AlM π y (f 9)) (hown:u.ownsRow u0.heap.size 4 1 y l.length (l.map .bool)) (hl:l.length < 1000)
  (hQ:∀ a' f' O' π' u' w' y',Ren.le π π'→InView Tryz.prog alM glP 0 E wE O' π' u' w'→Old u0 u'→u'.ownsRow u0.heap.size 4 1 y' (l.length+1) ((l++[b]).map .bool)→St π' f' a'→(∀ x,x < 29→x≠9→f' x=f x)→VRel AlM π' y' (f' 9)→Q .normal a' s O' w'):wpK K fn (.region 8 r8 false) Q a s O w:=by
 refine wpK_region C ?_
 rw [n8]
 refine smv C t8_0 S (by decide) (by decide) fun a1 S1=>?_
 refine smv C t8_1 S1 (by decide) (by decide) fun a2 S2=>?_
 obtain ⟨o2,ho2,e⟩:=Option.map_eq_some_iff.1 t8_2
 simp only [Prod.mk.injEq] at e
 obtain ⟨p2,d2,g2⟩:=e
 obtain ⟨o3,ho3,e⟩:=Option.map_eq_some_iff.1 t8_3
 simp only [Prod.mk.injEq] at e
 obtain ⟨p3,d3,g3⟩:=e
 refine opsK_view C setupM V (ρ:=one (.bool b)) (Post:=fun y u1=>y=.slice (some ⟨u.heap.size,0,none⟩) 1 1∧∃ T d,u1=(u.re T d).alloc (.cells #[.bool b] 4)) ho2 (wanted_none o2 g2) (by rw [p2]; kernel_rfl) (fun _=>rfl) (fun z hz=>?_) (fun T d=>⟨_,_,run_buildB o2 46 p2 _ b,rfl,T,d,rfl⟩) ?_
 ·rw [p2] at hz
  have hz:z∈(#[Operand.tmp 46]:Array Operand):=by simpa [Op.operands] using hz
  simp only [List.mem_toArray,List.mem_singleton] at hz
  subst hz
  rw [S2.v (t:=46) h11 (by decide)]
  exact .bool _
 rintro O1 π1 y1 y1' u1 w1 ext1 ⟨rfl,T1,d1,rfl⟩ hy1 V1
 rw [d2]
 have S3:=(S2.mono ext1.le).put 47 y1' (by decide) ⟨_,hy1⟩
 generalize a2.put (some 47) y1'=a3 at S3 ⊢
 have hown1:∀ T d,World.ownsRow (((u.re T1 d1).alloc (.cells #[.bool b] 4)).re T d) u0.heap.size 4 1 y l.length (l.map .bool):=fun T d=>by
  have hown':(u.re T1 d1).ownsRow u0.heap.size 4 1 y l.length (l.map .bool):=hown
  exact hown'.alloc _
 have hcell1:∀ T d,World.cell? (((u.re T1 d1).alloc (.cells #[.bool b] 4)).re T d) ⟨u.heap.size,0,none⟩=some (.bool b):=fun T d=>by
  have e:(((u.re T1 d1).alloc (.cells #[.bool b] 4)).re T d).heap[u.heap.size]? = some (.cells #[.bool b] 4):=by
   show (u.heap.push _)[u.heap.size]? = _
   simp
  simp [World.cell?,e]
 have ho1:∀ T d,Old u0 (((u.re T1 d1).alloc (.cells #[.bool b] 4)).re T d):=fun T d=>by
  have h1:Old u0 (u.re T1 d1):=hou.trans (Old.heap rfl)
  exact (h1.alloc _).trans (Old.heap rfl)
 refine opsK_view C setupM V1 (ρ:=two 47 y (.slice (some ⟨u.heap.size,0,none⟩) 1 1)) (Post:=fun y' u2=>u2.ownsRow u0.heap.size 4 1 y' (l.length+1) ((l++[b]).map .bool)∧Old u0 u2) ho3 (wanted_none o3 g3) (by rw [p3]; kernel_rfl) (fun _=>rfl) (fun z hz=>?_) (fun T d=>?_) ?_
 ·rw [p3] at hz
  have hz:z∈(#[Operand.tmp 45,.tmp 47]:Array Operand):=by simpa [Op.operands,Call.operands] using hz
  simp only [List.mem_toArray,List.mem_cons,List.not_mem_nil,or_false] at hz
  rcases hz with rfl | rfl
  ·show VRel _ _ y _
   rw [S3.v (t:=45) (v:=f 9) rfl (by decide)]
   exact hy.mono ext1.le
  ·show VRel _ _ (.slice (some ⟨u.heap.size,0,none⟩) 1 1) _
   rw [S3.v (t:=47) (v:=y1') rfl (by decide)]
   exact hy1
 ·obtain ⟨v',u',q1,q2,q3⟩:=run_appendB o3 45 47 p3 _ u0.heap.size y l b ⟨u.heap.size,0,none⟩ (hown1 T d) (hcell1 T d) (by omega) (ho1 T d).size (two 47 y (.slice (some ⟨u.heap.size,0,none⟩) 1 1)) (by simp [two]) (by simp [two])
  exact ⟨v',u',q1,q2,(ho1 T d).grown q3 (fun k e=>((hown1 T d).lt k e).1)⟩
 rintro O2 π2 y2 y2' u2 w2 ext2 ⟨q1,q2⟩ hy2 V2
 rw [d3]
 have S4:=(S3.mono ext2.le).put 48 y2' (by decide) ⟨_,hy2⟩
 generalize a3.put (some 48) y2'=a4 at S4 ⊢
 refine sas C t8_4 S4 (by decide) (by decide) fun a5 S5=>?_
 refine opsK_nil C (hQ a5 _ O2 π2 u2 w2 y2 (ext1.trans ext2).le V2 q2 q1 S5 (fun x hx hx'=>?_) hy2)
 unfold upd
 simp only [show x≠9 from hx',show x≠48 by omega,show x≠47 by omega,show x≠46 by omega,show x≠45 by omega,if_false]
end
section
variable {m:Bool} {K:Unit→(Nat→Prop)→Goroutine→World→Prop} {fn:FuncId} {Q:Exit→Act→Unit→(Nat→Prop)→World→Prop} {a:Act} {s:Unit} {O E:Nat→Prop} {wE u w:World} {π:Ren Tryz.prog.globals.size} {f:Nat→Value}
def RawR (O:Nat→Prop) (w:World) (x:Value) (R:List Int):Prop:=∃ ao cap,x=.slice ao R.length cap∧R.length≤9223372036854775807∧∀ j z,R[j]? = some z→(-9223372036854775808≤z∧z≤9223372036854775807)∧∃ g o,ao=some ⟨g,o,none⟩∧O g∧w.cell? ⟨g,o+j,none⟩=some (.int .i64 z)
def HeadC (E:Nat→Prop) (wE u0:World) (x0:Value) (R:List Int) (v1 v2 v7:Value) (π0:Ren Tryz.prog.globals.size) (n:Nat) (a:Act) (_:Unit) (O:Nat→Prop) (w:World):Prop :=
 ∃ (i:Nat) (D:ByteArray) (y:Value) (f:Nat→Value) (π:Ren Tryz.prog.globals.size) (u:World),i≤R.length∧i≤40∧n=40 - i∧Ren.le π0 π∧InView Tryz.prog alM glP 0 E wE O π u w∧Old u0 u∧St π f a∧f 0=x0∧f 1=v1∧f 2=v2∧f 7=v7∧f 8=.string D∧f 10=.int .i64 (i:Int)∧VRel AlM π y (f 9)∧u.ownsRow u0.heap.size 4 1 y i ((fsOf R i).map .bool) ∧
  D.data.toList=[60,100,105,118,62]++itemsL 0 (fsOf R i)∧D.size≤5+9 * i
theorem c4_round (C : CloK Tryz.prog m 0 K) {u0 : World} {x0 : Value} {R : List Int} (HR : ∀ O π u w, InView Tryz.prog alM glP 0 E wE O π u w → Old u0 u → RawR O w x0 R) {v1 v2 v7 : Value} {π0 : Ren Tryz.prog.globals.size} (n : Nat) (a : Act) (s : Unit) (O : Nat → Prop) (w : World) (H : HeadC E wE u0 x0 R v1 v2 v7 π0 n a s O w)
  (hQ:∀ n a O w,n=40 - min R.length 40→HeadC E wE u0 x0 R v1 v2 v7 π0 n a s O w→Q .normal a s O w) :
  wpK K fn lp4 (thenK (fun a' s' O' w'=>∃ n',n' < n∧HeadC E wE u0 x0 R v1 v2 v7 π0 n' a' s' O' w') (blockK 0 Q)) a s O w:=by
 obtain ⟨i,D,y,f,π,u,hiR,hi40,rfl,hle0,V,hou,S,h0,h1,h2,h7,h8,h10,hy,hown,hD,hsz⟩:=H
 obtain ⟨ao,cap,rfl,hlen,hcells⟩:=HR O π u w V hou
 rw [lp4_eq]
 refine wpK_seq C (wpK_seq C (reg5 C S h0 h10 fun a1 f1 S1 k1 h36=>?_))
 refine wpK_cond C (S1.v h36 (by decide)) ?_
 by_cases hlt:i < R.length
 ·by_cases h40 : i < 40
  ·rw [show (decide ((i:Int) < (R.length:Nat)) && decide ((i:Int) < 40))=true from by rw [decide_eq_true (by omega),decide_eq_true (by omega)]; rfl,if_pos rfl]
   refine wpK_skip C ?_
   obtain ⟨z,hz⟩:∃ z,R[i]? = some z:=⟨R[i],List.getElem?_eq_getElem hlt⟩
   obtain ⟨hzb,g,o,rfl,hOg,q0⟩:=hcells i z hz
   have HF:=fsOf_succ hz
   have hfl:=fsOf_len (R:=R) (i:=i) hiR
   have HI:∀ (t:List UInt8),itemL i (pickP z 3 == 0)=t→itemsL 0 (fsOf R (i+1))=itemsL 0 (fsOf R i)++t:=fun t ht=>by
    rw [HF,itemsL_snoc,hfl,Nat.zero_add,ht]
   refine wpK_seq C (wpK_block C (wpK_seq C (reg7 C V S1 ((k1 0 (by decide)).trans h0) ((k1 10 (by decide)).trans h10) hlt hzb hOg q0 fun a2 f2 O2 π2 u2 w2 le2 V2 o2 S2 k2 h11=>?_)))
   have hy2:VRel AlM π2 y (f2 9):=by rw [k2 9 (by decide) (by decide),k1 9 (by decide)]; exact hy.mono le2
   have hown2:u2.ownsRow u0.heap.size 4 1 y (fsOf R i).length ((fsOf R i).map .bool):=by rw [hfl]; exact o2.owns hown
   refine wpK_seq C (reg8 C V2 S2 (hou.trans o2) h11 hy2 hown2 (by omega) fun a3 f3 O3 π3 u3 w3 y3 le3 V3 o3 own3 S3 k3 hy3=>?_)
   rw [hfl,← HF] at own3
   refine wpK_seq C (reg9 C S3 fun a4 f4 S4 k4 h49=>?_)
   have kk:∀ x,x < 29→x≠9→x≠11→f4 x=f x:=fun x hx h9 h11=>by rw [k4 x hx,k3 x hx h9,k2 x hx h11,k1 x hx]
   have h11':f4 49=.bool (pickP z 3 == 0):=by rw [h49,k3 11 (by decide) (by decide),h11]
   have hy4:VRel AlM π3 y3 (f4 9):=by rw [k4 9 (by decide)]; exact hy3
   have h84:f4 8=.string D:=(kk 8 (by decide) (by decide) (by decide)).trans h8
   have h104:f4 10=.int .i64 (i:Int):=(kk 10 (by decide) (by decide) (by decide)).trans h10
   refine wpK_cond C (S4.v h11' (by decide)) ?_
   have fin:∀ (a5:Act) (f5:Nat→Value) (O5:Nat→Prop) (π5:Ren Tryz.prog.globals.size) (u5 w5:World) (t:List UInt8),itemL i (pickP z 3 == 0)=t→t.length≤9→Ren.le π3 π5→InView Tryz.prog alM glP 0 E wE O5 π5 u5 w5→Old u3 u5→St π5 f5 a5→(∀ x,x < 29→x≠8→f5 x=f4 x)→f5 8=.string (D++⟨t.toArray⟩) →
     wpK K fn (.region 6 r6 false) (thenK (fun a' s' O' w'=>∃ n',n' < 40 - i∧HeadC E wE u0 (.slice (some ⟨g,o,none⟩) R.length cap) R v1 v2 v7 π0 n' a' s' O' w') (blockK 0 Q)) a5 s O5 w5:=by
    intro a5 f5 O5 π5 u5 w5 t ht htl le5 V5 o5 S5 k5 h85
    refine reg6 C S5 ((k5 10 (by decide) (by decide)).trans h104) hi40 fun a6 f6 S6 k6 h106=>?_
    have k65:∀ x,x < 29→x≠8→x≠9→x≠10→x≠11→f6 x=f x:=fun x hx h8 h9 h10 h11=>by rw [k6 x hx h10,k5 x hx h8,kk x hx h9 h11]
    refine ⟨40 - (i+1),by omega,i+1,D++⟨t.toArray⟩,y3,f6,π5,u5,by omega,by omega,rfl,Ren.le_trans hle0 (Ren.le_trans le2 (Ren.le_trans le3 le5)),V5,o3.trans o5,S6,?_,?_,?_,?_,?_,h106,?_,o5.owns own3,?_,?_⟩
    ·rw [k65 0 (by decide) (by decide) (by decide) (by decide) (by decide)]; exact h0
    ·rw [k65 1 (by decide) (by decide) (by decide) (by decide) (by decide)]; exact h1
    ·rw [k65 2 (by decide) (by decide) (by decide) (by decide) (by decide)]; exact h2
    ·rw [k65 7 (by decide) (by decide) (by decide) (by decide) (by decide)]; exact h7
    ·rw [k6 8 (by decide) (by decide)]; exact h85
    ·rw [k6 9 (by decide) (by decide),k5 9 (by decide) (by decide)]; exact hy4.mono le5
    ·rw [HI t ht,ByteArray.data_append,Array.toList_append,hD]; simp
    ·rw [ByteArray.size_append]
     have:(⟨t.toArray⟩:ByteArray).size=t.length:=by show t.toArray.size=_; simp
     omega
   cases hg:(pickP z 3 == 0) with
   | true =>
    rw [if_pos rfl]
    refine reg10 C V3 S4 h84 h104 (by omega) (by omega) fun a5 f5 O5 π5 u5 w5 le5 V5 o5 S5 k5 h85=>?_
    have hdi:decI (i:Int)=decL i:=by unfold decI; rw [if_neg (by omega),Int.toNat_natCast]
    have hdl:=(dec_len i).1
    refine fin a5 f5 O5 π5 u5 w5 ([60,105,62]++decL i++[60,47,105,62]) (by rw [hg]; simp [itemL]) (by simp; omega) le5 V5 o5 S5 k5 ?_
    rw [h85,hdi]
    congr 1
    apply ByteArray.ext
    apply Array.ext'
    simp [ByteArray.data_append]
   | false =>
    rw [if_neg (by decide)]
    refine reg11 C S4 h84 (by omega) fun a5 f5 S5 k5 h85=>?_
    exact fin a5 f5 O3 π3 u3 w3 [60,105,47,62] (by rw [hg]; simp [itemL]) (by simp) (Ren.le_refl _) V3 (Old.refl _) S5 k5 h85
  ·rw [show (decide ((i:Int) < (R.length:Nat)) && decide ((i:Int) < 40))=false from by rw [decide_eq_false (p:=(i:Int) < 40) (by omega)]; simp,if_neg (by decide)]
   refine wpK_exit C ?_
   refine hQ (40 - i) a1 O w (by omega) ⟨i,D,y,f1,π,u,hiR,hi40,rfl,hle0,V,hou,S1,?_,?_,?_,?_,?_,?_,?_,hown,hD,hsz⟩
   all_goals first | (rw [k1 0 (by decide)]; exact h0) | (rw [k1 1 (by decide)]; exact h1) | (rw [k1 2 (by decide)]; exact h2) | (rw [k1 7 (by decide)]; exact h7) | (rw [k1 8 (by decide)]; exact h8) | (rw [k1 10 (by decide)]; exact h10) | (rw [k1 9 (by decide)]; exact hy)
 ·rw [show (decide ((i:Int) < (R.length:Nat)) && decide ((i:Int) < 40))=false from by rw [decide_eq_false (p:=(i:Int) < (R.length:Nat)) (by omega)]; rfl,if_neg (by decide)]
  refine wpK_exit C ?_
  refine hQ (40 - i) a1 O w (by omega) ⟨i,D,y,f1,π,u,hiR,hi40,rfl,hle0,V,hou,S1,?_,?_,?_,?_,?_,?_,?_,hown,hD,hsz⟩
  all_goals first | (rw [k1 0 (by decide)]; exact h0) | (rw [k1 1 (by decide)]; exact h1) | (rw [k1 2 (by decide)]; exact h2) | (rw [k1 7 (by decide)]; exact h7) | (rw [k1 8 (by decide)]; exact h8) | (rw [k1 10 (by decide)]; exact h10) | (rw [k1 9 (by decide)]; exact hy)
theorem c4_k (C:CloK Tryz.prog m 0 K) {u0:World} {x0:Value} {R:List Int} (HR:∀ O π u w,InView Tryz.prog alM glP 0 E wE O π u w→Old u0 u→RawR O w x0 R) (V:InView Tryz.prog alM glP 0 E wE O π u w) (hou:Old u0 u) (S:St π f a) (h0:f 0=x0) (h8:f 8=.string ⟨#[60,100,105,118,62]⟩) (h9:f 9=.slice none 0 0)
  (hQ:∀ n a O w,n=40 - min R.length 40→HeadC E wE u0 x0 R (f 1) (f 2) (f 7) π n a s O w→Q .normal a s O w):wpK K fn (part10 4) Q a s O w:=by
 rw [part4_eq]
 refine wpK_seq C (wpK_region C ?_)
 rw [n4]
 refine scn C (rel_int 0) t4_0 S (by decide) fun a1 S1=>?_
 refine opsK_nil C ?_
 refine wpK_block C (wpK_loop C (fun n a s' O w=>HeadC E wE u0 x0 R (f 1) (f 2) (f 7) π n a s' O w) 40 ⟨0,⟨#[60,100,105,118,62]⟩,.slice none 0 0,_,π,u,Nat.zero_le _,by omega,rfl,Ren.le_refl _,V,hou,S1,h0,rfl,rfl,rfl,h8,rfl,?_,World.ownsRow_nil _ _ _ _,rfl,by decide⟩ ?_)
 ·show VRel _ _ _ (f 9)
  rw [h9]
  exact .nilSlice 0 0
 ·intro n a s' O w H
  exact c4_round C HR n a s' O w H hQ
end
end Go.Proofs.YtclpcnignheijaaGreatDoor.Num
