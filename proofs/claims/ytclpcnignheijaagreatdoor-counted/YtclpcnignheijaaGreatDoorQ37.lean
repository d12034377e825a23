/-
  Parts of the proof: CE, CF, CG.
-/
import Derived.Test.YtclpcnignheijaaGreatDoorQ36
import Derived.Test.YtclpcnignheijaaGreatDoorQ30
import Derived.Deep.RegionWith
import Derived.Deep.Quiet
set_option maxHeartbeats 8000000
set_option maxRecDepth 100000
namespace Go.Proofs.YtclpcnignheijaaGreatDoor.Num
open Go.RowKit Go.Proofs.YtclpcnignheijaaGreatDoor Go.Conc
noncomputable def body10:Code:=Tryz.f10.body.getD .skip
noncomputable def part10 (k:Nat):Code:=fstC (sndN k body10)
noncomputable def ops10 (k:Nat):Array Oper:=opsC (part10 k)
def fsOf (R:List Int) (n:Nat):List Bool:=(R.take n).map fun z=>pickP z 3 == 0
theorem fsOf_succ {R:List Int} {i:Nat} {z:Int} (h:R[i]? = some z):fsOf R (i+1)=fsOf R i++[pickP z 3 == 0]:=by
 unfold fsOf
 rw [List.take_add_one,h]
 simp
theorem fsOf_len {R:List Int} {i:Nat} (h:i≤R.length):(fsOf R i).length=i:=by unfold fsOf; simp; omega
theorem infoBool:(Tryz.prog.info? 4).map (fun i=>(i.zero,i.size,i.bytes))=some (some (.bool false),1,1):=by kernel_rfl
theorem ok10_15:codeOk Tryz.prog alM glP false (part10 15)=true:=by kernel_rfl
theorem ok10_16:codeOk Tryz.prog alM glP false (sndN 16 body10)=true:=by kernel_rfl
def BoolsC (w:World) (x:Value) (L:List Bool):Prop:=∃ ao cap,x=.slice ao L.length cap∧∀ j v,L[j]? = some v→∃ g,ao=some ⟨g,0,none⟩∧w.cell? ⟨g,j,none⟩=some (.bool v)
theorem BoolsC.old {w w':World} {x:Value} {L:List Bool} (h:BoolsC w x L) (k:Old w w'):BoolsC w' x L:=by
 obtain ⟨ao,cap,rfl,hc⟩:=h
 exact ⟨ao,cap,rfl,fun j v hv=>by obtain ⟨g,e,h⟩:=hc j v hv; exact ⟨g,e,k.cells _ _ h⟩⟩
def isP (k m:Int) (n:Int) (j:Nat):Bool:=(List.range j).any fun i=>k * (i:Int)+m == n
theorem isP_succ (k m n:Int) (j:Nat):isP k m n (j+1)=(isP k m n j || (k * (j:Int)+m == n)):=by
 unfold isP
 rw [List.range_succ,List.any_append]
 simp
theorem mul_bd {k:Int} {j:Nat} (hk:-20≤k∧k≤20) (hj:j≤100):-2000≤k * (j:Int)∧k * (j:Int)≤2000:=by
 have h1:=Int.mul_le_mul_of_nonneg_right hk.2 (show (0:Int)≤(j:Int) by omega)
 have h2:=Int.mul_le_mul_of_nonneg_right hk.1 (show (0:Int)≤(j:Int) by omega)
 omega
section
variable {f:Nat→Value} {w:World} {db:Nat} {fs:List Bool}
theorem c16 {z1 z2 z4:Value} {L1 L2 L4:List Int} (h16:f 16=z1) (h18:f 18=z2) (h22:f 22=z4) (i1:IntsC w z1 L1) (l1:L1.length≤5000) (i2:IntsC w z2 L2) (l2:L2.length≤5000) (i4:IntsC w z4 L4) (l4:L4.length≤5000) (g1:L1.any (· == (0:Int))=false) (g2:L2.any (· == (0:Int))=false) (g4:L4.any (· == (0:Int))=false) :
  (sndN 16 body10).wp Tryz.prog (afterR fun a' w'=>w'=w∧a'.defers=[]∧a'.eval (.tmp 6)=.bool true) { tmps:=((List.range 219).map f).toArray,defers:=[] } w:=by
 have G1:=hide g1
 have G2:=hide g2
 have G4:=hide g4
 clear g1 g2 g4
 simp only [body10,Tryz.f10,Option.getD_some,sndN]
 simp only [List.range,List.range.loop,List.map,h16,h18,h22]
 go_wp2_with fail
 refine (in_is _ _ L1 i1 l1 0 false G1.out).mono ?_
 rintro e w1 ⟨rfl,rfl⟩
 go_wp2_with fail
 refine (in_is _ _ L2 i2 l2 0 false G2.out).mono ?_
 rintro e w1 ⟨rfl,rfl⟩
 go_wp2_with fail
 refine (in_is _ _ L4 i4 l4 0 false G4.out).mono ?_
 rintro e w1 ⟨rfl,rfl⟩
 go_wp2
 exact ⟨rfl,rfl,rfl⟩
end
noncomputable def loop15:Code:=match part10 15 with | .seq _ (.block _ (.loop c))=>c | _=>.skip
noncomputable def X15:Code:=match loop15 with | .seq _ (.seq (.block _ x) _)=>x | _=>.skip
noncomputable def ops35:Array Oper:=opsC (fstC (sndN 4 X15))
theorem Slots.at {n:Nat} {l:List (Nat × Value)} {a:Act} (S:Slots n l a) (k:Nat) {s:Nat} {v:Value} (h:l[k]? = some (s,v)):a.eval (.tmp s)=v:=S.2.2 (s,v) (List.mem_of_getElem? h)
theorem Slots.put {n:Nat} {l:List (Nat × Value)} {a:Act} (S:Slots n l a) {d:Nat} (v:Value) (hd:d < n) (hl:l.all (fun x=>x.1 != d)=true):Slots n ((d,v) :: l) (a.put (some d) v):=by
 refine ⟨by rw [put_size]; exact S.1,by rw [put_defers]; exact S.2.1,fun x hx=>?_⟩
 rw [eval_put]
 rcases List.mem_cons.1 hx with rfl | hx
 ·rw [if_pos ⟨rfl,by rw [S.1]; exact hd⟩]
 ·have:=List.all_eq_true.1 hl x hx
  rw [if_neg (fun e=>by simp [e.1] at this)]
  exact S.2.2 x hx
section
variable {P:Program} {C:World→Prop} {K:Act→Prop} {o:Oper} {a:Act} {v:Value} {w:World}
theorem q_mv {x:Operand} (hop:o.op=.move x∨o.op=.assign x) (hx:a.eval x=v):o.quietAt P a C w v:=by
 unfold Oper.quietAt execOp
 rcases hop with hop | hop <;> (rw [hop]; simp only [hx]; exact ⟨rfl,rfl⟩)
theorem q_val (hx:(execOp a.eval o).run P w=.ok (.value v) w):o.quietAt P a C w v:=by
 unfold Oper.quietAt
 rw [hx]
 exact ⟨rfl,rfl⟩
theorem wrap_small {z:Int} (h0:0≤z) (h1:z≤1000):IntKind.i64.wrap z=z:=by
 simp [IntKind.wrap,IntKind.bits,IntKind.signed]
 omega
theorem enter_run {f : FuncId} {fd : Func} {args : Array Value} {w : World} (hf : P.funcs[f]? = some fd) (hn : (fd.name == "runtime.NumGoroutine") = false) (hb : fd.body.isNone = false) : (callFunc f args).run P w = .ok (.enter f args) w := by
 have h1 : fd.name ≠ "runtime.NumGoroutine" := by simpa using hn
 obtain ⟨c,hc⟩:∃ c,fd.body=some c:=by
  cases h:fd.body with
  | none=>rw [h] at hb; cases hb
  | some c=>exact ⟨c,rfl⟩
 simp [callFunc,hf,h1,hc]
theorem q_call {f : Nat} {fd : Func} {x y : Operand} {ats : Array TypeId} {vx vy : Value} (hop : o.op = .call { callee := .value (.func f), args := #[x, y], argTypes := ats }) (hf : P.funcs[f]? = some fd) (hn : (fd.name == "runtime.NumGoroutine") = false) (hb : fd.body.isNone = false) (hx : a.eval x = vx) (hy : a.eval y = vy) (hc : Calls P f #[vx, vy] w fun e w' => e = .returned v ∧ C w') : o.quietAt P a C w v := by
 have e:(execOp a.eval o).run P w=.ok (.enter f #[vx,vy]) w:=by
  unfold execOp
  rw [hop]
  have ef:a.eval (.func f)=.func (.func f) #[] #[]:=rfl
  revert hx hy ef
  generalize a.eval=ev
  intro hx hy ef
  simp [go_sem,hx,hy,ef,enter_run hf hn hb]
 unfold Oper.quietAt
 rw [e]
 exact ⟨rfl,hc⟩
theorem wanted_gd {ops:Array Oper} {j d:Nat} {b:Bool} (hg:o.guard=some (j,b)) (hj:(ops[j]?).bind (·.dst)=some d) (hs:d < a.tmps.size) (hv:a.eval (.tmp d)=.bool b):Region.wanted o (yielded ops a.tmps)=true:=by
 have e:a.tmps[d]? = some (.bool b):=by
  rw [Array.getElem?_eq_getElem hs]
  simpa [Act.eval,hs] using hv
 unfold Region.wanted yielded
 rw [hg]
 simp [hj,e]
theorem qstep {k d:Nat} {op:Op} {g:Option (Nat × Bool)} {l:List (Nat × Value)} (hk:(ops35.toList[k]?).map (fun o=>(o.op,o.dst,o.guard))=some (op,some d,g)) (S:Slots 219 l a) (hd:d < 219) (hl:l.all (fun x=>x.1 != d)=true)
  (hw:g=none∨∃ j b d',g=some (j,b)∧(ops35[j]?).bind (·.dst)=some d'∧d' < 219∧a.eval (.tmp d')=.bool b) (hv:∀ (o:Oper) w,o.op=op→C w→o.quietAt P a C w v)
  (h:∀ a',Slots 219 ((d,v) :: l) a'→wpQuiet P ops35 C K (ops35.toList.drop (k+1)) a'):wpQuiet P ops35 C K (ops35.toList.drop k) a:=by
 generalize ops35.toList=L at hk h ⊢
 obtain ⟨o,ho,e⟩:=Option.map_eq_some_iff.1 hk
 simp only [Prod.mk.injEq] at e
 obtain ⟨e1,e2,e3⟩:=e
 obtain ⟨hlt,rfl⟩:=List.getElem?_eq_some_iff.1 ho
 rw [List.drop_eq_getElem_cons hlt,wpQuiet]
 have hw':Region.wanted L[k] (yielded ops35 a.tmps)=true:=by
  rcases hw with hw | ⟨j,b,d',h1,h2,h3,h4⟩
  ·simp [Region.wanted,e3,hw]
  ·exact wanted_gd (e3.trans h1) h2 (by rw [S.1]; exact h3) h4
 rw [if_pos hw']
 refine ⟨v,fun w hC=>hv _ w e1 hC,?_⟩
 rw [e2]
 exact h _ (S.put v hd hl)
end
theorem mixed:Tryz.prog.follows .mixedOrders=true:=by kernel_rfl
section
variable {a:Act} {ga L cap db j:Nat} {z1 z2 z3 z4:Value} {xi b2 b3 g:Bool} {t:ByteArray} {o:Oper}
theorem val35_4 (e161:a.eval (.tmp 161)=.bool xi) (e162:a.eval (.tmp 162)=.bool xi) (w:World) (hop:o.op=.binOp .neq 4 (.tmp 161) (.tmp 162) 4):(execOp a.eval o).run Tryz.prog w=.ok (.value (.bool false)) w:=by
 unfold execOp
 rw [hop]
 revert e161 e162
 generalize a.eval=ev
 intro e161 e162
 simp [go_sem,e161,e162]
theorem val35_10 (e168:a.eval (.tmp 168)=.int .i64 ((j:Int)+1)) (hb2:(((j:Int)+1) == 1)=b2) (w:World) (hop:o.op=.binOp .eql 3 (.tmp 168) (.const (.int .i64 1)) 3):(execOp a.eval o).run Tryz.prog w=.ok (.value (.bool b2)) w:=by
 unfold execOp
 rw [hop]
 have ec:a.eval (.const (.int .i64 1))=(.int .i64 1):=rfl
 revert e168 ec
 generalize a.eval=ev
 intro e168 ec
 simp [go_sem,e168,ec,hb2]
theorem val35_11 (e167:a.eval (.tmp 167)=.bool b2) (e169:a.eval (.tmp 169)=.bool b2) (w:World) (hop:o.op=.binOp .neq 4 (.tmp 167) (.tmp 169) 4):(execOp a.eval o).run Tryz.prog w=.ok (.value (.bool false)) w:=by
 unfold execOp
 rw [hop]
 revert e167 e169
 generalize a.eval=ev
 intro e167 e169
 simp [go_sem,e167,e169]
theorem val35_12 (e164:a.eval (.tmp 164)=.bool false) (e170:a.eval (.tmp 170)=.bool false) (w:World) (hop:o.op=.pick (.tmp 164) (.const (.bool true)) (.tmp 170)):(execOp a.eval o).run Tryz.prog w=.ok (.value (.bool false)) w:=by
 unfold execOp
 rw [hop]
 have ec:a.eval (.const (.bool true))=(.bool true):=rfl
 revert e164 e170 ec
 generalize a.eval=ev
 intro e164 e170 ec
 simp [go_sem,e164,e170,ec]
theorem val35_19 (e177:a.eval (.tmp 177)=.slice (some ⟨ga,0,none⟩) L cap) (w:World) (hop:o.op=.call { callee:=.builtin .len,args:=#[.tmp 177],argTypes:=#[74] }):(execOp a.eval o).run Tryz.prog w=.ok (.value (.int .i64 (L:Int))) w:=by
 unfold execOp
 rw [hop]
 revert e177
 generalize a.eval=ev
 intro e177
 simp [go_sem,e177]
theorem val35_20 (e176:a.eval (.tmp 176)=.int .i64 ((j:Int)+1)) (e178:a.eval (.tmp 178)=.int .i64 (L:Int)) (hb3:(((j:Int)+1) == (L:Int))=b3) (w:World) (hop:o.op=.binOp .eql 3 (.tmp 176) (.tmp 178) 3):(execOp a.eval o).run Tryz.prog w=.ok (.value (.bool b3)) w:=by
 unfold execOp
 rw [hop]
 revert e176 e178
 generalize a.eval=ev
 intro e176 e178
 simp [go_sem,e176,e178,hb3]
theorem val35_21 (e175:a.eval (.tmp 175)=.bool b3) (e179:a.eval (.tmp 179)=.bool b3) (w:World) (hop:o.op=.binOp .neq 4 (.tmp 175) (.tmp 179) 4):(execOp a.eval o).run Tryz.prog w=.ok (.value (.bool false)) w:=by
 unfold execOp
 rw [hop]
 revert e175 e179
 generalize a.eval=ev
 intro e175 e179
 simp [go_sem,e175,e179]
theorem val35_22 (e172:a.eval (.tmp 172)=.bool false) (e180:a.eval (.tmp 180)=.bool false) (w:World) (hop:o.op=.pick (.tmp 172) (.const (.bool true)) (.tmp 180)):(execOp a.eval o).run Tryz.prog w=.ok (.value (.bool false)) w:=by
 unfold execOp
 rw [hop]
 have ec:a.eval (.const (.bool true))=(.bool true):=rfl
 revert e172 e180 ec
 generalize a.eval=ev
 intro e172 e180 ec
 simp [go_sem,e172,e180,ec]
theorem val35_29 (e187:a.eval (.tmp 187)=.int .i64 ((j:Int)+1)) (hj:j < L) (hL:L≤40) (w:World) (hop:o.op=.binOp .sub 3 (.tmp 187) (.const (.int .i64 1)) 3):(execOp a.eval o).run Tryz.prog w=.ok (.value (.int .i64 (j:Int))) w:=by
 unfold execOp
 rw [hop]
 have ec:a.eval (.const (.int .i64 1))=(.int .i64 1):=rfl
 revert e187 ec
 generalize a.eval=ev
 intro e187 ec
 simp [go_sem,e187,ec]
 exact wrap_small (by omega) (by omega)
theorem val35_30 (e186:a.eval (.tmp 186)=.slice (some ⟨ga,0,none⟩) L cap) (e188:a.eval (.tmp 188)=.int .i64 (j:Int)) (hj:j < L) (w:World) (hop:o.op=.indexAddr 74 (.tmp 186) (.tmp 188)):(execOp a.eval o).run Tryz.prog w=.ok (.value (.pointer (some ⟨ga,j,none⟩))) w:=by
 unfold execOp
 rw [hop]
 revert e186 e188
 generalize a.eval=ev
 intro e186 e188
 simp [go_sem,e186,e188]
 intro h
 omega
theorem val35_31 (e189:a.eval (.tmp 189)=.pointer (some ⟨ga,j,none⟩)) (w:World) (q0:w.cell? ⟨ga,j,none⟩=some (.bool g)) (hop:o.op=.load 4 (.tmp 189)):(execOp a.eval o).run Tryz.prog w=.ok (.value (.bool g)) w:=by
 unfold execOp
 rw [hop]
 revert e189
 generalize a.eval=ev
 intro e189
 simp [go_sem,e189,q0]
theorem val35_32 (e185:a.eval (.tmp 185)=.bool !g) (e190:a.eval (.tmp 190)=.bool g) (w:World) (hop:o.op=.binOp .eql 4 (.tmp 185) (.tmp 190) 4):(execOp a.eval o).run Tryz.prog w=.ok (.value (.bool false)) w:=by
 unfold execOp
 rw [hop]
 revert e185 e190
 generalize a.eval=ev
 intro e185 e190
 simp [go_sem,e185,e190]
theorem val35_33 (e182:a.eval (.tmp 182)=.bool false) (e191:a.eval (.tmp 191)=.bool false) (w:World) (hop:o.op=.pick (.tmp 182) (.const (.bool true)) (.tmp 191)):(execOp a.eval o).run Tryz.prog w=.ok (.value (.bool false)) w:=by
 unfold execOp
 rw [hop]
 have ec:a.eval (.const (.bool true))=(.bool true):=rfl
 revert e182 e191 ec
 generalize a.eval=ev
 intro e182 e191 ec
 simp [go_sem,e182,e191,ec]
theorem val35_38 (e196:a.eval (.tmp 196)=.int .i64 0) (w:World) (hop:o.op=.binOp .neq 3 (.tmp 196) (.const (.int .i64 0)) 3):(execOp a.eval o).run Tryz.prog w=.ok (.value (.bool false)) w:=by
 unfold execOp
 rw [hop]
 have ec:a.eval (.const (.int .i64 0))=(.int .i64 0):=rfl
 revert e196 ec
 generalize a.eval=ev
 intro e196 ec
 simp [go_sem,e196,ec]
theorem val35_39 (e193:a.eval (.tmp 193)=.bool false) (e197:a.eval (.tmp 197)=.bool false) (w:World) (hop:o.op=.pick (.tmp 193) (.const (.bool true)) (.tmp 197)):(execOp a.eval o).run Tryz.prog w=.ok (.value (.bool false)) w:=by
 unfold execOp
 rw [hop]
 have ec:a.eval (.const (.bool true))=(.bool true):=rfl
 revert e193 e197 ec
 generalize a.eval=ev
 intro e193 e197 ec
 simp [go_sem,e193,e197,ec]
theorem val35_45 (e202:a.eval (.tmp 202)=.string t) (e203:a.eval (.tmp 203)=.string t) (w:World) (hop:o.op=.binOp .neq 9 (.tmp 202) (.tmp 203) 9):(execOp a.eval o).run Tryz.prog w=.ok (.value (.bool false)) w:=by
 unfold execOp
 rw [hop]
 revert e202 e203
 generalize a.eval=ev
 intro e202 e203
 simp [go_sem,e202,e203]
theorem val35_46 (e199:a.eval (.tmp 199)=.bool false) (e204:a.eval (.tmp 204)=.bool false) (w:World) (hop:o.op=.pick (.tmp 199) (.const (.bool true)) (.tmp 204)):(execOp a.eval o).run Tryz.prog w=.ok (.value (.bool false)) w:=by
 unfold execOp
 rw [hop]
 have ec:a.eval (.const (.bool true))=(.bool true):=rfl
 revert e199 e204 ec
 generalize a.eval=ev
 intro e199 e204 ec
 simp [go_sem,e199,e204,ec]
end
theorem o35_0:(ops35.toList[0]?).map (fun o=>(o.op,o.dst,o.guard))=some (.move (.tmp 16),some 159,none):=by kernel_rfl
theorem o35_1:(ops35.toList[1]?).map (fun o=>(o.op,o.dst,o.guard))=some (.move (.tmp 24),some 160,none):=by kernel_rfl
theorem o35_2:(ops35.toList[2]?).map (fun o=>(o.op,o.dst,o.guard))=some (.call { callee:=.value (.func 34),args:=#[.tmp 159,.tmp 160],argTypes:=#[62,3] },some 161,none):=by kernel_rfl
theorem o35_3:(ops35.toList[3]?).map (fun o=>(o.op,o.dst,o.guard))=some (.move (.tmp 25),some 162,none):=by kernel_rfl
theorem o35_4:(ops35.toList[4]?).map (fun o=>(o.op,o.dst,o.guard))=some (.binOp .neq 4 (.tmp 161) (.tmp 162) 4,some 163,none):=by kernel_rfl
theorem o35_5:(ops35.toList[5]?).map (fun o=>(o.op,o.dst,o.guard))=some (.move (.tmp 163),some 164,none):=by kernel_rfl
theorem o35_6:(ops35.toList[6]?).map (fun o=>(o.op,o.dst,o.guard))=some (.move (.tmp 18),some 165,some (5,false)):=by kernel_rfl
theorem o35_7:(ops35.toList[7]?).map (fun o=>(o.op,o.dst,o.guard))=some (.move (.tmp 24),some 166,some (5,false)):=by kernel_rfl
theorem o35_8:(ops35.toList[8]?).map (fun o=>(o.op,o.dst,o.guard))=some (.call { callee:=.value (.func 34),args:=#[.tmp 165,.tmp 166],argTypes:=#[62,3] },some 167,some (5,false)):=by kernel_rfl
theorem o35_9:(ops35.toList[9]?).map (fun o=>(o.op,o.dst,o.guard))=some (.move (.tmp 24),some 168,some (5,false)):=by kernel_rfl
theorem o35_10:(ops35.toList[10]?).map (fun o=>(o.op,o.dst,o.guard))=some (.binOp .eql 3 (.tmp 168) (.const (.int .i64 1)) 3,some 169,some (5,false)):=by kernel_rfl
theorem o35_11:(ops35.toList[11]?).map (fun o=>(o.op,o.dst,o.guard))=some (.binOp .neq 4 (.tmp 167) (.tmp 169) 4,some 170,some (5,false)):=by kernel_rfl
theorem o35_12:(ops35.toList[12]?).map (fun o=>(o.op,o.dst,o.guard))=some (.pick (.tmp 164) (.const (.bool true)) (.tmp 170),some 171,none):=by kernel_rfl
theorem o35_13:(ops35.toList[13]?).map (fun o=>(o.op,o.dst,o.guard))=some (.move (.tmp 171),some 172,none):=by kernel_rfl
theorem o35_14:(ops35.toList[14]?).map (fun o=>(o.op,o.dst,o.guard))=some (.move (.tmp 20),some 173,some (13,false)):=by kernel_rfl
theorem o35_15:(ops35.toList[15]?).map (fun o=>(o.op,o.dst,o.guard))=some (.move (.tmp 24),some 174,some (13,false)):=by kernel_rfl
theorem o35_16:(ops35.toList[16]?).map (fun o=>(o.op,o.dst,o.guard))=some (.call { callee:=.value (.func 34),args:=#[.tmp 173,.tmp 174],argTypes:=#[62,3] },some 175,some (13,false)):=by kernel_rfl
theorem o35_17:(ops35.toList[17]?).map (fun o=>(o.op,o.dst,o.guard))=some (.move (.tmp 24),some 176,some (13,false)):=by kernel_rfl
theorem o35_18:(ops35.toList[18]?).map (fun o=>(o.op,o.dst,o.guard))=some (.move (.tmp 9),some 177,some (13,false)):=by kernel_rfl
theorem o35_19:(ops35.toList[19]?).map (fun o=>(o.op,o.dst,o.guard))=some (.call { callee:=.builtin .len,args:=#[.tmp 177],argTypes:=#[74] },some 178,some (13,false)):=by kernel_rfl
theorem o35_20:(ops35.toList[20]?).map (fun o=>(o.op,o.dst,o.guard))=some (.binOp .eql 3 (.tmp 176) (.tmp 178) 3,some 179,some (13,false)):=by kernel_rfl
theorem o35_21:(ops35.toList[21]?).map (fun o=>(o.op,o.dst,o.guard))=some (.binOp .neq 4 (.tmp 175) (.tmp 179) 4,some 180,some (13,false)):=by kernel_rfl
theorem o35_22:(ops35.toList[22]?).map (fun o=>(o.op,o.dst,o.guard))=some (.pick (.tmp 172) (.const (.bool true)) (.tmp 180),some 181,none):=by kernel_rfl
theorem o35_23:(ops35.toList[23]?).map (fun o=>(o.op,o.dst,o.guard))=some (.move (.tmp 181),some 182,none):=by kernel_rfl
theorem o35_24:(ops35.toList[24]?).map (fun o=>(o.op,o.dst,o.guard))=some (.move (.tmp 22),some 183,some (23,false)):=by kernel_rfl
theorem o35_25:(ops35.toList[25]?).map (fun o=>(o.op,o.dst,o.guard))=some (.move (.tmp 24),some 184,some (23,false)):=by kernel_rfl
theorem o35_26:(ops35.toList[26]?).map (fun o=>(o.op,o.dst,o.guard))=some (.call { callee:=.value (.func 34),args:=#[.tmp 183,.tmp 184],argTypes:=#[62,3] },some 185,some (23,false)):=by kernel_rfl
theorem o35_27:(ops35.toList[27]?).map (fun o=>(o.op,o.dst,o.guard))=some (.move (.tmp 9),some 186,some (23,false)):=by kernel_rfl
theorem o35_28:(ops35.toList[28]?).map (fun o=>(o.op,o.dst,o.guard))=some (.move (.tmp 24),some 187,some (23,false)):=by kernel_rfl
theorem o35_29:(ops35.toList[29]?).map (fun o=>(o.op,o.dst,o.guard))=some (.binOp .sub 3 (.tmp 187) (.const (.int .i64 1)) 3,some 188,some (23,false)):=by kernel_rfl
theorem o35_30:(ops35.toList[30]?).map (fun o=>(o.op,o.dst,o.guard))=some (.indexAddr 74 (.tmp 186) (.tmp 188),some 189,some (23,false)):=by kernel_rfl
theorem o35_31:(ops35.toList[31]?).map (fun o=>(o.op,o.dst,o.guard))=some (.load 4 (.tmp 189),some 190,some (23,false)):=by kernel_rfl
theorem o35_32:(ops35.toList[32]?).map (fun o=>(o.op,o.dst,o.guard))=some (.binOp .eql 4 (.tmp 185) (.tmp 190) 4,some 191,some (23,false)):=by kernel_rfl
theorem o35_33:(ops35.toList[33]?).map (fun o=>(o.op,o.dst,o.guard))=some (.pick (.tmp 182) (.const (.bool true)) (.tmp 191),some 192,none):=by kernel_rfl
theorem o35_34:(ops35.toList[34]?).map (fun o=>(o.op,o.dst,o.guard))=some (.move (.tmp 192),some 193,none):=by kernel_rfl
theorem o35_35:(ops35.toList[35]?).map (fun o=>(o.op,o.dst,o.guard))=some (.move (.tmp 12),some 194,some (34,false)):=by kernel_rfl
theorem o35_36:(ops35.toList[36]?).map (fun o=>(o.op,o.dst,o.guard))=some (.move (.tmp 24),some 195,some (34,false)):=by kernel_rfl
theorem o35_37:(ops35.toList[37]?).map (fun o=>(o.op,o.dst,o.guard))=some (.call { callee:=.value (.func 31),args:=#[.tmp 194,.tmp 195],argTypes:=#[23,3] },some 196,some (34,false)):=by kernel_rfl
theorem o35_38:(ops35.toList[38]?).map (fun o=>(o.op,o.dst,o.guard))=some (.binOp .neq 3 (.tmp 196) (.const (.int .i64 0)) 3,some 197,some (34,false)):=by kernel_rfl
theorem o35_39:(ops35.toList[39]?).map (fun o=>(o.op,o.dst,o.guard))=some (.pick (.tmp 193) (.const (.bool true)) (.tmp 197),some 198,none):=by kernel_rfl
theorem o35_40:(ops35.toList[40]?).map (fun o=>(o.op,o.dst,o.guard))=some (.move (.tmp 198),some 199,none):=by kernel_rfl
theorem o35_41:(ops35.toList[41]?).map (fun o=>(o.op,o.dst,o.guard))=some (.move (.tmp 12),some 200,some (40,false)):=by kernel_rfl
theorem o35_42:(ops35.toList[42]?).map (fun o=>(o.op,o.dst,o.guard))=some (.move (.tmp 24),some 201,some (40,false)):=by kernel_rfl
theorem o35_43:(ops35.toList[43]?).map (fun o=>(o.op,o.dst,o.guard))=some (.call { callee:=.value (.func 14),args:=#[.tmp 200,.tmp 201],argTypes:=#[23,3] },some 202,some (40,false)):=by kernel_rfl
theorem o35_44:(ops35.toList[44]?).map (fun o=>(o.op,o.dst,o.guard))=some (.move (.tmp 27),some 203,some (40,false)):=by kernel_rfl
theorem o35_45:(ops35.toList[45]?).map (fun o=>(o.op,o.dst,o.guard))=some (.binOp .neq 9 (.tmp 202) (.tmp 203) 9,some 204,some (40,false)):=by kernel_rfl
theorem o35_46:(ops35.toList[46]?).map (fun o=>(o.op,o.dst,o.guard))=some (.pick (.tmp 199) (.const (.bool true)) (.tmp 204),some 205,none):=by kernel_rfl
theorem g35_5:(ops35[5]?).bind (·.dst)=some 164:=by kernel_rfl
theorem g35_13:(ops35[13]?).bind (·.dst)=some 172:=by kernel_rfl
theorem g35_23:(ops35[23]?).bind (·.dst)=some 182:=by kernel_rfl
theorem g35_34:(ops35[34]?).bind (·.dst)=some 193:=by kernel_rfl
theorem g35_40:(ops35[40]?).bind (·.dst)=some 199:=by kernel_rfl
theorem end35:ops35.toList.drop 47=[]:=by kernel_rfl
section
variable {ga L cap db j:Nat} {zk zm z1 z2 z3 z4:Value} {xi b2 b3 g:Bool} {t:ByteArray} {C:World→Prop} {K:Act→Prop} {A:Act}
theorem q35 (S0:Slots 219 [(9,.slice (some ⟨ga,0,none⟩) L cap),(12,.pointer (some ⟨db,0,none⟩)),(14,zk),(15,zm),(16,z1),(18,z2),(20,z3),(22,z4),(24,.int .i64 ((j:Int)+1)),(25,.bool xi),(27,.string t)] A) (hj:j < L) (hL:L≤40) (hb2:(((j:Int)+1) == 1)=b2) (hb3:(((j:Int)+1) == (L:Int))=b3) (q0:∀ w,C w→w.cell? ⟨ga,j,none⟩=some (.bool g))
  (C1:∀ w,C w→Calls Tryz.prog 34 #[z1,.int .i64 ((j:Int)+1)] w fun e w'=>e=.returned (.bool xi)∧C w') (C2:∀ w,C w→Calls Tryz.prog 34 #[z2,.int .i64 ((j:Int)+1)] w fun e w'=>e=.returned (.bool b2)∧C w') (C3:∀ w,C w→Calls Tryz.prog 34 #[z3,.int .i64 ((j:Int)+1)] w fun e w'=>e=.returned (.bool b3)∧C w') (C4:∀ w,C w→Calls Tryz.prog 34 #[z4,.int .i64 ((j:Int)+1)] w fun e w'=>e=.returned (.bool !g)∧C w') (C5:∀ w,C w→Calls Tryz.prog 31 #[.pointer (some ⟨db,0,none⟩),.int .i64 ((j:Int)+1)] w fun e w'=>e=.returned (.int .i64 0)∧C w') (C6:∀ w,C w→Calls Tryz.prog 14 #[.pointer (some ⟨db,0,none⟩),.int .i64 ((j:Int)+1)] w fun e w'=>e=.returned (.string t)∧C w')
  (h:∀ a',Slots 219 ((205,.bool false) :: [(9,.slice (some ⟨ga,0,none⟩) L cap),(12,.pointer (some ⟨db,0,none⟩)),(14,zk),(15,zm),(16,z1),(18,z2),(20,z3),(22,z4),(24,.int .i64 ((j:Int)+1)),(25,.bool xi),(27,.string t)]) a'→K a'):wpQuiet Tryz.prog ops35 C K ops35.toList A:=by
 show wpQuiet Tryz.prog ops35 C K (ops35.toList.drop 0) A
 refine qstep (k:=0) (v:=z1) o35_0 S0 (by decide) rfl (.inl rfl) (fun o w ho hC=>q_mv (.inl ho) (S0.at 4 rfl)) fun a1 S1=>?_
 refine qstep (k:=1) (v:=.int .i64 ((j:Int)+1)) o35_1 S1 (by decide) rfl (.inl rfl) (fun o w ho hC=>q_mv (.inl ho) (S1.at 9 rfl)) fun a2 S2=>?_
 refine qstep (k:=2) (v:=.bool xi) o35_2 S2 (by decide) rfl (.inl rfl) (fun o w ho hC=>q_call ho Tryz.func34 rfl rfl (S2.at 1 rfl) (S2.at 0 rfl) (C1 w hC)) fun a3 S3=>?_
 refine qstep (k:=3) (v:=.bool xi) o35_3 S3 (by decide) rfl (.inl rfl) (fun o w ho hC=>q_mv (.inl ho) (S3.at 12 rfl)) fun a4 S4=>?_
 refine qstep (k:=4) (v:=.bool false) o35_4 S4 (by decide) rfl (.inl rfl) (fun o w ho hC=>q_val (val35_4 (S4.at 1 rfl) (S4.at 0 rfl) w ho)) fun a5 S5=>?_
 refine qstep (k:=5) (v:=.bool false) o35_5 S5 (by decide) rfl (.inl rfl) (fun o w ho hC=>q_mv (.inl ho) (S5.at 0 rfl)) fun a6 S6=>?_
 refine qstep (k:=6) (v:=z2) o35_6 S6 (by decide) rfl (.inr ⟨_,_,_,rfl,g35_5,by decide,(S6.at 0 rfl)⟩) (fun o w ho hC=>q_mv (.inl ho) (S6.at 11 rfl)) fun a7 S7=>?_
 refine qstep (k:=7) (v:=.int .i64 ((j:Int)+1)) o35_7 S7 (by decide) rfl (.inr ⟨_,_,_,rfl,g35_5,by decide,(S7.at 1 rfl)⟩) (fun o w ho hC=>q_mv (.inl ho) (S7.at 15 rfl)) fun a8 S8=>?_
 refine qstep (k:=8) (v:=.bool b2) o35_8 S8 (by decide) rfl (.inr ⟨_,_,_,rfl,g35_5,by decide,(S8.at 2 rfl)⟩) (fun o w ho hC=>q_call ho Tryz.func34 rfl rfl (S8.at 1 rfl) (S8.at 0 rfl) (C2 w hC)) fun a9 S9=>?_
 refine qstep (k:=9) (v:=.int .i64 ((j:Int)+1)) o35_9 S9 (by decide) rfl (.inr ⟨_,_,_,rfl,g35_5,by decide,(S9.at 3 rfl)⟩) (fun o w ho hC=>q_mv (.inl ho) (S9.at 17 rfl)) fun a10 S10=>?_
 refine qstep (k:=10) (v:=.bool b2) o35_10 S10 (by decide) rfl (.inr ⟨_,_,_,rfl,g35_5,by decide,(S10.at 4 rfl)⟩) (fun o w ho hC=>q_val (val35_10 (S10.at 0 rfl) hb2 w ho)) fun a11 S11=>?_
 refine qstep (k:=11) (v:=.bool false) o35_11 S11 (by decide) rfl (.inr ⟨_,_,_,rfl,g35_5,by decide,(S11.at 5 rfl)⟩) (fun o w ho hC=>q_val (val35_11 (S11.at 2 rfl) (S11.at 0 rfl) w ho)) fun a12 S12=>?_
 refine qstep (k:=12) (v:=.bool false) o35_12 S12 (by decide) rfl (.inl rfl) (fun o w ho hC=>q_val (val35_12 (S12.at 6 rfl) (S12.at 0 rfl) w ho)) fun a13 S13=>?_
 refine qstep (k:=13) (v:=.bool false) o35_13 S13 (by decide) rfl (.inl rfl) (fun o w ho hC=>q_mv (.inl ho) (S13.at 0 rfl)) fun a14 S14=>?_
 refine qstep (k:=14) (v:=z3) o35_14 S14 (by decide) rfl (.inr ⟨_,_,_,rfl,g35_13,by decide,(S14.at 0 rfl)⟩) (fun o w ho hC=>q_mv (.inl ho) (S14.at 20 rfl)) fun a15 S15=>?_
 refine qstep (k:=15) (v:=.int .i64 ((j:Int)+1)) o35_15 S15 (by decide) rfl (.inr ⟨_,_,_,rfl,g35_13,by decide,(S15.at 1 rfl)⟩) (fun o w ho hC=>q_mv (.inl ho) (S15.at 23 rfl)) fun a16 S16=>?_
 refine qstep (k:=16) (v:=.bool b3) o35_16 S16 (by decide) rfl (.inr ⟨_,_,_,rfl,g35_13,by decide,(S16.at 2 rfl)⟩) (fun o w ho hC=>q_call ho Tryz.func34 rfl rfl (S16.at 1 rfl) (S16.at 0 rfl) (C3 w hC)) fun a17 S17=>?_
 refine qstep (k:=17) (v:=.int .i64 ((j:Int)+1)) o35_17 S17 (by decide) rfl (.inr ⟨_,_,_,rfl,g35_13,by decide,(S17.at 3 rfl)⟩) (fun o w ho hC=>q_mv (.inl ho) (S17.at 25 rfl)) fun a18 S18=>?_
 refine qstep (k:=18) (v:=.slice (some ⟨ga,0,none⟩) L cap) o35_18 S18 (by decide) rfl (.inr ⟨_,_,_,rfl,g35_13,by decide,(S18.at 4 rfl)⟩) (fun o w ho hC=>q_mv (.inl ho) (S18.at 18 rfl)) fun a19 S19=>?_
 refine qstep (k:=19) (v:=.int .i64 (L:Int)) o35_19 S19 (by decide) rfl (.inr ⟨_,_,_,rfl,g35_13,by decide,(S19.at 5 rfl)⟩) (fun o w ho hC=>q_val (val35_19 (S19.at 0 rfl) w ho)) fun a20 S20=>?_
 refine qstep (k:=20) (v:=.bool b3) o35_20 S20 (by decide) rfl (.inr ⟨_,_,_,rfl,g35_13,by decide,(S20.at 6 rfl)⟩) (fun o w ho hC=>q_val (val35_20 (S20.at 2 rfl) (S20.at 0 rfl) hb3 w ho)) fun a21 S21=>?_
 refine qstep (k:=21) (v:=.bool false) o35_21 S21 (by decide) rfl (.inr ⟨_,_,_,rfl,g35_13,by decide,(S21.at 7 rfl)⟩) (fun o w ho hC=>q_val (val35_21 (S21.at 4 rfl) (S21.at 0 rfl) w ho)) fun a22 S22=>?_
 refine qstep (k:=22) (v:=.bool false) o35_22 S22 (by decide) rfl (.inl rfl) (fun o w ho hC=>q_val (val35_22 (S22.at 8 rfl) (S22.at 0 rfl) w ho)) fun a23 S23=>?_
 refine qstep (k:=23) (v:=.bool false) o35_23 S23 (by decide) rfl (.inl rfl) (fun o w ho hC=>q_mv (.inl ho) (S23.at 0 rfl)) fun a24 S24=>?_
 refine qstep (k:=24) (v:=z4) o35_24 S24 (by decide) rfl (.inr ⟨_,_,_,rfl,g35_23,by decide,(S24.at 0 rfl)⟩) (fun o w ho hC=>q_mv (.inl ho) (S24.at 31 rfl)) fun a25 S25=>?_
 refine qstep (k:=25) (v:=.int .i64 ((j:Int)+1)) o35_25 S25 (by decide) rfl (.inr ⟨_,_,_,rfl,g35_23,by decide,(S25.at 1 rfl)⟩) (fun o w ho hC=>q_mv (.inl ho) (S25.at 33 rfl)) fun a26 S26=>?_
 refine qstep (k:=26) (v:=.bool !g) o35_26 S26 (by decide) rfl (.inr ⟨_,_,_,rfl,g35_23,by decide,(S26.at 2 rfl)⟩) (fun o w ho hC=>q_call ho Tryz.func34 rfl rfl (S26.at 1 rfl) (S26.at 0 rfl) (C4 w hC)) fun a27 S27=>?_
 refine qstep (k:=27) (v:=.slice (some ⟨ga,0,none⟩) L cap) o35_27 S27 (by decide) rfl (.inr ⟨_,_,_,rfl,g35_23,by decide,(S27.at 3 rfl)⟩) (fun o w ho hC=>q_mv (.inl ho) (S27.at 27 rfl)) fun a28 S28=>?_
 refine qstep (k:=28) (v:=.int .i64 ((j:Int)+1)) o35_28 S28 (by decide) rfl (.inr ⟨_,_,_,rfl,g35_23,by decide,(S28.at 4 rfl)⟩) (fun o w ho hC=>q_mv (.inl ho) (S28.at 36 rfl)) fun a29 S29=>?_
 refine qstep (k:=29) (v:=.int .i64 (j:Int)) o35_29 S29 (by decide) rfl (.inr ⟨_,_,_,rfl,g35_23,by decide,(S29.at 5 rfl)⟩) (fun o w ho hC=>q_val (val35_29 (S29.at 0 rfl) hj hL w ho)) fun a30 S30=>?_
 refine qstep (k:=30) (v:=.pointer (some ⟨ga,j,none⟩)) o35_30 S30 (by decide) rfl (.inr ⟨_,_,_,rfl,g35_23,by decide,(S30.at 6 rfl)⟩) (fun o w ho hC=>q_val (val35_30 (S30.at 2 rfl) (S30.at 0 rfl) hj w ho)) fun a31 S31=>?_
 refine qstep (k:=31) (v:=.bool g) o35_31 S31 (by decide) rfl (.inr ⟨_,_,_,rfl,g35_23,by decide,(S31.at 7 rfl)⟩) (fun o w ho hC=>q_val (val35_31 (S31.at 0 rfl) w (q0 w hC) ho)) fun a32 S32=>?_
 refine qstep (k:=32) (v:=.bool false) o35_32 S32 (by decide) rfl (.inr ⟨_,_,_,rfl,g35_23,by decide,(S32.at 8 rfl)⟩) (fun o w ho hC=>q_val (val35_32 (S32.at 5 rfl) (S32.at 0 rfl) w ho)) fun a33 S33=>?_
 refine qstep (k:=33) (v:=.bool false) o35_33 S33 (by decide) rfl (.inl rfl) (fun o w ho hC=>q_val (val35_33 (S33.at 9 rfl) (S33.at 0 rfl) w ho)) fun a34 S34=>?_
 refine qstep (k:=34) (v:=.bool false) o35_34 S34 (by decide) rfl (.inl rfl) (fun o w ho hC=>q_mv (.inl ho) (S34.at 0 rfl)) fun a35 S35=>?_
 refine qstep (k:=35) (v:=.pointer (some ⟨db,0,none⟩)) o35_35 S35 (by decide) rfl (.inr ⟨_,_,_,rfl,g35_34,by decide,(S35.at 0 rfl)⟩) (fun o w ho hC=>q_mv (.inl ho) (S35.at 36 rfl)) fun a36 S36=>?_
 refine qstep (k:=36) (v:=.int .i64 ((j:Int)+1)) o35_36 S36 (by decide) rfl (.inr ⟨_,_,_,rfl,g35_34,by decide,(S36.at 1 rfl)⟩) (fun o w ho hC=>q_mv (.inl ho) (S36.at 44 rfl)) fun a37 S37=>?_
 refine qstep (k:=37) (v:=.int .i64 0) o35_37 S37 (by decide) rfl (.inr ⟨_,_,_,rfl,g35_34,by decide,(S37.at 2 rfl)⟩) (fun o w ho hC=>q_call ho Tryz.func31 rfl rfl (S37.at 1 rfl) (S37.at 0 rfl) (C5 w hC)) fun a38 S38=>?_
 refine qstep (k:=38) (v:=.bool false) o35_38 S38 (by decide) rfl (.inr ⟨_,_,_,rfl,g35_34,by decide,(S38.at 3 rfl)⟩) (fun o w ho hC=>q_val (val35_38 (S38.at 0 rfl) w ho)) fun a39 S39=>?_
 refine qstep (k:=39) (v:=.bool false) o35_39 S39 (by decide) rfl (.inl rfl) (fun o w ho hC=>q_val (val35_39 (S39.at 4 rfl) (S39.at 0 rfl) w ho)) fun a40 S40=>?_
 refine qstep (k:=40) (v:=.bool false) o35_40 S40 (by decide) rfl (.inl rfl) (fun o w ho hC=>q_mv (.inl ho) (S40.at 0 rfl)) fun a41 S41=>?_
 refine qstep (k:=41) (v:=.pointer (some ⟨db,0,none⟩)) o35_41 S41 (by decide) rfl (.inr ⟨_,_,_,rfl,g35_40,by decide,(S41.at 0 rfl)⟩) (fun o w ho hC=>q_mv (.inl ho) (S41.at 42 rfl)) fun a42 S42=>?_
 refine qstep (k:=42) (v:=.int .i64 ((j:Int)+1)) o35_42 S42 (by decide) rfl (.inr ⟨_,_,_,rfl,g35_40,by decide,(S42.at 1 rfl)⟩) (fun o w ho hC=>q_mv (.inl ho) (S42.at 50 rfl)) fun a43 S43=>?_
 refine qstep (k:=43) (v:=.string t) o35_43 S43 (by decide) rfl (.inr ⟨_,_,_,rfl,g35_40,by decide,(S43.at 2 rfl)⟩) (fun o w ho hC=>q_call ho Tryz.func14 rfl rfl (S43.at 1 rfl) (S43.at 0 rfl) (C6 w hC)) fun a44 S44=>?_
 refine qstep (k:=44) (v:=.string t) o35_44 S44 (by decide) rfl (.inr ⟨_,_,_,rfl,g35_40,by decide,(S44.at 3 rfl)⟩) (fun o w ho hC=>q_mv (.inl ho) (S44.at 54 rfl)) fun a45 S45=>?_
 refine qstep (k:=45) (v:=.bool false) o35_45 S45 (by decide) rfl (.inr ⟨_,_,_,rfl,g35_40,by decide,(S45.at 4 rfl)⟩) (fun o w ho hC=>q_val (val35_45 (S45.at 1 rfl) (S45.at 0 rfl) w ho)) fun a46 S46=>?_
 refine qstep (k:=46) (v:=.bool false) o35_46 S46 (by decide) rfl (.inl rfl) (fun o w ho hC=>q_val (val35_46 (S46.at 5 rfl) (S46.at 0 rfl) w ho)) fun a47 S47=>?_
 rw [end35]
 refine h _ ⟨S47.1,S47.2.1,fun x hx=>S47.2.2 x ?_⟩
 simp only [List.mem_cons] at hx ⊢
 rcases hx with h | hx
 ·exact .inl h
 ·exact .inr (.inr (.inr (.inr (.inr (.inr (.inr (.inr (.inr (.inr (.inr (.inr (.inr (.inr (.inr (.inr (.inr (.inr (.inr (.inr (.inr (.inr (.inr (.inr (.inr (.inr (.inr (.inr (.inr (.inr (.inr (.inr (.inr (.inr (.inr (.inr (.inr (.inr (.inr (.inr (.inr (.inr (.inr (.inr (.inr (.inr (.inr (hx)))))))))))))))))))))))))))))))))))))))))))))))
end
theorem fst35:X15=.seq (fstC X15) (.seq (fstC (sndN 1 X15)) (.seq (fstC (sndN 2 X15)) (.seq (fstC (sndN 3 X15)) (.seq (.region 35 ops35 true) (sndN 5 X15))))):=by kernel_rfl
theorem loop15_eq:loop15=.seq (fstC loop15) (.seq (.block 3 X15) (sndN 2 loop15)):=by kernel_rfl
theorem part15_eq:part10 15=.seq (fstC (part10 15)) (.block 2 (.loop loop15)):=by kernel_rfl
theorem lex35:Region.lexB .any ops35=true:=by kernel_rfl
def afterX (id:Nat) (Qe:Act→World→Prop):Exit→Act→World→Prop
 | .exit i=>fun a w=>i=id∧Qe a w
 | _=>fun _ _=>False
def stay (f:Nat→Value):List (Nat × Value):=[(9,f 9),(12,f 12),(14,f 14),(15,f 15),(16,f 16),(18,f 18),(20,f 20),(22,f 22)]
section
variable {f:Nat→Value} {w:World}
set_option maxRecDepth 100000
theorem p24:(fstC (part10 15)).wp Tryz.prog (afterN fun a' w'=>w'=w∧Slots 219 ((24,.int .i64 1) :: stay f) a') { tmps:=((List.range 219).map f).toArray,defers:=[] } w:=by
 simp only [part10,body10,Tryz.f10,Option.getD_some,sndN,fstC]
 simp only [List.range,List.range.loop,List.map]
 go_wp2
 exact ⟨rfl,rfl,rfl,by simp [stay]; exact ⟨rfl,rfl,rfl,rfl,rfl,rfl,rfl,rfl,rfl⟩⟩
theorem pA_lt {ao:Option Addr} {n cap j:Nat} (h9:f 9=.slice ao n cap) (h24:f 24=.int .i64 ((j:Int)+1)) (hlt:(j:Int)+1≤(n:Int)):(fstC loop15).wp Tryz.prog (afterN fun a' w'=>w'=w∧Slots 219 ((24,f 24) :: stay f) a') { tmps:=((List.range 219).map f).toArray,defers:=[] } w:=by
 simp only [loop15,part10,body10,Tryz.f10,Option.getD_some,sndN,fstC]
 simp only [List.range,List.range.loop,List.map,h9,h24]
 go_wp2
 exact ⟨rfl,rfl,rfl,by simp [stay,h9]; exact ⟨rfl,rfl,rfl,rfl,rfl,rfl,rfl,rfl,rfl⟩⟩
theorem pA_ge {ao:Option Addr} {n cap j:Nat} (h9:f 9=.slice ao n cap) (h24:f 24=.int .i64 ((j:Int)+1)) (hlt:¬ (j:Int)+1≤(n:Int)):(fstC loop15).wp Tryz.prog (afterX 2 fun a' w'=>w'=w∧Slots 219 ((24,f 24) :: stay f) a') { tmps:=((List.range 219).map f).toArray,defers:=[] } w:=by
 simp only [loop15,part10,body10,Tryz.f10,Option.getD_some,sndN,fstC]
 simp only [List.range,List.range.loop,List.map,h9,h24]
 go_wp2
 exact ⟨rfl,rfl,rfl,rfl,by simp [stay,h9]; exact ⟨rfl,rfl,rfl,rfl,rfl,rfl,rfl,rfl,rfl⟩⟩
theorem pB1:(fstC X15).wp Tryz.prog (afterN fun a' w'=>w'=w∧Slots 219 ((25,.bool false) :: (24,f 24) :: stay f) a') { tmps:=((List.range 219).map f).toArray,defers:=[] } w:=by
 simp only [X15,loop15,part10,body10,Tryz.f10,Option.getD_some,sndN,fstC]
 simp only [List.range,List.range.loop,List.map]
 go_wp2
 exact ⟨rfl,rfl,rfl,by simp [stay]; exact ⟨rfl,rfl,rfl,rfl,rfl,rfl,rfl,rfl,rfl,rfl⟩⟩
theorem pB3:(fstC (sndN 2 X15)).wp Tryz.prog (afterN fun a' w'=>w'=w∧Slots 219 ((27,.string ⟨#[]⟩) :: (25,f 25) :: (24,f 24) :: stay f) a') { tmps:=((List.range 219).map f).toArray,defers:=[] } w:=by
 simp only [X15,loop15,part10,body10,Tryz.f10,Option.getD_some,sndN,fstC]
 simp only [List.range,List.range.loop,List.map]
 go_wp2
 exact ⟨rfl,rfl,rfl,by simp [stay]; exact ⟨rfl,rfl,rfl,rfl,rfl,rfl,rfl,rfl,rfl,rfl,rfl⟩⟩
theorem pC {j:Nat} (h24:f 24=.int .i64 ((j:Int)+1)) (hj:j≤40):(sndN 2 loop15).wp Tryz.prog (afterN fun a' w'=>w'=w∧Slots 219 ((24,.int .i64 ((j:Int)+1+1)) :: stay f) a') { tmps:=((List.range 219).map f).toArray,defers:=[] } w:=by
 simp only [loop15,part10,body10,Tryz.f10,Option.getD_some,sndN,fstC]
 simp only [List.range,List.range.loop,List.map,h24]
 go_wp2
 exact ⟨rfl,rfl,rfl,by simp [stay]; exact ⟨rfl,rfl,rfl,rfl,rfl,rfl,rfl,rfl,rfl⟩⟩
theorem pB2 {k m : Int} {j : Nat} (h14 : f 14 = .int .i64 k) (h15 : f 15 = .int .i64 m) (h24 : f 24 = .int .i64 ((j : Int) + 1)) (h25 : f 25 = .bool false) (hk : -20 ≤ k ∧ k ≤ 20) (hm : -30 ≤ m ∧ m ≤ 30) :
  (fstC (sndN 1 X15)).wp Tryz.prog (afterN fun a' w'=>w'=w∧Slots 219 ((25,.bool (isP k m ((j:Int)+1) 101)) :: (24,f 24) :: stay f) a') { tmps:=((List.range 219).map f).toArray,defers:=[] } w:=by
 simp only [X15,loop15,part10,body10,Tryz.f10,Option.getD_some,sndN,fstC]
 simp only [List.range,List.range.loop,List.map,h14,h15,h24,h25]
 go_wp2_with fail
 go_loopg [25,26] 101 (fun g s25 s26 wx=>∃ i:Nat,i≤101∧g=101 - i∧s25=.bool (isP k m ((j:Int)+1) i)∧s26=.int .i64 (i:Int)∧wx=w)
 case atStart=>exact ⟨0,by omega,rfl,rfl,rfl,rfl⟩
 case round =>
  obtain ⟨i,hi,rfl,rfl,rfl,rfl⟩:=hrel
  by_cases hi100:i≤100
  ·have c1:(i:Int)≤100:=by omega
   obtain ⟨b1,b2⟩:=mul_bd hk hi100
   have HS:Hid (isP k m ((j:Int)+1) (i+1)=(isP k m ((j:Int)+1) i || (k * (i:Int)+m == (j:Int)+1))):=hide (isP_succ _ _ _ _)
   obtain ⟨D,hD⟩:∃ D,isP k m ((j:Int)+1) i=D:=⟨_,rfl⟩
   obtain ⟨q,hq⟩:∃ q,k * (i:Int)=q:=⟨_,rfl⟩
   rw [hD,hq] at HS
   rw [hq] at b1 b2
   rw [hD]
   clear hD
   cases D
   ·go_wp2
    go_roundg (101 - (i+1))
    case measure=>omega
    case rel=>exact ⟨i+1,by omega,rfl,by rw [HS.out,Bool.false_or],by simp,rfl⟩
   ·go_wp2
    go_roundg (101 - (i+1))
    case measure=>omega
    case rel=>exact ⟨i+1,by omega,rfl,by rw [HS.out,Bool.true_or],by simp,rfl⟩
  ·have c1:¬ (i:Int)≤100:=by omega
   obtain rfl:i=101:=by omega
   go_wp2
   exact ⟨rfl,rfl,rfl,by simp [stay,h14,h15]; exact ⟨rfl,rfl,rfl,rfl,rfl,rfl,rfl,rfl,rfl,rfl⟩⟩
theorem pB4 {ga n cap j:Nat} {g:Bool} (h9:f 9=.slice (some ⟨ga,0,none⟩) n cap) (h24:f 24=.int .i64 ((j:Int)+1)) (h27:f 27=.string ⟨#[]⟩) (hj:j < n) (hn:n≤40) (q0:w.cell? ⟨ga,j,none⟩=some (.bool g)) :
  (fstC (sndN 3 X15)).wp Tryz.prog (afterN fun a' w'=>Old w w'∧Slots 219 ((27,.string ⟨(tOf j g).toArray⟩) :: (25,f 25) :: (24,f 24) :: stay f) a') { tmps:=((List.range 219).map f).toArray,defers:=[] } w:=by
 have hlt':(j:Int)+1≤(n:Int):=by omega
 have hjj:(j:Int)+1 - 1=(j:Int):=by omega
 have hdj:decI (j:Int)=decL j:=by unfold decI; rw [if_neg (by omega),Int.toNat_natCast]
 simp only [X15,loop15,part10,body10,Tryz.f10,Option.getD_some,sndN,fstC]
 simp only [List.range,List.range.loop,List.map,h9,h24,h27]
 cases g
 ·go_wp2
  exact ⟨Old.refl _,rfl,rfl,by simp [stay,h9]; exact ⟨rfl,rfl,rfl,rfl,rfl,rfl,rfl,rfl,rfl,rfl,rfl⟩⟩
 ·go_wp2_with fail
  refine (dec_q _ (j:Int) (by omega)).mono ?_
  rintro e w1 ⟨rfl,o1⟩
  rw [hdj]
  go_wp2
  exact ⟨o1,rfl,rfl,by simp [stay,h9]; exact ⟨rfl,rfl,rfl,rfl,rfl,rfl,rfl,rfl,rfl,rfl,rfl⟩⟩
theorem pB5 (h:f 205=.bool false):(sndN 5 X15).wp Tryz.prog (afterN fun a' w'=>w'=w∧Slots 219 ((24,f 24) :: stay f) a') { tmps:=((List.range 219).map f).toArray,defers:=[] } w:=by
 simp only [X15,loop15,part10,body10,Tryz.f10,Option.getD_some,sndN,fstC]
 simp only [List.range,List.range.loop,List.map,h]
 go_wp2
 exact ⟨rfl,rfl,rfl,by simp [stay]; exact ⟨rfl,rfl,rfl,rfl,rfl,rfl,rfl,rfl,rfl⟩⟩
end
end Go.Proofs.YtclpcnignheijaaGreatDoor.Num
