/-
  Parts of the proof: CJ, CK, CL, CM.
-/
import Derived.Test.YtclpcnignheijaaGreatDoorQ37
import Derived.Test.YtclpcnignheijaaGreatDoorQ38
set_option maxHeartbeats 4000000
set_option maxRecDepth 100000
namespace Go.Proofs.YtclpcnignheijaaGreatDoor.Num
open Go.RowKit Go.Proofs.YtclpcnignheijaaGreatDoor Go.Conc
section
variable {c d:Code} {Qn:Act→World→Prop} {Q:Exit→Act→World→Prop} {a:Act} {w:World}
theorem wp_then (h:c.wp Tryz.prog (afterN Qn) a w) (hn:∀ a' w',Qn a' w'→d.wp Tryz.prog Q a' w'):(Code.seq c d).wp Tryz.prog Q a w:=by
 refine wp_seq (wp_mono h ?_)
 intro e a' w' q
 cases e with
 | normal=>exact hn a' w' q
 | _=>exact q.elim
theorem at_conc {l:List (Nat × Value)} (S:Slots 219 l a) (h:c.wp Tryz.prog Q { tmps:=((List.range 219).map fun i=>a.eval (.tmp i)).toArray,defers:=[] } w):c.wp Tryz.prog Q a w:=by
 have e:=act_conc a 219 S.1 S.2.1
 rw [e]
 exact h
end
theorem stay_eq {a:Act} {x9 x12 x14 x15 x16 x18 x20 x22:Value} {l:List (Nat × Value)} (h:Slots 219 (l++[(9,x9),(12,x12),(14,x14),(15,x15),(16,x16),(18,x18),(20,x20),(22,x22)]) a):stay (fun i=>a.eval (.tmp i))=[(9,x9),(12,x12),(14,x14),(15,x15),(16,x16),(18,x18),(20,x20),(22,x22)]:=by
 have e:∀ s v,(s,v)∈[(9,x9),(12,x12),(14,x14),(15,x15),(16,x16),(18,x18),(20,x20),(22,x22)]→a.eval (.tmp s)=v:=fun s v hm=>h.2.2 (s,v) (List.mem_append_right _ hm)
 unfold stay
 dsimp only
 rw [e 9 x9 (by simp),e 12 x12 (by simp),e 14 x14 (by simp),e 15 x15 (by simp),e 16 x16 (by simp),e 18 x18 (by simp),e 20 x20 (by simp),e 22 x22 (by simp)]
section
variable {f:Nat→Value} {w:World} {db:Nat} {fs:List Bool}
theorem c15 {fv z1 z2 z3 z4 : Value} {k m : Int} {L1 L2 L3 L4 : List Int} (h9 : f 9 = fv) (h12 : f 12 = .pointer (some ⟨db, 0, none⟩)) (h14 : f 14 = .int .i64 k) (h15 : f 15 = .int .i64 m) (h16 : f 16 = z1) (h18 : f 18 = z2) (h20 : f 20 = z3) (h22 : f 22 = z4)
  (hk:-20≤k∧k≤20) (hm:-30≤m∧m≤30) (hfs:fs.length≤40) (hfv:BoolsC w fv fs) (ht:TrC w db (docBS fs)) (hb:BOk (docBS fs)) (i1:IntsC w z1 L1) (l1:L1.length≤5000) (i2:IntsC w z2 L2) (l2:L2.length≤5000) (i3:IntsC w z3 L3) (l3:L3.length≤5000) (i4:IntsC w z4 L4) (l4:L4.length≤5000)
  (g1:∀ j:Nat,j < fs.length→L1.any (· == ((j+1:Nat):Int))=isP k m ((j+1:Nat):Int) 101) (g2:∀ j:Nat,j < fs.length→L2.any (· == ((j+1:Nat):Int))=decide (j=0)) (g3:∀ j:Nat,j < fs.length→L3.any (· == ((j+1:Nat):Int))=decide (j+1=fs.length)) (g4:∀ (j:Nat) (g:Bool),fs[j]? = some g→L4.any (· == ((j+1:Nat):Int))=!g) :
  (part10 15).wp Tryz.prog (afterN fun a' w'=>Old w w'∧Slots 219 [(16,z1),(18,z2),(22,z4)] a') { tmps:=((List.range 219).map f).toArray,defers:=[] } w:=by
 obtain ⟨ao,cap,rfl,hc⟩:=id hfv
 let B:List (Nat × Value):=[(9,.slice ao fs.length cap),(12,.pointer (some ⟨db,0,none⟩)),(14,.int .i64 k),(15,.int .i64 m),(16,z1),(18,z2),(20,z3),(22,z4)]
 have hB:stay f=B:=by unfold stay; rw [h9,h12,h14,h15,h16,h18,h20,h22]
 have stB:∀ {a:Act} (l:List (Nat × Value)),Slots 219 (l++B) a→stay (fun i=>a.eval (.tmp i))=B:=fun l h=>stay_eq h
 rw [part15_eq]
 refine wp_then (p24 (f:=f) (w:=w)) ?_
 rintro a0 w0 ⟨hw0,S0⟩
 subst w0
 rw [hB] at S0
 refine wp_block ?_
 refine wp_loop_ghost (fun n a' w'=>∃ j:Nat,j≤fs.length∧n=fs.length - j∧Slots 219 ((24,.int .i64 ((j:Int)+1)) :: B) a'∧Old w w') fs.length ⟨0,Nat.zero_le _,rfl,by rw [show (((0:Nat):Int)+1)=1 from rfl]; exact S0,Old.refl _⟩ ?_
 rintro n a w1 ⟨j,hj,rfl,S,ho⟩
 rw [loop15_eq]
 by_cases hlt:j < fs.length
 ·obtain ⟨g,hg⟩:∃ g,fs[j]? = some g:=⟨fs[j],List.getElem?_eq_getElem hlt⟩
  obtain ⟨ga,rfl,q0⟩:=hc j g hg
  have e24:∀ {a:Act} (l:List (Nat × Value)),Slots 219 (l++(24,.int .i64 ((j:Int)+1)) :: B) a→a.eval (.tmp 24)=.int .i64 ((j:Int)+1):=fun l h=>h.2.2 (24,_) (by simp)
  have drop1:∀ {a:Act} {x:Nat × Value} {l:List (Nat × Value)},Slots 219 (x :: l) a→Slots 219 l a:=fun h=>⟨h.1,h.2.1,fun y hy=>h.2.2 y (List.mem_cons_of_mem _ hy)⟩
  refine wp_then (at_conc S (pA_lt (S.at 1 rfl) (e24 [] S) (by omega))) ?_
  rintro a1 _ ⟨rfl,S1⟩
  rw [stB [(24,_)] S,e24 [] S] at S1
  refine wp_seq (wp_block ?_)
  rw [fst35]
  refine wp_then (at_conc S1 (pB1 (f:=fun i=>a1.eval (.tmp i)))) ?_
  rintro a2 _ ⟨rfl,S2⟩
  rw [stB [(24,_)] S1,e24 [] S1] at S2
  refine wp_then (at_conc S2 (pB2 (S2.at 4 rfl) (S2.at 5 rfl) (e24 [(25,_)] S2) (S2.at 0 rfl) hk hm)) ?_
  rintro a3 _ ⟨rfl,S3⟩
  rw [stB [(25,_),(24,_)] S2,e24 [(25,_)] S2] at S3
  refine wp_then (at_conc S3 (pB3 (f:=fun i=>a3.eval (.tmp i)))) ?_
  rintro a4 _ ⟨rfl,S4⟩
  rw [stB [(25,_),(24,_)] S3,e24 [(25,_)] S3,S3.at 0 rfl] at S4
  refine wp_then (at_conc S4 (pB4 (S4.at 3 rfl) (e24 [(27,_),(25,_)] S4) (S4.at 0 rfl) hlt hfs (ho.cells _ _ q0))) ?_
  rintro a5 w2 ⟨o1,S5⟩
  rw [stB [(27,_),(25,_),(24,_)] S4,e24 [(27,_),(25,_)] S4,S4.at 1 rfl] at S5
  have T:=ho.trans o1
  have e2:decide (j=0)=(((j:Int)+1) == 1):=by rw [Bool.eq_iff_iff]; simp; omega
  have e3:decide (j+1=fs.length)=(((j:Int)+1) == (fs.length:Int)):=by rw [Bool.eq_iff_iff]; simp; omega
  obtain ⟨x,hx,hxt⟩:∃ x,(docBS fs).els[j+1]? = some x∧textB (docBS fs) x=⟨(tOf j g).toArray⟩:=by
   obtain ⟨lo,q1,-⟩:=doc_at hg
   have q2:=doc_text hg
   unfold textAt at q2
   rw [q1] at q2
   exact ⟨_,q1,q2⟩
  have hlen:=doc_len (fs:=fs)
  have S6:Slots 219 [(9,.slice (some ⟨ga,0,none⟩) fs.length cap),(12,.pointer (some ⟨db,0,none⟩)),(14,.int .i64 k),(15,.int .i64 m),(16,z1),(18,z2),(20,z3),(22,z4),(24,.int .i64 ((j:Int)+1)),(25,.bool (isP k m ((j:Int)+1) 101)),(27,.string ⟨(tOf j g).toArray⟩)] a5:=by
   refine ⟨S5.1,S5.2.1,fun y hy=>S5.2.2 y ?_⟩
   simp only [List.mem_cons,List.not_mem_nil,or_false,B] at hy ⊢
   rcases hy with rfl | rfl | rfl | rfl | rfl | rfl | rfl | rfl | rfl | rfl | rfl <;> simp
  refine wp_seq (wp_region_quiet (C:=fun w'=>Old w2 w') mixed lex35 (Old.heap rfl) (q35 S6 hlt hfs rfl rfl (fun w' hw=>hw.cells _ _ (T.cells _ _ q0))
   (fun w' hw=>(in_is w' z1 L1 (i1.old (T.trans hw)) l1 _ _ (g1 j hlt)).mono fun e w3 h=>⟨h.1,by rw [h.2]; exact hw⟩)
   (fun w' hw=>(in_is w' z2 L2 (i2.old (T.trans hw)) l2 _ _ ((g2 j hlt).trans e2)).mono fun e w3 h=>⟨h.1,by rw [h.2]; exact hw⟩)
   (fun w' hw=>(in_is w' z3 L3 (i3.old (T.trans hw)) l3 _ _ ((g3 j hlt).trans e3)).mono fun e w3 h=>⟨h.1,by rw [h.2]; exact hw⟩)
   (fun w' hw=>(in_is w' z4 L4 (i4.old (T.trans hw)) l4 _ _ (g4 j g hg)).mono fun e w3 h=>⟨h.1,by rw [h.2]; exact hw⟩)
   (fun w' hw=>?_) (fun w' hw=>?_) fun a6 S7 w3 hw=>?_))
  ·have:=dparent_q hb (j+1) (by rw [hlen]; omega) w' ((T.trans hw).tr ht)
   rw [doc_par hlt] at this
   exact this.mono fun e w3 h=>⟨h.1,by rw [h.2]; exact hw⟩
  ·have:=dtext_q hb (j+1) x hx w' ((T.trans hw).tr ht)
   rw [hxt] at this
   exact this.mono fun e w3 h=>⟨h.1,hw.trans h.2⟩
  have S8:Slots 219 ((205,.bool false) :: (24,.int .i64 ((j:Int)+1)) :: B) a6:=by
   refine ⟨S7.1,S7.2.1,fun y hy=>S7.2.2 y ?_⟩
   simp only [List.mem_cons,List.not_mem_nil,or_false,B] at hy ⊢
   rcases hy with rfl | rfl | rfl | rfl | rfl | rfl | rfl | rfl | rfl | rfl <;> simp
  refine wp_mono (at_conc S8 (pB5 (S8.at 0 rfl))) ?_
  intro e a7 w4 q
  cases e with
  | normal =>
   obtain ⟨rfl,S9⟩:=q
   rw [stB [(205,_),(24,_)] S8,e24 [(205,_)] S8] at S9
   refine wp_mono (at_conc S9 (pC (e24 [] S9) (by omega))) ?_
   intro e a8 w5 q
   cases e with
   | normal =>
    obtain ⟨rfl,S10⟩:=q
    rw [stB [(24,_)] S9] at S10
    exact ⟨fs.length - (j+1),by omega,j+1,by omega,rfl,S10,T.trans hw⟩
   | _=>exact q.elim
  | _=>exact q.elim
 ·refine wp_seq (wp_mono (at_conc S (pA_ge (S.at 1 rfl) (S.at 0 rfl) (by omega))) ?_)
  intro e a' w' q
  cases e with
  | exit i =>
   obtain ⟨rfl,rfl,S'⟩:=q
   rw [stB [(24,_)] S] at S'
   refine ⟨ho,S'.1,S'.2.1,fun y hy=>S'.2.2 y ?_⟩
   simp only [List.mem_cons,List.not_mem_nil,or_false,B] at hy ⊢
   rcases hy with rfl | rfl | rfl <;> simp
  | _=>exact q.elim
end
section
variable {fs:List Bool}
def selN (k:Nat) (t:NthQ):SLst:=[[(0,iN,[.mk k noB noAttr t []])]]
theorem sel_zero (k:Nat) (t:NthQ):mean (docBS fs) (selN k t) 0=false:=by
 unfold selN
 rw [mean_named,doc_name0,Bool.false_and]
theorem sel_nth {k m:Int} (hk:-20≤k∧k≤20) (hm:-30≤m∧m≤30) (hfs:fs.length≤40) {j:Nat} (h:j < fs.length):mean (docBS fs) (selN 8 ⟨noB,true,k,m⟩) (j+1)=isP k m ((j+1:Nat):Int) 101:=by
 unfold selN
 rw [mean_named,doc_name h,Bool.true_and]
 show amongB (nthNum (docBS fs) (j+1+1) (j+1)) ⟨noB,true,k,m⟩=_
 rw [doc_nth j _ h (by omega),among_any hk hm (by omega)]
 rfl
theorem sel_first {j:Nat} (h:j < fs.length):mean (docBS fs) (selN 5 noNth) (j+1)=decide (j=0):=by
 unfold selN
 rw [mean_named,doc_name h,Bool.true_and]
 show decide (beforeP (docBS fs) (j+1)=-1)=_
 cases j with
 | zero=>rw [doc_before0 (by omega)]; rfl
 | succ j=>rw [doc_before h,Bool.eq_iff_iff]; simp; omega
theorem sel_last {j:Nat} (h:j < fs.length):mean (docBS fs) (selN 6 noNth) (j+1)=decide (j+1=fs.length):=by
 unfold selN
 rw [mean_named,doc_name h,Bool.true_and]
 show decide (aftP (docBS fs) (j+1)=-1)=_
 rw [doc_after h,Bool.eq_iff_iff]
 split <;> simp <;> omega
theorem sel_empty {j:Nat} {g:Bool} (h:fs[j]? = some g):mean (docBS fs) (selN 4 noNth) (j+1)=!g:=by
 have hj:j < fs.length:=(List.getElem?_eq_some_iff.1 h).1
 unfold selN
 rw [mean_named,doc_name hj,Bool.true_and]
 show (!hasElP (docBS fs) (j+1) && (textAt (docBS fs) (j+1)).toList.isEmpty)=_
 rw [doc_has hj,doc_text h,Lib.toList_data]
 cases g with
 | true =>
  have:=dec_ne j
  simp only [tOf,if_true]
  cases hd:decL j with
  | nil=>exact absurd hd this
  | cons a l=>rfl
 | false=>rfl
end
section
variable {f:Nat→Value} {w:World} {db:Nat} {fs:List Bool}
theorem ok10_7:codeOk Tryz.prog alM glP false (part10 7)=true:=by kernel_rfl
theorem ok10_14:codeOk Tryz.prog alM glP false (part10 14)=true:=by kernel_rfl
set_option maxRecDepth 100000
theorem c7 {ao:Option Addr} {cap:Nat} (h7:f 7=.bool true) (h9:f 9=.slice ao fs.length cap) (h12:f 12=.pointer (some ⟨db,0,none⟩)) (h13:f 13=.nilIface) (hfs:fs.length≤40) (ht:TrC w db (docBS fs)) :
  (part10 7).wp Tryz.prog (afterN fun a' w'=>w'=w∧Slots 219 [(1,f 1),(2,f 2),(9,f 9),(12,f 12)] a') { tmps:=((List.range 219).map f).toArray,defers:=[] } w:=by
 have hl:=doc_len (fs:=fs)
 have hi:((docBS fs).els.length:Int)=(fs.length:Int)+1:=by rw [hl]; simp
 simp only [part10,body10,Tryz.f10,Option.getD_some,sndN,fstC]
 simp only [List.range,List.range.loop,List.map,h7,h9,h12,h13]
 go_wp2_with fail
 refine (dlen_q w ht).mono ?_
 rintro e w1 ⟨rfl,rfl⟩
 rw [hi]
 go_wp2
 exact ⟨rfl,rfl,rfl,by simp; exact ⟨rfl,rfl,rfl,rfl⟩⟩
theorem c14 (h17:f 17=.bool true) (h19:f 19=.bool true) (h21:f 21=.bool true) (h23:f 23=.bool true) :
  (part10 14).wp Tryz.prog (afterN fun a' w'=>w'=w∧Slots 219 (stay f) a') { tmps:=((List.range 219).map f).toArray,defers:=[] } w:=by
 simp only [part10,body10,Tryz.f10,Option.getD_some,sndN,fstC]
 simp only [List.range,List.range.loop,List.map,h17,h19,h21,h23]
 go_wp2
 exact ⟨rfl,rfl,rfl,by simp [stay]; exact ⟨rfl,rfl,rfl,rfl,rfl,rfl,rfl,rfl⟩⟩
end
theorem rest5_eq:sndN 5 body10=.seq (.region 12 (ops10 5) false) (.seq (.region 13 (ops10 6) false) (.seq (part10 7) (.seq (.region 16 (ops10 8) false) (.seq (.region 17 (ops10 9) false) (.seq (.region 18 (ops10 10) false) (.seq (.region 19 (ops10 11) false) (.seq (.region 20 (ops10 12) false) (.seq (.region 21 (ops10 13) false) (.seq (part10 14) (.seq (part10 15) (sndN 16 body10))))))))))):=by kernel_rfl
section
variable {F:Fr0 Tryz.prog} {Ends:Machine→Trace→Prop} {Q:Exit→Act→World→Prop} {a:Act} {v:World} {ops:Array Oper} {i:Nat} {rest:List Nat} {o:Oper} {ats:Array TypeId}
theorem opsV_sub (hE:EndsCl Tryz.prog Ends) (d:Nat) (x:Operand) (c n:Int) (ho:ops[i]? = some o) (hop:o.op=.binOp .sub 3 x (.const (.int .i64 c)) 3) (hg:o.guard=none) (hd:o.dst=some d) (hx:a.eval x=.int .i64 n) (hw:IntKind.i64.wrap (n - c)=n - c) (h:opsV Tryz.prog alM glP F Ends ops rest Q (a.put (some d) (.int .i64 (n - c))) v):opsV Tryz.prog alM glP F Ends ops (i :: rest) Q a v:=by
 refine opsV_value setupM hE ho (by rw [hop]; rfl) (by simp [Region.wanted,hg]) fun T d'=>⟨.int .i64 (n - c),v.re T d',?_,?_⟩
 ·unfold execOp
  rw [hop]
  have hc:a.eval (.const (.int .i64 c))=.int .i64 c:=rfl
  revert hx hc
  generalize a.eval=ev
  intro hx hc
  simp [go_sem,hx,hc,hw]
 ·rw [hd]
  exact fun b k cs hb hc T' d'=>h b k cs hb hc T' d'
theorem opsV_pick (hE:EndsCl Tryz.prog Ends) (d:Nat) (x:Operand) (c n:Int) (ho:ops[i]? = some o) (hop:o.op=.call { callee:=.value (.func 35),args:=#[x,.const (.int .i64 n)],argTypes:=ats }) (hg:o.guard=none) (hd:o.dst=some d) (hx:a.eval x=.int .i64 c) (hc:-9223372036854775808≤c∧c≤9223372036854775807) (hn:0 < n∧n≤1000)
  (h:∀ v1,Old v v1→opsV Tryz.prog alM glP F Ends ops rest Q (a.put (some d) (.int .i64 (pickP c n))) v1):opsV Tryz.prog alM glP F Ends ops (i :: rest) Q a v:=by
 refine opsV_call setupM hE (Post:=fun y v1=>y=.int .i64 (pickP c n)∧Old v v1) ho (by simp [Region.wanted,hg]) hop (by kernel_rfl) Tryz.func35 rfl rfl (fun y w T d h=>⟨h.1,h.2.trans (Old.heap rfl)⟩) (fun T=>?_) fun y v1 hy=>by rw [hd,hy.1]; exact h v1 hy.2
 simp only [List.map_toArray,List.map_cons,List.map_nil,hx]
 refine (pick_q (v.re T 0) c n hc hn).mono ?_
 rintro e v' ⟨rfl,rfl⟩
 exact ⟨_,rfl,rfl,Old.heap rfl⟩
theorem opsV_dec (hE:EndsCl Tryz.prog Ends) (d:Nat) (x:Operand) (k:Int) (ho:ops[i]? = some o) (hop:o.op=.call { callee:=.value (.func 36),args:=#[x],argTypes:=ats }) (hg:o.guard=none) (hd:o.dst=some d) (hx:a.eval x=.int .i64 k) (hk:-100 < k∧k < 100)
  (h:∀ v1,Old v v1→opsV Tryz.prog alM glP F Ends ops rest Q (a.put (some d) (.string ⟨(decI k).toArray⟩)) v1):opsV Tryz.prog alM glP F Ends ops (i :: rest) Q a v:=by
 refine opsV_call setupM hE (Post:=fun y v1=>y=.string ⟨(decI k).toArray⟩∧Old v v1) ho (by simp [Region.wanted,hg]) hop (by kernel_rfl) Tryz.func36 rfl rfl (fun y w T d h=>⟨h.1,h.2.trans (Old.heap rfl)⟩) (fun T=>?_) fun y v1 hy=>by rw [hd,hy.1]; exact h v1 hy.2
 simp only [List.map_toArray,List.map_cons,List.map_nil,hx]
 refine (dec_q (v.re T 0) k hk).mono ?_
 rintro e v' ⟨rfl,ho⟩
 exact ⟨_,rfl,rfl,(Old.heap rfl:Old v (v.re T 0)).trans ho⟩
theorem opsV_plus (hE:EndsCl Tryz.prog Ends) (d:Nat) (x:Operand) (k:Int) (ho:ops[i]? = some o) (hop:o.op=.call { callee:=.value (.func 37),args:=#[x],argTypes:=ats }) (hg:o.guard=none) (hd:o.dst=some d) (hx:a.eval x=.int .i64 k) (hk:-100 < k∧k < 100)
  (h:∀ v1,Old v v1→opsV Tryz.prog alM glP F Ends ops rest Q (a.put (some d) (.string ⟨(plusI k).toArray⟩)) v1):opsV Tryz.prog alM glP F Ends ops (i :: rest) Q a v:=by
 refine opsV_call setupM hE (Post:=fun y v1=>y=.string ⟨(plusI k).toArray⟩∧Old v v1) ho (by simp [Region.wanted,hg]) hop (by kernel_rfl) Tryz.func37 rfl rfl (fun y w T d h=>⟨h.1,h.2.trans (Old.heap rfl)⟩) (fun T=>?_) fun y v1 hy=>by rw [hd,hy.1]; exact h v1 hy.2
 simp only [List.map_toArray,List.map_cons,List.map_nil,hx]
 refine (plus_q (v.re T 0) k hk).mono ?_
 rintro e v' ⟨rfl,ho⟩
 exact ⟨_,rfl,rfl,(Old.heap rfl:Old v (v.re T 0)).trans ho⟩
end
theorem decI_len (k:Int):(decI k).length≤3:=by
 unfold decI
 split
 ·have:=(dec_len (-k).toNat).1; simp; omega
 ·have:=(dec_len k.toNat).1; omega
theorem plusI_len (k:Int):(plusI k).length≤4:=by
 unfold plusI
 split
 ·have:=decI_len k; omega
 ·have:=(dec_len k.toNat).1; simp; omega
def Lst (v:World) (b:BS) (l:SLst) (z:Value):Prop:=IntsC v z (meantL b.els.length (mean b l))
theorem counted_rest {F:Fr0 Tryz.prog} {Ends:Machine→Trace→Prop} {v:World} (hE:EndsCl Tryz.prog Ends) (V:VG v) {fs:List Bool} (hfs:fs.length≤40) {D:ByteArray} (hD:D.data.toList=[60,100,105,118,62]++itemsL 0 fs) (hDs:D.size≤400) {y:Value} (hy:BoolsC v y fs) {av bv:Int} (hav:-9223372036854775808≤av∧av≤9223372036854775807) (hbv:-9223372036854775808≤bv∧bv≤9223372036854775807)
  {A0:Act} (s0:A0.tmps.size=219) (d0:A0.defers=[]) (x1:A0.eval (.tmp 1)=.int .i64 av) (x2:A0.eval (.tmp 2)=.int .i64 bv) (x7:A0.eval (.tmp 7)=.bool true) (x8:A0.eval (.tmp 8)=.string D) (x9:A0.eval (.tmp 9)=y) :
  wpV Tryz.prog alM glP F Ends (sndN 5 body10) (trueAt 6 v) A0 v:=by
 have S:=setupM
 obtain ⟨ao,cap,rfl,hcells⟩:=id hy
 obtain ⟨k,hk,hkb⟩:∃ k,pickP av 41 - 20=k∧(-20≤k∧k≤20):=⟨_,rfl,by have:=pickP_bd (c:=av) (n:=41) (by decide); omega⟩
 obtain ⟨m,hm,hmb⟩:∃ m,pickP bv 61 - 30=m∧(-30≤m∧m≤30):=⟨_,rfl,by have:=pickP_bd (c:=bv) (n:=61) (by decide); omega⟩
 have wk:IntKind.i64.wrap (pickP av 41 - 20)=pickP av 41 - 20:=by rw [hk]; simp [IntKind.wrap,IntKind.bits,IntKind.signed]; omega
 have wm:IntKind.i64.wrap (pickP bv 61 - 30)=pickP bv 61 - 30:=by rw [hm]; simp [IntKind.wrap,IntKind.bits,IntKind.signed]; omega
 rw [rest5_eq]
 refine wpV_seq S hE (wpV_region S hE ?_)
 refine opsV_mv S hE (some 58) (.tmp 8) rfl (.inl rfl) rfl rfl ?_
 refine opsV_cat S hE 59 (.tmp 58) (.const (.string ⟨#[60,47,100,105,118,62]⟩)) D ⟨#[60,47,100,105,118,62]⟩ rfl rfl rfl rfl (by simp [eval_put,s0,x8]) rfl (by show D.size+6≤_; omega) ?_
 refine opsV_mv S hE (some 8) (.tmp 59) rfl (.inr rfl) rfl rfl ?_
 refine opsV_nil S hE ?_
 obtain ⟨doc,hdoc⟩:∃ doc:ByteArray,doc=D++⟨#[60,47,100,105,118,62]⟩:=⟨_,rfl⟩
 have hdl:doc.data.toList=docL fs:=by rw [hdoc,ByteArray.data_append,Array.toList_append,hD]; simp [docL]
 have hds:doc.size≤406:=by rw [hdoc,ByteArray.size_append]; show _+6≤_; omega
 have hpar:=doc_parse hdl hfs
 rw [← hdoc]
 generalize hA:Act.put _ (some 8) _=A1
 have s1:A1.tmps.size=219:=by rw [← hA]; simp [put_size,s0]
 have d1:A1.defers=[]:=by rw [← hA]; simp [put_defers,d0]
 have h1_A1:A1.eval (.tmp 1)=.int .i64 av:=by rw [← hA]; simp [eval_put,put_size,s0,x1]
 have h2_A1:A1.eval (.tmp 2)=.int .i64 bv:=by rw [← hA]; simp [eval_put,put_size,s0,x2]
 have h7_A1:A1.eval (.tmp 7)=.bool true:=by rw [← hA]; simp [eval_put,put_size,s0,x7]
 have h8_A1:A1.eval (.tmp 8)=.string doc:=by rw [← hA]; simp [eval_put,put_size,s0]
 have h9_A1:A1.eval (.tmp 9)=.slice ao fs.length cap:=by rw [← hA]; simp [eval_put,put_size,s0,x9]
 clear hA x1 x2 x7 x9
 refine wpV_seq S hE (wpV_region S hE ?_)
 refine opsV_mv S hE (some 61) (.tmp 8) rfl (.inl rfl) rfl rfl ?_
 refine opsV_parse hE V doc (by omega) _ rfl rfl rfl 62 rfl (by simp [eval_put,s1,h8_A1]) ?_
 intro y1 v1 k1 hy0
 obtain ⟨db,rfl,Dv⟩:∃ db,y1=.tuple #[.pointer (some ⟨db,0,none⟩),.nilIface]∧DocV v1 db doc:=by
  rcases hy0 with ⟨-,db,rfl,Dv⟩ | ⟨hc,-⟩
  ·exact ⟨db,rfl,Dv⟩
  ·exact absurd (by unfold codeP; rw [hpar,if_neg (by omega)]) hc
 refine opsV_mv S hE (some 60) (.tmp 62) rfl (.inl rfl) rfl rfl ?_
 refine opsV_ext S hE 63 (.tmp 60) 0 _ (.pointer (some ⟨db,0,none⟩)) rfl rfl rfl rfl (by simp [eval_put,put_size,s1]; rfl) rfl ?_
 refine opsV_ext S hE 64 (.tmp 60) 1 _ .nilIface rfl rfl rfl rfl (by simp [eval_put,put_size,s1]; rfl) rfl ?_
 refine opsV_mv S hE (some 12) (.tmp 63) rfl (.inr rfl) rfl rfl ?_
 refine opsV_mv S hE (some 13) (.tmp 64) rfl (.inr rfl) rfl rfl ?_
 refine opsV_nil S hE ?_
 generalize hA:Act.put _ (some 13) _=A2
 have s2:A2.tmps.size=219:=by rw [← hA]; simp [put_size,s1]
 have d2:A2.defers=[]:=by rw [← hA]; simp [put_defers,d1]
 have h1_A2:A2.eval (.tmp 1)=.int .i64 av:=by rw [← hA]; simp [eval_put,put_size,s1,h1_A1]
 have h2_A2:A2.eval (.tmp 2)=.int .i64 bv:=by rw [← hA]; simp [eval_put,put_size,s1,h2_A1]
 have h7_A2:A2.eval (.tmp 7)=.bool true:=by rw [← hA]; simp [eval_put,put_size,s1,h7_A1]
 have h9_A2:A2.eval (.tmp 9)=.slice ao fs.length cap:=by rw [← hA]; simp [eval_put,put_size,s1,h9_A1]
 have h12_A2:A2.eval (.tmp 12)=.pointer (some ⟨db,0,none⟩):=by rw [← hA]; simp [eval_put,put_size,s1]
 have h13_A2:A2.eval (.tmp 13)=.nilIface:=by rw [← hA]; simp [eval_put,put_size,s1]
 clear hA h1_A1 h2_A1 h7_A1 h9_A1
 obtain ⟨ht,hb⟩:TrC v1 db (docBS fs)∧BOk (docBS fs):=by
  obtain ⟨B,hd⟩:=Dv.doc
  have hb:=tree_ok Dv.size Dv.ok
  rw [hpar] at hd hb
  exact ⟨Dc.toC (CellsTo.refl v1) hd,hb⟩
 refine wpV_seq S hE (partN' hE ok10_7 (Qn:=fun a' w'=>Old v1 w'∧Slots 219 [(1,.int .i64 av),(2,.int .i64 bv),(9,.slice ao fs.length cap),(12,.pointer (some ⟨db,0,none⟩))] a') (fun _ _ _ _ h=>⟨h.1.trans (Old.heap rfl),h.2⟩) s2 d2 (fun T=>?_) ?_)
 ·refine afterN_mono ?_ (c7 (f:=fun i=>A2.eval (.tmp i)) (w:=v1.re T 0) h7_A2 h9_A2 h12_A2 h13_A2 hfs ((Old.heap rfl:Old v1 (v1.re T 0)).tr ht))
  rintro a' w' ⟨rfl,hs⟩
  rw [h1_A2,h2_A2,h9_A2,h12_A2] at hs
  exact ⟨Old.heap rfl,hs⟩
 rintro A3 v3 ⟨k3,S3⟩
 have s3:=S3.1
 have d3:=S3.2.1
 have h1_A3:=S3.at 0 rfl
 have h2_A3:=S3.at 1 rfl
 have h9_A3:=S3.at 2 rfl
 have h12_A3:=S3.at 3 rfl
 clear S3
 refine wpV_seq S hE (wpV_region S hE ?_)
 refine opsV_mv S hE (some 83) (.tmp 1) rfl (.inl rfl) rfl rfl ?_
 refine opsV_pick hE 84 (.tmp 83) av 41 rfl rfl rfl rfl (by simp [eval_put,s3,h1_A3]) hav (by decide) ?_
 intro v4 k4
 refine opsV_sub hE 85 (.tmp 84) 20 (pickP av 41) rfl rfl rfl rfl (by simp [eval_put,put_size,s3]) wk ?_
 rw [hk]
 refine opsV_mv S hE (some 14) (.tmp 85) rfl (.inr rfl) rfl rfl ?_
 refine opsV_nil S hE ?_
 generalize hA:Act.put _ (some 14) _=A4
 have s4:A4.tmps.size=219:=by rw [← hA]; simp [put_size,s3]
 have d4:A4.defers=[]:=by rw [← hA]; simp [put_defers,d3]
 have h2_A4:A4.eval (.tmp 2)=.int .i64 bv:=by rw [← hA]; simp [eval_put,put_size,s3,h2_A3]
 have h9_A4:A4.eval (.tmp 9)=.slice ao fs.length cap:=by rw [← hA]; simp [eval_put,put_size,s3,h9_A3]
 have h12_A4:A4.eval (.tmp 12)=.pointer (some ⟨db,0,none⟩):=by rw [← hA]; simp [eval_put,put_size,s3,h12_A3]
 have h14_A4:A4.eval (.tmp 14)=.int .i64 k:=by rw [← hA]; simp [eval_put,put_size,s3]
 clear hA h2_A3 h9_A3 h12_A3
 refine wpV_seq S hE (wpV_region S hE ?_)
 refine opsV_mv S hE (some 86) (.tmp 2) rfl (.inl rfl) rfl rfl ?_
 refine opsV_pick hE 87 (.tmp 86) bv 61 rfl rfl rfl rfl (by simp [eval_put,s4,h2_A4]) hbv (by decide) ?_
 intro v5 k5
 refine opsV_sub hE 88 (.tmp 87) 30 (pickP bv 61) rfl rfl rfl rfl (by simp [eval_put,put_size,s4]) wm ?_
 rw [hm]
 refine opsV_mv S hE (some 15) (.tmp 88) rfl (.inr rfl) rfl rfl ?_
 refine opsV_nil S hE ?_
 generalize hA:Act.put _ (some 15) _=A5
 have s5:A5.tmps.size=219:=by rw [← hA]; simp [put_size,s4]
 have d5:A5.defers=[]:=by rw [← hA]; simp [put_defers,d4]
 have h9_A5:A5.eval (.tmp 9)=.slice ao fs.length cap:=by rw [← hA]; simp [eval_put,put_size,s4,h9_A4]
 have h12_A5:A5.eval (.tmp 12)=.pointer (some ⟨db,0,none⟩):=by rw [← hA]; simp [eval_put,put_size,s4,h12_A4]
 have h14_A5:A5.eval (.tmp 14)=.int .i64 k:=by rw [← hA]; simp [eval_put,put_size,s4,h14_A4]
 have h15_A5:A5.eval (.tmp 15)=.int .i64 m:=by rw [← hA]; simp [eval_put,put_size,s4]
 clear hA h9_A4 h12_A4 h14_A4
 refine wpV_seq S hE (wpV_region S hE ?_)
 refine opsV_mv S hE (some 90) (.tmp 12) rfl (.inl rfl) rfl rfl ?_
 refine opsV_mv S hE (some 91) (.tmp 14) rfl (.inl rfl) rfl rfl ?_
 refine opsV_dec hE 92 (.tmp 91) k rfl rfl rfl rfl (by simp [eval_put,put_size,s5,h14_A5]) (by omega) ?_
 intro v6 k6
 obtain ⟨t1,ht1⟩:∃ t1:ByteArray,t1=⟨(decI k).toArray⟩:=⟨_,rfl⟩
 have z1:t1.size≤3:=by rw [ht1]; show (decI k).toArray.size≤3; simpa using decI_len k
 rw [← ht1]
 refine opsV_cat S hE 93 (.const (.string ⟨#[105,58,110,116,104,45,99,104,105,108,100,40,32]⟩)) (.tmp 92) ⟨#[105,58,110,116,104,45,99,104,105,108,100,40,32]⟩ t1 rfl rfl rfl rfl rfl (by simp [eval_put,put_size,s5]) (by show 13+_≤_; omega) ?_
 obtain ⟨t2,ht2⟩:∃ t2:ByteArray,t2=⟨#[105,58,110,116,104,45,99,104,105,108,100,40,32]⟩++t1:=⟨_,rfl⟩
 have z2:t2.size≤16:=by rw [ht2,ByteArray.size_append]; show 13+_≤_; omega
 rw [← ht2]
 refine opsV_cat S hE 94 (.tmp 93) (.const (.string ⟨#[110]⟩)) t2 ⟨#[110]⟩ rfl rfl rfl rfl (by simp [eval_put,put_size,s5]) rfl (by show _+1≤_; omega) ?_
 obtain ⟨t3,ht3⟩:∃ t3:ByteArray,t3=t2++⟨#[110]⟩:=⟨_,rfl⟩
 have z3:t3.size≤17:=by rw [ht3,ByteArray.size_append]; show _+1≤_; omega
 rw [← ht3]
 refine opsV_mv S hE (some 95) (.tmp 15) rfl (.inl rfl) rfl rfl ?_
 refine opsV_plus hE 96 (.tmp 95) m rfl rfl rfl rfl (by simp [eval_put,put_size,s5,h15_A5]) (by omega) ?_
 intro v7 k7
 obtain ⟨t4,ht4⟩:∃ t4:ByteArray,t4=⟨(plusI m).toArray⟩:=⟨_,rfl⟩
 have z4:t4.size≤4:=by rw [ht4]; show (plusI m).toArray.size≤4; simpa using plusI_len m
 rw [← ht4]
 refine opsV_cat S hE 97 (.tmp 94) (.tmp 96) t3 t4 rfl rfl rfl rfl (by simp [eval_put,put_size,s5]) (by simp [eval_put,put_size,s5]) (by omega) ?_
 obtain ⟨t5,ht5⟩:∃ t5:ByteArray,t5=t3++t4:=⟨_,rfl⟩
 have z5:t5.size≤21:=by rw [ht5,ByteArray.size_append]; omega
 rw [← ht5]
 refine opsV_cat S hE 98 (.tmp 97) (.const (.string ⟨#[32,41]⟩)) t5 ⟨#[32,41]⟩ rfl rfl rfl rfl (by simp [eval_put,put_size,s5]) rfl (by show _+2≤_; omega) ?_
 obtain ⟨nt,hnt⟩:∃ nt:ByteArray,nt=t5++⟨#[32,41]⟩:=⟨_,rfl⟩
 rw [← hnt]
 have hnl:nt.data.toList=nthL k m:=by
  rw [hnt,ht5,ht4,ht3,ht2,ht1]
  simp [ByteArray.data_append,nthL]
 have cn:=comp_nth (B:=nt) (k:=k) (m:=m) (by omega) (by omega) hnl
 clear hnt ht1 ht2 ht3 ht4 ht5 z1 z2 z3 z4 z5
 have kk7:Old v1 v7:=k3.trans (k4.trans (k5.trans (k6.trans k7)))
 have V7:VG v7:=V.old (k1.trans kk7)
 refine opsV_meansS hE V7 (Dv.old kk7) nt rfl rfl 99 rfl rfl rfl rfl (by simp [eval_put,put_size,s5,h12_A5]) (by simp [eval_put,put_size,s5]) ?_
 intro w1 ok1 v8 k8 M1
 obtain ⟨rfl,L1⟩:ok1=true∧Lst v8 (docBS fs) (selN 8 ⟨noB,true,k,m⟩) w1:=by
  rcases M1 with ⟨e,l,hl,hi⟩ | ⟨-,-,hc⟩
  ·rw [cn] at hl
   simp only [Prod.mk.injEq,Option.some.injEq,true_and] at hl
   rw [hpar,← hl] at hi
   exact ⟨e,hi⟩
  ·rw [cn] at hc; exact absurd rfl hc
 refine opsV_mv S hE (some 89) (.tmp 99) rfl (.inl rfl) rfl rfl ?_
 refine opsV_ext S hE 100 (.tmp 89) 0 #[w1,.bool true] w1 rfl rfl rfl rfl (by simp [eval_put,put_size,s5]) rfl ?_
 refine opsV_ext S hE 101 (.tmp 89) 1 #[w1,.bool true] (.bool true) rfl rfl rfl rfl (by simp [eval_put,put_size,s5]) rfl ?_
 refine opsV_mv S hE (some 16) (.tmp 100) rfl (.inr rfl) rfl rfl ?_
 refine opsV_mv S hE (some 17) (.tmp 101) rfl (.inr rfl) rfl rfl ?_
 refine opsV_nil S hE ?_
 generalize hA:Act.put _ (some 17) _=A6
 have s6:A6.tmps.size=219:=by rw [← hA]; simp [put_size,s5]
 have d6:A6.defers=[]:=by rw [← hA]; simp [put_defers,d5]
 have h9_A6:A6.eval (.tmp 9)=.slice ao fs.length cap:=by rw [← hA]; simp [eval_put,put_size,s5,h9_A5]
 have h12_A6:A6.eval (.tmp 12)=.pointer (some ⟨db,0,none⟩):=by rw [← hA]; simp [eval_put,put_size,s5,h12_A5]
 have h14_A6:A6.eval (.tmp 14)=.int .i64 k:=by rw [← hA]; simp [eval_put,put_size,s5,h14_A5]
 have h15_A6:A6.eval (.tmp 15)=.int .i64 m:=by rw [← hA]; simp [eval_put,put_size,s5,h15_A5]
 have h16_A6:A6.eval (.tmp 16)=w1:=by rw [← hA]; simp [eval_put,put_size,s5]
 have h17_A6:A6.eval (.tmp 17)=.bool true:=by rw [← hA]; simp [eval_put,put_size,s5]
 clear hA h9_A5 h12_A5 h14_A5 h15_A5
 have kk8:Old v1 v8:=kk7.trans k8
 refine wpV_seq S hE (wpV_region S hE ?_)
 refine opsV_mv S hE (some 103) (.tmp 12) rfl (.inl rfl) rfl rfl ?_
 refine opsV_meansS hE (V.old (k1.trans kk8)) (Dv.old kk8) firstB rfl rfl 104 rfl rfl rfl rfl (by simp [eval_put,s6,h12_A6]) rfl ?_
 intro w2 ok2 v9 k9 M2
 obtain ⟨rfl,L2⟩:ok2=true∧Lst v9 (docBS fs) (selN 5 noNth) w2:=by
  rcases M2 with ⟨e,l,hl,hi⟩ | ⟨-,-,hc⟩
  ·rw [comp_first] at hl
   simp only [Prod.mk.injEq,Option.some.injEq,true_and] at hl
   rw [hpar,← hl] at hi
   exact ⟨e,hi⟩
  ·rw [comp_first] at hc; exact absurd rfl hc
 refine opsV_mv S hE (some 102) (.tmp 104) rfl (.inl rfl) rfl rfl ?_
 refine opsV_ext S hE 105 (.tmp 102) 0 #[w2,.bool true] w2 rfl rfl rfl rfl (by simp [eval_put,put_size,s6]) rfl ?_
 refine opsV_ext S hE 106 (.tmp 102) 1 #[w2,.bool true] (.bool true) rfl rfl rfl rfl (by simp [eval_put,put_size,s6]) rfl ?_
 refine opsV_mv S hE (some 18) (.tmp 105) rfl (.inr rfl) rfl rfl ?_
 refine opsV_mv S hE (some 19) (.tmp 106) rfl (.inr rfl) rfl rfl ?_
 refine opsV_nil S hE ?_
 generalize hA:Act.put _ (some 19) _=A7
 have s7:A7.tmps.size=219:=by rw [← hA]; simp [put_size,s6]
 have d7:A7.defers=[]:=by rw [← hA]; simp [put_defers,d6]
 have h9_A7:A7.eval (.tmp 9)=.slice ao fs.length cap:=by rw [← hA]; simp [eval_put,put_size,s6,h9_A6]
 have h12_A7:A7.eval (.tmp 12)=.pointer (some ⟨db,0,none⟩):=by rw [← hA]; simp [eval_put,put_size,s6,h12_A6]
 have h14_A7:A7.eval (.tmp 14)=.int .i64 k:=by rw [← hA]; simp [eval_put,put_size,s6,h14_A6]
 have h15_A7:A7.eval (.tmp 15)=.int .i64 m:=by rw [← hA]; simp [eval_put,put_size,s6,h15_A6]
 have h16_A7:A7.eval (.tmp 16)=w1:=by rw [← hA]; simp [eval_put,put_size,s6,h16_A6]
 have h17_A7:A7.eval (.tmp 17)=.bool true:=by rw [← hA]; simp [eval_put,put_size,s6,h17_A6]
 have h18_A7:A7.eval (.tmp 18)=w2:=by rw [← hA]; simp [eval_put,put_size,s6]
 have h19_A7:A7.eval (.tmp 19)=.bool true:=by rw [← hA]; simp [eval_put,put_size,s6]
 clear hA h9_A6 h12_A6 h14_A6 h15_A6 h16_A6 h17_A6
 have kk9:Old v1 v9:=kk8.trans k9
 refine wpV_seq S hE (wpV_region S hE ?_)
 refine opsV_mv S hE (some 108) (.tmp 12) rfl (.inl rfl) rfl rfl ?_
 refine opsV_meansS hE (V.old (k1.trans kk9)) (Dv.old kk9) lastB rfl rfl 109 rfl rfl rfl rfl (by simp [eval_put,s7,h12_A7]) rfl ?_
 intro w3 ok3 v10 k10 M3
 obtain ⟨rfl,L3⟩:ok3=true∧Lst v10 (docBS fs) (selN 6 noNth) w3:=by
  rcases M3 with ⟨e,l,hl,hi⟩ | ⟨-,-,hc⟩
  ·rw [comp_last] at hl
   simp only [Prod.mk.injEq,Option.some.injEq,true_and] at hl
   rw [hpar,← hl] at hi
   exact ⟨e,hi⟩
  ·rw [comp_last] at hc; exact absurd rfl hc
 refine opsV_mv S hE (some 107) (.tmp 109) rfl (.inl rfl) rfl rfl ?_
 refine opsV_ext S hE 110 (.tmp 107) 0 #[w3,.bool true] w3 rfl rfl rfl rfl (by simp [eval_put,put_size,s7]) rfl ?_
 refine opsV_ext S hE 111 (.tmp 107) 1 #[w3,.bool true] (.bool true) rfl rfl rfl rfl (by simp [eval_put,put_size,s7]) rfl ?_
 refine opsV_mv S hE (some 20) (.tmp 110) rfl (.inr rfl) rfl rfl ?_
 refine opsV_mv S hE (some 21) (.tmp 111) rfl (.inr rfl) rfl rfl ?_
 refine opsV_nil S hE ?_
 generalize hA:Act.put _ (some 21) _=A8
 have s8:A8.tmps.size=219:=by rw [← hA]; simp [put_size,s7]
 have d8:A8.defers=[]:=by rw [← hA]; simp [put_defers,d7]
 have h9_A8:A8.eval (.tmp 9)=.slice ao fs.length cap:=by rw [← hA]; simp [eval_put,put_size,s7,h9_A7]
 have h12_A8:A8.eval (.tmp 12)=.pointer (some ⟨db,0,none⟩):=by rw [← hA]; simp [eval_put,put_size,s7,h12_A7]
 have h14_A8:A8.eval (.tmp 14)=.int .i64 k:=by rw [← hA]; simp [eval_put,put_size,s7,h14_A7]
 have h15_A8:A8.eval (.tmp 15)=.int .i64 m:=by rw [← hA]; simp [eval_put,put_size,s7,h15_A7]
 have h16_A8:A8.eval (.tmp 16)=w1:=by rw [← hA]; simp [eval_put,put_size,s7,h16_A7]
 have h17_A8:A8.eval (.tmp 17)=.bool true:=by rw [← hA]; simp [eval_put,put_size,s7,h17_A7]
 have h18_A8:A8.eval (.tmp 18)=w2:=by rw [← hA]; simp [eval_put,put_size,s7,h18_A7]
 have h19_A8:A8.eval (.tmp 19)=.bool true:=by rw [← hA]; simp [eval_put,put_size,s7,h19_A7]
 have h20_A8:A8.eval (.tmp 20)=w3:=by rw [← hA]; simp [eval_put,put_size,s7]
 have h21_A8:A8.eval (.tmp 21)=.bool true:=by rw [← hA]; simp [eval_put,put_size,s7]
 clear hA h9_A7 h12_A7 h14_A7 h15_A7 h16_A7 h17_A7 h18_A7 h19_A7
 have kk10:Old v1 v10:=kk9.trans k10
 refine wpV_seq S hE (wpV_region S hE ?_)
 refine opsV_mv S hE (some 113) (.tmp 12) rfl (.inl rfl) rfl rfl ?_
 refine opsV_meansS hE (V.old (k1.trans kk10)) (Dv.old kk10) emptyB rfl rfl 114 rfl rfl rfl rfl (by simp [eval_put,s8,h12_A8]) rfl ?_
 intro w4 ok4 v11 k11 M4
 obtain ⟨rfl,L4⟩:ok4=true∧Lst v11 (docBS fs) (selN 4 noNth) w4:=by
  rcases M4 with ⟨e,l,hl,hi⟩ | ⟨-,-,hc⟩
  ·rw [comp_empty] at hl
   simp only [Prod.mk.injEq,Option.some.injEq,true_and] at hl
   rw [hpar,← hl] at hi
   exact ⟨e,hi⟩
  ·rw [comp_empty] at hc; exact absurd rfl hc
 refine opsV_mv S hE (some 112) (.tmp 114) rfl (.inl rfl) rfl rfl ?_
 refine opsV_ext S hE 115 (.tmp 112) 0 #[w4,.bool true] w4 rfl rfl rfl rfl (by simp [eval_put,put_size,s8]) rfl ?_
 refine opsV_ext S hE 116 (.tmp 112) 1 #[w4,.bool true] (.bool true) rfl rfl rfl rfl (by simp [eval_put,put_size,s8]) rfl ?_
 refine opsV_mv S hE (some 22) (.tmp 115) rfl (.inr rfl) rfl rfl ?_
 refine opsV_mv S hE (some 23) (.tmp 116) rfl (.inr rfl) rfl rfl ?_
 refine opsV_nil S hE ?_
 generalize hA:Act.put _ (some 23) _=A9
 have s9:A9.tmps.size=219:=by rw [← hA]; simp [put_size,s8]
 have d9:A9.defers=[]:=by rw [← hA]; simp [put_defers,d8]
 have h9_A9:A9.eval (.tmp 9)=.slice ao fs.length cap:=by rw [← hA]; simp [eval_put,put_size,s8,h9_A8]
 have h12_A9:A9.eval (.tmp 12)=.pointer (some ⟨db,0,none⟩):=by rw [← hA]; simp [eval_put,put_size,s8,h12_A8]
 have h14_A9:A9.eval (.tmp 14)=.int .i64 k:=by rw [← hA]; simp [eval_put,put_size,s8,h14_A8]
 have h15_A9:A9.eval (.tmp 15)=.int .i64 m:=by rw [← hA]; simp [eval_put,put_size,s8,h15_A8]
 have h16_A9:A9.eval (.tmp 16)=w1:=by rw [← hA]; simp [eval_put,put_size,s8,h16_A8]
 have h17_A9:A9.eval (.tmp 17)=.bool true:=by rw [← hA]; simp [eval_put,put_size,s8,h17_A8]
 have h18_A9:A9.eval (.tmp 18)=w2:=by rw [← hA]; simp [eval_put,put_size,s8,h18_A8]
 have h19_A9:A9.eval (.tmp 19)=.bool true:=by rw [← hA]; simp [eval_put,put_size,s8,h19_A8]
 have h20_A9:A9.eval (.tmp 20)=w3:=by rw [← hA]; simp [eval_put,put_size,s8,h20_A8]
 have h21_A9:A9.eval (.tmp 21)=.bool true:=by rw [← hA]; simp [eval_put,put_size,s8,h21_A8]
 have h22_A9:A9.eval (.tmp 22)=w4:=by rw [← hA]; simp [eval_put,put_size,s8]
 have h23_A9:A9.eval (.tmp 23)=.bool true:=by rw [← hA]; simp [eval_put,put_size,s8]
 clear hA h9_A8 h12_A8 h14_A8 h15_A8 h16_A8 h17_A8 h18_A8 h19_A8 h20_A8 h21_A8
 have kk11:Old v1 v11:=kk10.trans k11
 refine wpV_seq S hE (partN' hE ok10_14 (Qn:=fun a' w'=>Old v11 w'∧Slots 219 [(9,.slice ao fs.length cap),(12,.pointer (some ⟨db,0,none⟩)),(14,.int .i64 k),(15,.int .i64 m),(16,w1),(18,w2),(20,w3),(22,w4)] a') (fun _ _ _ _ h=>⟨h.1.trans (Old.heap rfl),h.2⟩) s9 d9 (fun T=>?_) ?_)
 ·refine afterN_mono ?_ (c14 (f:=fun i=>A9.eval (.tmp i)) (w:=v11.re T 0) h17_A9 h19_A9 h21_A9 h23_A9)
  rintro a' w' ⟨rfl,hs⟩
  unfold stay at hs
  dsimp only at hs
  rw [h9_A9,h12_A9,h14_A9,h15_A9,h16_A9,h18_A9,h20_A9,h22_A9] at hs
  exact ⟨Old.heap rfl,hs⟩
 rintro A10 v12 ⟨k12,S10⟩
 have kk12:Old v1 v12:=kk11.trans k12
 have hlen:=doc_len (fs:=fs)
 have lim:∀ l,(meantL (docBS fs).els.length (mean (docBS fs) l)).length≤5000:=fun l=>by
  have:=meantL_len (docBS fs).els.length (mean (docBS fs) l)
  omega
 have inM:∀ l j,j < fs.length→(meantL (docBS fs).els.length (mean (docBS fs) l)).any (· == ((j+1:Nat):Int))=mean (docBS fs) l (j+1):=fun l j hj=>in_meant (n:=j+1) (by omega)
 have in0:∀ q t,(meantL (docBS fs).els.length (mean (docBS fs) (selN q t))).any (· == (0:Int))=false:=fun q t=>(in_meant (n:=0) (N:=(docBS fs).els.length) (mP:=mean (docBS fs) (selN q t)) (by omega)).trans (sel_zero q t)
 have M1:IntsC v12 w1 _:=L1.old (k9.trans (k10.trans (k11.trans k12)))
 have M2:IntsC v12 w2 _:=L2.old (k10.trans (k11.trans k12))
 have M3:IntsC v12 w3 _:=L3.old (k11.trans k12)
 have M4:IntsC v12 w4 _:=L4.old k12
 refine wpV_seq S hE (partN' hE ok10_15 (Qn:=fun a' w'=>Old v12 w'∧Slots 219 [(16,w1),(18,w2),(22,w4)] a') (fun _ _ _ _ h=>⟨h.1.trans (Old.heap rfl),h.2⟩) S10.1 S10.2.1 (fun T=>?_) ?_)
 ·have k0:Old v12 (v12.re T 0):=Old.heap rfl
  refine afterN_mono ?_ (c15 (f:=fun i=>A10.eval (.tmp i)) (w:=v12.re T 0) (db:=db) (fs:=fs) (S10.at 0 rfl) (S10.at 1 rfl) (S10.at 2 rfl) (S10.at 3 rfl) (S10.at 4 rfl) (S10.at 5 rfl) (S10.at 6 rfl) (S10.at 7 rfl) hkb hmb hfs (hy.old ((k1.trans kk12).trans k0)) ((kk12.trans k0).tr ht) hb (M1.old k0) (lim _) (M2.old k0) (lim _) (M3.old k0) (lim _) (M4.old k0) (lim _)
   (fun j hj=>(inM _ j hj).trans (sel_nth hkb hmb hfs hj)) (fun j hj=>(inM _ j hj).trans (sel_first hj)) (fun j hj=>(inM _ j hj).trans (sel_last hj)) (fun j g hg=>(inM _ j (List.getElem?_eq_some_iff.1 hg).1).trans (sel_empty hg)))
  rintro a' w' ⟨ho,hs⟩
  exact ⟨k0.trans ho,hs⟩
 rintro A11 v13 ⟨k13,S11⟩
 refine partR' hE ok10_16 (Qr:=fun a' w'=>Old v13 w'∧a'.defers=[]∧a'.eval (.tmp 6)=.bool true) (fun _ _ _ _ h=>⟨h.1.trans (Old.heap rfl),h.2⟩) S11.1 S11.2.1 (fun T=>?_) ?_
 ·have k0:Old v13 (v13.re T 0):=Old.heap rfl
  refine afterR_mono ?_ (c16 (f:=fun i=>A11.eval (.tmp i)) (w:=v13.re T 0) (S11.at 0 rfl) (S11.at 1 rfl) (S11.at 2 rfl) (M1.old (k13.trans k0)) (lim _) (M2.old (k13.trans k0)) (lim _) (M4.old (k13.trans k0)) (lim _) (in0 _ _) (in0 _ _) (in0 _ _))
  rintro a' w' ⟨rfl,hs⟩
  exact ⟨k0,hs⟩
 ·rintro A12 v14 ⟨k14,hs⟩
  exact ⟨(k1.trans kk12).trans (k13.trans k14),hs⟩
section
variable {π:Ren Tryz.prog.globals.size}
theorem plain_back {z x:Value} (h:VRel AlM π z x) (hx:plainB x=true):z=x:=by
 cases h with
 | bool b=>rfl
 | int k n=>rfl
 | string s=>rfl
 | lost x h=>cases x <;> first | cases h | cases hx
 | _=>cases hx
end
section
variable {P:Program} {m:Bool} {N0:Nat} {σ:Type} {K:σ→(Nat→Prop)→Goroutine→World→Prop} {fn:FuncId} {a:Act} {s:σ} {O:Nat→Prop} {w:World}
theorem ks_seq (C:CloK P m N0 K) {b:Frame} {k:List Item} {cs:List Frame} (hb:b.fn=fn) (hk:b.kind≠.early) {x y:Code} (h:wpK K fn x (fun e a s O w=>e=.normal∧K s O (G (b.at a (.code y :: k)) cs) w) a s O w):K s O (G (b.at a (.code (.seq x y) :: k)) cs) w:=by
 refine C.idle rfl rfl (fun _=>stepG_seq) (h b (.code y :: k) cs hb hk ?_)
 rintro e a' s' O' w' ⟨rfl,q⟩
 exact q
end
noncomputable def q0:Array Oper:=opsC (part10 0)
noncomputable def q1:Array Oper:=opsC (part10 1)
noncomputable def q2:Array Oper:=opsC (part10 2)
noncomputable def q3:Array Oper:=opsC (part10 3)
theorem body10_eq:body10=.seq (.region 0 q0 false) (.seq (.region 1 q1 false) (.seq (.region 2 q2 false) (.seq (.region 3 q3 false) (.seq (part10 4) (sndN 5 body10))))):=by kernel_rfl
theorem u0_0:(q0[0]?).map (fun o=>(o.op,o.dst,o.guard))=some (.assign (.const (.bool false)),some 6,none):=by kernel_rfl
theorem u1_0:(q1[0]?).map (fun o=>(o.op,o.dst,o.guard))=some (.call { callee:=.value (.func 28),args:=#[],argTypes:=#[] },some 28,none):=by kernel_rfl
theorem u1_1:(q1[1]?).map (fun o=>(o.op,o.dst,o.guard))=some (.assign (.tmp 28),some 7,none):=by kernel_rfl
theorem u2_0:(q2[0]?).map (fun o=>(o.op,o.dst,o.guard))=some (.assign (.const (.string ⟨#[60,100,105,118,62]⟩)),some 8,none):=by kernel_rfl
theorem u3_0:(q3[0]?).map (fun o=>(o.op,o.dst,o.guard))=some (.assign (.const (.slice none 0 0)),some 9,none):=by kernel_rfl
theorem nq0:List.range q0.size=[0]:=by kernel_rfl
theorem nq1:List.range q1.size=[0,1]:=by kernel_rfl
theorem nq2:List.range q2.size=[0]:=by kernel_rfl
theorem nq3:List.range q3.size=[0]:=by kernel_rfl
theorem okR10:codeOk Tryz.prog alM glP true (sndN 5 body10)=true:=by kernel_rfl
def RawW (W:World) (x:Value) (R:List Int):Prop:=∃ ao cap,x=.slice ao R.length cap∧R.length≤9223372036854775807∧∀ j z,R[j]? = some z→(-9223372036854775808≤z∧z≤9223372036854775807)∧∃ g o,ao=some ⟨g,o,none⟩∧W.cell? ⟨g,o+j,none⟩=some (.int .i64 z)
theorem cell_lt {W:World} {g o:Nat} {x:Value} (h:W.cell? ⟨g,o,none⟩=some x):g < W.heap.size:=by
 unfold World.cell? at h
 simp only at h
 cases hb:W.heap[g]? with
 | none=>rw [hb] at h; cases h
 | some _=>exact (Array.getElem?_eq_some_iff.1 hb).1
def EOf (W:World) (x:Value) (r:Nat):Prop:=glP r=false∧r < W.heap.size∧∃ o n c,x=.slice (some ⟨r,o,none⟩) n c
theorem raw_at {W : World} (S : Start W) {x : Value} {R : List Int} (h : RawW W x R) {O : Nat → Prop} {π : Ren Tryz.prog.globals.size} {u w : World} (V : InView Tryz.prog alM glP 0 (EOf W x) W O π u w) (ho : Old (view0' W) u) : RawR O w x R := by
 obtain ⟨ao,cap,rfl,hl,hc⟩:=h
 refine ⟨ao,cap,rfl,hl,fun j z hz=>?_⟩
 obtain ⟨hb,g,o,rfl,hcell⟩:=hc j z hz
 have hg:=cell_lt hcell
 refine ⟨hb,g,o,rfl,?_⟩
 by_cases hp:glP g=true
 ·have hgg := V.gls g hp
  have hown:=(V.own g g hgg).resolve_left (by omega)
  refine ⟨hown.1,?_⟩
  obtain ⟨c,e,f,hW,hcp⟩:=S.rows g hp
  have hv:u.heap[g]? = some (.cells c e f):=by
   rw [ho.block g (by simpa [view0'] using hg),view_at (glP_ne hp)]
   exact hW
  have hw : w.heap[g]? = some (.cells c e f) := by
   rcases V.rel.obj hgg with ⟨c1,c',e1,f1,f',q1,q2,q3,q4,-⟩ | ⟨ob,o',q1,-,q2,-⟩
   ·have q1:u.heap[g]? = some (.cells c1 e1 f1):=q1
    rw [hv] at q1
    cases q1
    have hcc:c'=c:=by
     apply Array.ext
     ·exact q3.size.symm
     ·intro i h1 h2
      exact plain_eq (q3.get i h2 h1) (hcp i _ (Array.getElem?_eq_getElem h2))
    rw [q2,hcc,q4 (by omega)]
   ·have q1:u.heap[g]? = some ob:=q1
    rw [hv] at q1
    cases q1
    cases q2
  rw [World.cell?_of_block (w:=W) (hw.trans hW.symm)]
  exact hcell
 ·have hE:EOf W (.slice (some ⟨g,o,none⟩) R.length cap) g:=⟨by simpa using hp,hg,o,_,_,rfl⟩
  refine ⟨V.sub g hE,?_⟩
  rw [World.cell?_of_block (w:=W) (V.old g (.inl hE)).2]
  exact hcell
theorem ends_true {W:World} (S:Start W) {fd:Func} {t:Nat} (hres:fd.results=#[.tmp t]) {a:Act} {v:World} (ho:Old (view0' W) v) (hv:a.eval (.tmp t)=.bool true):endV Tryz.prog alM glP (fr0 W) fd (fun x w'=>x=.bool true∧KeptAll W w') a v:=by
 refine ⟨.bool true,fun T d=>(results_tmp (fn:=fd) (t:=t) hres _ _ _).trans (congrArg (fun y=>Result.ok y _) hv),?_⟩
 intro T d π x' w hx hW hg hfm
 cases hx
 have hk:=end_kept S ho hW hfm
 have hoo:ooOf w=ooOf W:=hfm.oo
 exact ⟨rfl,congrArg Prod.fst hoo,congrArg Prod.snd hoo,hk⟩
theorem bools_of {v:World} {base:Nat} {y:Value} {l:List Bool} {n:Nat} (hn:l.length=n) (h:v.ownsRow base 4 1 y n (l.map .bool)):BoolsC v y l:=by
 subst hn
 rcases h.2 with ⟨rfl,h0⟩ | ⟨g,cap,cur,rfl,-,hb,-,-,-,ht⟩
 ·refine ⟨none,0,by rw [h0],fun j v hv=>?_⟩
  have:=(List.getElem?_eq_some_iff.1 hv).1
  omega
 ·refine ⟨_,cap,rfl,fun j b hv=>⟨g,rfl,?_⟩⟩
  unfold World.cell?
  simp only [hb]
  have hj:=(List.getElem?_eq_some_iff.1 hv).1
  have e:(cur.toList.take (l.length * 1))[j]? = some (.bool b):=by rw [ht,List.getElem?_map,hv]; rfl
  rw [List.getElem?_take_of_lt (by omega)] at e
  simpa using e
def act10 (x0:Value) (av bv:Int):Act:={ tmps:=#[x0,.int .i64 av,.int .i64 bv]++Array.replicate 216 undef,defers:=[] }
def args10 (x0:Value) (av bv:Int) (i:Nat):Value:=if i=0 then x0 else if i=1 then .int .i64 av else if i=2 then .int .i64 bv else undef
theorem body10_some:Tryz.f10.body=some body10:=by kernel_rfl
theorem enter10 (x0:Value) (av bv:Int):Frame.enter Tryz.prog 10 #[x0,.int .i64 av,.int .i64 bv] .normal=(Go.Conc.base 10).at (act10 x0 av bv) [.code body10]:=by
 unfold Frame.enter
 rw [Tryz.func10]
 simp [body10_some,Frame.at,Go.Conc.base,act10]
theorem act10_at (x0:Value) (av bv:Int) (i:Nat) (hi:i < 219):(act10 x0 av bv).eval (.tmp i)=args10 x0 av bv i:=by
 unfold args10
 simp only [act10,Act.eval]
 rw [Array.getD_eq_getD_getElem?]
 by_cases h3:i < 3
 ·rw [Array.getElem?_append_left (by simpa using h3)]
  obtain rfl | rfl | rfl:i=0∨i=1∨i=2:=by omega
  ·rfl
  ·rfl
  ·rfl
 ·rw [Array.getElem?_append_right (by simp; omega),if_neg (by omega),if_neg (by omega),if_neg (by omega),Array.getElem?_replicate]
  split <;> rfl
theorem act10_st {x0:Value} (hx0:∃ z,VRel AlM ren0 z x0) (av bv:Int):St ren0 (args10 x0 av bv) (act10 x0 av bv):=by
 refine ⟨by simp [act10],rfl,act10_at x0 av bv,fun i hi=>?_⟩
 unfold args10
 split
 ·exact hx0
 ·split
  ·exact rel_int _
  ·split
   ·exact rel_int _
   ·exact ⟨_,undef_rel _ _⟩
theorem counted_run {W : World} (S : Start W) {x0 : Value} {R : List Int} (hraw : RawW W x0 R) (hx0 : ∃ z, VRel AlM ren0 z x0) (av bv : Int) (hav : -9223372036854775808 ≤ av ∧ av ≤ 9223372036854775807) (hbv : -9223372036854775808 ≤ bv ∧ bv ≤ 9223372036854775807) :
  ∃ M last o w' t',runNT Tryz.prog (M+1) (solo (G (Frame.enter Tryz.prog 10 #[x0,.int .i64 av,.int .i64 bv] .normal) []) W) #[]=(.ended o w',t')∧runN Tryz.prog M (solo (G (Frame.enter Tryz.prog 10 #[x0,.int .i64 av,.int .i64 bv] .normal) []) W)=.next last∧step Tryz.prog last=.ended o w' ∧
   Go.Conc.Good Tryz.prog (fun x w'=>x=.bool true∧KeptAll W w') last o w' t':=by
 let Ends:Machine→Trace→Prop:=GoodEnd Tryz.prog fun x w'=>x=.bool true∧KeptAll W w'
 have hE:EndsCl Tryz.prog Ends:=goodEnd_cl
 let E:=EOf W x0
 let O0:Nat→Prop:=fun r=>glP r=true∨E r
 have C:=ks_clo (P:=Tryz.prog) hE O0 W
 have hO0:∀ r,O0 r→r < W.heap.size:=by
  rintro r (h | h)
  ·obtain ⟨c,e,f,hb,-⟩:=S.rows r h
   exact (Array.getElem?_eq_some_iff.1 hb).1
  ·exact h.2.1
 have V0:InView Tryz.prog alM glP 0 E W O0 ren0 (view0' W) W:=by
  refine ⟨start_rel S,fun r r' p=>.inr ?_,fun x hx=>⟨rfl,hx⟩,fun _ _=>Nat.zero_le _,fun r h=>.inr h,fun r h=>?_,rfl⟩
  ·obtain ⟨rfl,hp⟩:=p
   exact ⟨.inl hp,fun h=>by have:=h.1; rw [hp] at this; cases this⟩
  ·have h:=h.resolve_right (by omega)
   exact ⟨h.2.1,rfl⟩
 have S0:=act10_st hx0 av bv
 have main : KS Tryz.prog Ends O0 W () O0 (G ((Go.Conc.base 10).at (act10 x0 av bv) [.code body10]) []) W := by
  rw [body10_eq]
  refine ks_seq (fn:=10) C rfl (by simp [Go.Conc.base]) (wpK_region C ?_)
  rw [nq0]
  refine scn C (rel_bool false) u0_0 S0 (by decide) fun a1 S1=>?_
  refine opsK_nil C ⟨rfl,?_⟩
  refine ks_seq (fn:=10) C rfl (by simp [Go.Conc.base]) (wpK_region C ?_)
  rw [nq1]
  obtain ⟨o,ho,e⟩:=Option.map_eq_some_iff.1 u1_0
  simp only [Prod.mk.injEq] at e
  obtain ⟨e1,e2,e3⟩:=e
  intro b k cs hb hk hc
  refine ks_enter setupM hE V0 hk ho (wanted_none o e3) e1 Tryz.func28 rfl rfl okB28 (Post:=fun x v1=>x=.bool true∧Old (view0' W) v1) (fun F _=>awake_v hE (start_vg S) (by simp) rfl fun v1 k1=>⟨rfl,k1⟩) ?_
  rintro O1 π1 x x' u1 w1 le1 ⟨rfl,o1⟩ hx V1
  obtain rfl:x'=.bool true:=plain_eq hx rfl
  rw [e2]
  have S2:=(S1.mono le1).put 28 (.bool true) (by decide) (rel_bool true)
  generalize a1.put (some 28) (.bool true)=a2 at S2 ⊢
  refine (?_:opsK (KS Tryz.prog Ends O0 W) 10 q1 [1] (fun e a s O w=>e=.normal∧KS Tryz.prog Ends O0 W s O (G ((Go.Conc.base 10).at a [.code (.seq (.region 2 q2 false) (.seq (.region 3 q3 false) (.seq (part10 4) (sndN 5 body10))))]) []) w) a2 () O1 w1) b k cs hb hk hc
  refine sas C u1_1 S2 (by decide) (by decide) fun a3 S3=>opsK_nil C ⟨rfl,?_⟩
  refine ks_seq (fn:=10) C rfl (by simp [Go.Conc.base]) (wpK_region C ?_)
  rw [nq2]
  refine scn C (rel_str _) u2_0 S3 (by decide) fun a4 S4=>opsK_nil C ⟨rfl,?_⟩
  refine ks_seq (fn:=10) C rfl (by simp [Go.Conc.base]) (wpK_region C ?_)
  rw [nq3]
  refine scn C ⟨_,.nilSlice 0 0⟩ u3_0 S4 (by decide) fun a5 S5=>opsK_nil C ⟨rfl,?_⟩
  refine ks_seq (fn:=10) C rfl (by simp [Go.Conc.base]) (c4_k C (fun O π u w V ho=>raw_at S hraw V ho) V1 o1 S5 rfl rfl rfl ?_)
  rintro n a6 O6 w6 hnn ⟨i,D,y,f,π6,u6,hiR,hi40,hn,le6,V6,o6,S6,f0,f1,f2,f7,f8,-,hy,hown,hD,hDs⟩
  refine ⟨rfl,fun w7 h7 hO7 hs7=>?_⟩
  have V7:=V6.rely h7
  have le0:Ren.le ren0 π6:=Ren.le_trans le1 le6
  have hfl:=fsOf_len (R:=R) (i:=i) hiR
  obtain ⟨AV,sAV,hAV,h9⟩:∃ AV:Array Value,AV.size=219∧(∀ k (h:k < AV.size),VRel AlM π6 AV[k] (f k))∧AV[9]? = some y:=by
   refine ⟨Array.ofFn (n:=219) fun k=>if k.1=9 then y else (S6.rel k.1 k.2).choose,Array.size_ofFn,fun k h=>?_,?_⟩
   ·rw [Array.getElem_ofFn]
    dsimp only
    split
    ·rename_i e
     rw [e]
     exact hy
    ·exact (S6.rel k (by simpa using h)).choose_spec
   ·rw [Array.getElem?_ofFn,dif_pos (by decide)]
    exact congrArg some (if_pos rfl)
  have ev:∀ k x,k < 219→f k=x→plainB x=true→({ tmps:=AV,defers:=[] }:Act).eval (.tmp k)=x:=by
   intro k x hk e hp
   have:=hAV k (by omega)
   rw [e] at this
   have e2:=plain_back this hp
   simp only [Act.eval,Array.getD_eq_getD_getElem?]
   rw [Array.getElem?_eq_getElem (by omega)]
   exact e2
  have hw:=counted_rest (F:=fr0 W) (v:=u6) hE ((start_vg S).old o6) (fs:=fsOf R i) (by omega) hD (by omega) (bools_of hfl hown) hav hbv (A0:={ tmps:=AV,defers:=[] }) sAV rfl (ev 1 _ (by decide) f1 rfl) (ev 2 _ (by decide) f2 rfl) (ev 7 _ (by decide) f7 rfl) (ev 8 _ (by decide) f8 rfl) (by simp [Act.eval,Array.getD_eq_getD_getElem?,h9])
  have hKM:=KM.whole (F:=fr0 W) setupM Tryz.func10 (by kernel_rfl) (Post:=fun x w'=>x=.bool true∧KeptAll W w') (c:=sndN 5 body10) (ts:=AV) (v:=u6) rfl (wpV_mono hw fun e a v hq=>by
   cases e with
   | ret=>exact ends_true S (t:=6) rfl (o6.trans hq.1) hq.2.2
   | _=>exact hq.elim)
  refine hKM w7.tape w7.drawn π6 _ w7 ⟨.base ⟨rfl,⟨?_,fun k h1 h2=>?_⟩,TodoR.cons (st:=⟨true,[]⟩) (x:=.code (sndN 5 body10)) okR10 .nil,rfl,S6.defers,.run,rfl,rfl,rfl,rfl⟩,rfl,rfl,rfl,rfl,rfl,rfl⟩ V7.rel V7.gls ⟨hs7.size,fun r hr=>?_,le0,fun r r' p=>?_,hs7.oo⟩
  ·exact sAV.trans S6.size.symm
  ·have h1:k < AV.size:=h1
   have hk:k < 219:=by rw [← sAV]; exact h1
   have h2:k < a6.tmps.size:=h2
   have:=hAV k h1
   have e:f k=a6.tmps[k]:=by
    rw [← S6.val k hk]
    simp [Act.eval,h2]
   rw [e] at this
   exact this
  ·by_cases hr0:O0 r
   ·rcases hr0 with hp | hE'
    ·exact .inr ⟨r,rfl,hp⟩
    ·exact .inl (V7.old r (.inl hE')).2
   ·exact .inl (hs7.same r hr hr0)
  ·obtain ⟨hO,hnE⟩:=(V7.own r r' p).resolve_left (by omega)
   rcases hs7.own r' hO with hp | hge
   ·have hp:=hp.resolve_right hnE
    have:r=r':=(π6.inj p (V7.gls r' hp)).2 rfl
    exact .inl ⟨this,by rw [this]; exact hp⟩
   ·exact .inr hge
 have hK:=main W (.refl _ _ _) hO0 (Since.refl _ _)
 have:=hK #[_] none #[] (fun _=>0) rfl (leavers_one _ _) (past_nil.mono (Nat.zero_le _))
 rw [enter10]
 exact this
end Go.Proofs.YtclpcnignheijaaGreatDoor.Num
