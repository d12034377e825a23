/-
  Parts of the proof: JB, JC, JT, JD.
-/
import Derived.Test.YtclpcnignheijaaGreatDoorQ28
import Derived.Test.YtclpcnignheijaaGreatDoorJA
set_option maxRecDepth 100000
namespace Go.Proofs.YtclpcnignheijaaGreatDoor.Num
open Go.RowKit Go.Proofs.YtclpcnignheijaaGreatDoor Go.Conc
def awkB:ByteArray:=⟨#[60,112,62,60,98,32,105,100,61,34,120,34,62,116,60,47,98,62,60,47,112,62]⟩
def awkBS:BS:=⟨[⟨⟨#[112]⟩,-1,[],0,1⟩,⟨⟨#[98]⟩,0,[(⟨#[105,100]⟩,⟨#[120]⟩)],0,1⟩],[116],-1,0⟩
def awkS:ByteArray:=⟨#[112,32,62,32,35,120]⟩
def awkL:SLst:=[[(0,⟨#[112]⟩,[]),(62,noB,[.mk 0 ⟨#[120]⟩ noAttr noNth []])]]
theorem awk_parse:parseP awkB=(22,awkBS,0):=by kernel_rfl
theorem awk_comp:compP awkS=(0,0,some awkL):=by kernel_rfl
theorem awk_mean0:mean awkBS awkL 0=false:=by rw [mean_eq]; kernel_rfl
theorem awk_mean1:mean awkBS awkL 1=true:=by rw [mean_eq]; kernel_rfl
theorem awk_meant:meantL 2 (mean awkBS awkL)=[1]:=by
 simp only [meantL,List.range,List.range.loop,List.filter,awk_mean0,awk_mean1]
 rfl
structure VG (v:World):Prop where
 gl:Gl v
 glf:GlF v
 rows:∀ x,glP x=true→isRow v x
theorem VG.old {v v':World} (h:VG v) (k:Old v v'):VG v':=by
 refine ⟨?_,h.glf.old k,fun x hx=>?_⟩
 ·obtain ⟨t,fr,hb⟩:=h.gl
  exact ⟨t,fr,k.at hb⟩
 ·obtain ⟨c,e,f,hc⟩:=h.rows x hx
  exact ⟨c,e,f,k.at hc⟩
theorem VG.re {v:World} (h:VG v) (T:Nat→Question→Nat) (d:Nat):VG (v.re T d):=h.old (Old.heap rfl)
structure DocV (v:World) (db:Nat) (s:ByteArray):Prop where
 size:s.size≤2000
 ok:(parseP s).2.2=0
 doc:∃ B,Dc v B db (parseP s).2.1
theorem Dc.old {v v':World} {B db:Nat} {b:BS} (h:Dc v B db b) (k:Old v v'):Dc v' B db b:=by
 obtain ⟨ve,avs,h1,h2,h3,h4⟩:=h
 exact ⟨ve,avs,k.at h1,h2,k.owns h3,fun i x a hx ha=>k.owns (h4 i x a hx ha)⟩
theorem DocV.old {v v':World} {db:Nat} {s:ByteArray} (h:DocV v db s) (k:Old v v'):DocV v' db s:=by
 obtain ⟨B,hd⟩:=h.doc
 exact ⟨h.size,h.ok,B,Dc.old hd k⟩
structure SelV (v:World) (sb:Nat) (s:ByteArray) (l:SLst):Prop where
 comp:compP s=(0,0,some l)
 sel:∃ lv A P,v.heap[sb]? = some (.cells #[lv] 96 (0,0))∧A.length≤s.size∧RepL A P v (s.size+1) lv l
theorem comp_wf {s : ByteArray} {l : SLst} (h : compP s = (0, 0, some l)) : wfN (s.size + 1) l ∧ s.size ≤ 200 := by
 unfold compP at h
 split at h
 ·cases h
 ·rename_i hs
  split at h
  ·cases h
  ·rename_i q l0 cn d hx
   refine ⟨?_,by omega⟩
   have hl:l0=l:=by
    split at h
    ·cases h
    ·split at h
     ·cases h
     ·simp only [Prod.mk.injEq,Option.some.injEq,true_and] at h
      exact h
   rw [← hl]
   exact (listP_ne s (s.size+1) 0 (l0,cn,d) (Nat.zero_le _) (by rw [hx])).1
theorem SelV.old {v v':World} {sb:Nat} {s:ByteArray} {l:SLst} (h:SelV v sb s l) (k:Old v v'):SelV v' sb s l:=by
 obtain ⟨lv,A,P,h1,h2,h3⟩:=h.sel
 exact ⟨h.comp,lv,A,P,k.at h1,h2,h3.map fun g c t hp hg _=>⟨hp,k.at hg⟩⟩
theorem view_all {v:World} {db sb:Nat} {sd ss:ByteArray} {l:SLst} (V:VG v) (D:DocV v db sd) (S:SelV v sb ss l) :
  ∃ lv A,v.cell? ⟨sb,0,none⟩=some lv∧AllSpec alM alF glP v (.pointer (some ⟨db,0,none⟩)) lv (parseP sd).2.1.els.length (mean (parseP sd).2.1 l) (Fnd db (parseP sd).2.1 A lv (ss.size+1) l) (Lay db (parseP sd).2.1 A lv (ss.size+1) l)∧Look v db (parseP sd).2.1 A lv (ss.size+1) l:=by
 obtain ⟨lv,A,P,h1,h2,h3⟩:=S.sel
 obtain ⟨B,hd⟩:=D.doc
 obtain ⟨hw,hs⟩:=comp_wf S.comp
 have hb:=tree_ok D.size D.ok
 refine ⟨lv,A,cell_of_one h1,all_spec hd hb h3 hw (by omega) V.glf V.rows,⟨Dc.toC (CellsTo.refl v) hd,V.glf,hb,by omega⟩,hw,(RepL.toC (CellsTo.refl v) h3).1⟩
theorem parse_v (s:ByteArray) (v:World) (hm:s.size≤140737488351232) (V:VG v) :
  Calls Tryz.prog 21 #[.string s] v fun e v'=>∃ x,e=.returned x∧Old v v'∧((codeP s=0∧∃ db,x=.tuple #[.pointer (some ⟨db,0,none⟩),.nilIface]∧DocV v' db s)∨(codeP s≠0∧∃ k,x=.tuple #[.pointer none,.iface 107 (.pointer (some ⟨k,0,none⟩))])):=by
 refine (parse_any s v hm V.gl).mono ?_
 rintro e v' ⟨hb,⟨hc,db,rfl,-,hd⟩ | ⟨hc,x,rfl,hr⟩⟩
 ·refine ⟨_,rfl,.ofBelow hb,.inl ⟨hc,db,rfl,?_,?_,_,hd⟩⟩
  ·unfold codeP at hc
   split at hc
   ·cases hc
   ·omega
  ·unfold codeP at hc
   split at hc
   ·cases hc
   ·exact hc
 ·obtain ⟨k,u,n,rfl,-⟩:=hr
  exact ⟨_,rfl,.ofBelow hb,.inr ⟨hc,k,rfl⟩⟩
theorem compile_v (s:ByteArray) (v:World) :
  Calls Tryz.prog 29 #[.string s] v fun e v'=>∃ x,e=.returned x∧Old v v'∧((∃ l sb,x=.tuple #[.pointer (some ⟨sb,0,none⟩),.nilIface]∧SelV v' sb s l)∨((compP s).1≠0∧∃ k,x=.tuple #[.pointer none,.iface 107 (.pointer (some ⟨k,0,none⟩))])):=by
 refine (compile_any s v).mono ?_
 rintro e v' ⟨hb,⟨l,sb,lv,A1,hc,rfl,-,h1,h2,h3⟩ | ⟨-,hc,x,rfl,hr⟩⟩
 ·exact ⟨_,rfl,.ofBelow hb,.inl ⟨l,sb,rfl,hc,lv,A1,_,h1,h2,h3⟩⟩
 ·obtain ⟨k,u,n,rfl,-⟩:=hr
  exact ⟨_,rfl,.ofBelow hb,.inr ⟨hc,k,rfl⟩⟩
section
variable {P:Program} {F:Fr0 P} {Ends:Machine→Trace→Prop} {al:Cfg} {gl:Nat→Bool} {Q:Exit→Act→World→Prop} {a:Act} {v:World}
theorem act_conc (a:Act) (n:Nat) (h:a.tmps.size=n) (hd:a.defers=[]):a={ tmps:=((List.range n).map fun i=>a.eval (.tmp i)).toArray,defers:=[] }:=by
 obtain ⟨t,ds⟩:=a
 subst hd
 congr 1
 apply Array.ext
 ·simpa using h
 ·intro i h1 h2
  simp [Act.eval,h1]
theorem wpV_conc {c:Code} {n:Nat} (hsz:a.tmps.size=n) (hd:a.defers=[]) (h:wpV P al gl F Ends c Q { tmps:=((List.range n).map fun i=>a.eval (.tmp i)).toArray,defers:=[] } v):wpV P al gl F Ends c Q a v:=by
 rw [act_conc a n hsz hd]; exact h
theorem opsV_ext (S:Setup P al gl (fun r=>r < 0)) (hE:EndsCl P Ends) {ops:Array Oper} {i:Nat} {rest:List Nat} {o:Oper} (d:Nat) (x:Operand) (k:Nat) (t:Array Value) (y:Value) (ho:ops[i]? = some o) (hop:o.op=.extract x k) (hg:o.guard=none) (hd:o.dst=some d) (ht:a.eval x=.tuple t) (hy:t[k]? = some y) (h:opsV P al gl F Ends ops rest Q (a.put (some d) y) v):opsV P al gl F Ends ops (i :: rest) Q a v:=by
 refine opsV_value S hE ho (by rw [hop]; rfl) (by simp [Region.wanted,hg]) fun T d'=>⟨y,v.re T d',?_,?_⟩
 ·unfold execOp
  rw [hop]
  simp only []
  rw [ht]
  simp [go_sem,hy]
 ·rw [hd]
  exact fun b k cs hb hc T' d'=>h b k cs hb hc T' d'
end
section
variable {F:Fr0 Tryz.prog} {Ends:Machine→Trace→Prop} {Q:Exit→Act→World→Prop} {a:Act} {v:World} {ops:Array Oper} {i:Nat} {rest:List Nat} {o:Oper} {ats:Array TypeId}
theorem opsV_parse (hE:EndsCl Tryz.prog Ends) (V:VG v) (s:ByteArray) (hs:s.size≤140737488351232) (x:Operand) (ho:ops[i]? = some o) (hop:o.op=.call { callee:=.value (.func 21),args:=#[x],argTypes:=ats }) (hg:o.guard=none) (d:Nat) (hd:o.dst=some d) (hx:a.eval x=.string s)
  (hnext:∀ y v1,Old v v1→((codeP s=0∧∃ db,y=.tuple #[.pointer (some ⟨db,0,none⟩),.nilIface]∧DocV v1 db s)∨(codeP s≠0∧∃ k,y=.tuple #[.pointer none,.iface 107 (.pointer (some ⟨k,0,none⟩))]))→opsV Tryz.prog alM glP F Ends ops rest Q (a.put (some d) y) v1):opsV Tryz.prog alM glP F Ends ops (i :: rest) Q a v:=by
 refine opsV_call setupM hE (Post:=fun y v1=>Old v v1∧((codeP s=0∧∃ db,y=.tuple #[.pointer (some ⟨db,0,none⟩),.nilIface]∧DocV v1 db s)∨(codeP s≠0∧∃ k,y=.tuple #[.pointer none,.iface 107 (.pointer (some ⟨k,0,none⟩))]))) ho (by simp [Region.wanted,hg]) hop (by kernel_rfl) Tryz.func21 rfl rfl (fun y w T d h=>⟨h.1.trans (Old.heap rfl),h.2.imp (fun ⟨h1,db,h2,h3⟩=>⟨h1,db,h2,h3.old (Old.heap rfl)⟩) id⟩) (fun T=>?_) fun y v1 h=>by rw [hd]; exact hnext y v1 h.1 h.2
 simp only [List.map_toArray,List.map_cons,List.map_nil,hx]
 refine (parse_v s (v.re T 0) hs (V.re T 0)).mono ?_
 rintro e v' ⟨y,rfl,h1,h2⟩
 exact ⟨y,rfl,(Old.heap rfl:Old v (v.re T 0)).trans h1,h2⟩
theorem opsV_compile (hE:EndsCl Tryz.prog Ends) (s:ByteArray) (x:Operand) (ho:ops[i]? = some o) (hop:o.op=.call { callee:=.value (.func 29),args:=#[x],argTypes:=ats }) (hg:o.guard=none) (d:Nat) (hd:o.dst=some d) (hx:a.eval x=.string s)
  (hnext:∀ y v1,Old v v1→((∃ l sb,y=.tuple #[.pointer (some ⟨sb,0,none⟩),.nilIface]∧SelV v1 sb s l)∨((compP s).1≠0∧∃ k,y=.tuple #[.pointer none,.iface 107 (.pointer (some ⟨k,0,none⟩))]))→opsV Tryz.prog alM glP F Ends ops rest Q (a.put (some d) y) v1):opsV Tryz.prog alM glP F Ends ops (i :: rest) Q a v:=by
 refine opsV_call setupM hE (Post:=fun y v1=>Old v v1∧((∃ l sb,y=.tuple #[.pointer (some ⟨sb,0,none⟩),.nilIface]∧SelV v1 sb s l)∨((compP s).1≠0∧∃ k,y=.tuple #[.pointer none,.iface 107 (.pointer (some ⟨k,0,none⟩))]))) ho (by simp [Region.wanted,hg]) hop (by kernel_rfl) Tryz.func29 rfl rfl (fun y w T d h=>⟨h.1.trans (Old.heap rfl),h.2.imp (fun ⟨l,sb,h2,h3⟩=>⟨l,sb,h2,h3.old (Old.heap rfl)⟩) id⟩) (fun T=>?_) fun y v1 h=>by rw [hd]; exact hnext y v1 h.1 h.2
 simp only [List.map_toArray,List.map_cons,List.map_nil,hx]
 refine (compile_v s (v.re T 0)).mono ?_
 rintro e v' ⟨y,rfl,h1,h2⟩
 exact ⟨y,rfl,(Old.heap rfl:Old v (v.re T 0)).trans h1,h2⟩
end
noncomputable def body28:Code:=Tryz.f28.body.getD .skip
noncomputable def part28:Code:=match body28 with | .seq _ (.seq _ (.seq _ (.seq x _)))=>x | _=>.skip
noncomputable def rest28:Code:=match body28 with | .seq _ (.seq _ (.seq _ (.seq _ (.seq _ x))))=>x | _=>.skip
noncomputable def ops28 (n:Nat):Array Oper:=match n,body28 with
 | 1,.seq _ (.seq (.region _ ops _) _)=>ops
 | 2,.seq _ (.seq _ (.seq (.region _ ops _) _))=>ops
 | 5,.seq _ (.seq _ (.seq _ (.seq _ (.seq (.region _ ops _) _))))=>ops
 | _,_=>#[]
theorem ok28:codeOk Tryz.prog alM glP false part28=true:=by kernel_rfl
theorem okR28:codeOk Tryz.prog alM glP false rest28=true:=by kernel_rfl
theorem okB28:codeOk Tryz.prog alM glP true body28=true:=by kernel_rfl
theorem walk28 (f:Nat→Value) (w:World) (db sb:Nat) (h1:f 1=.pointer (some ⟨db,0,none⟩)) (h2:f 2=.nilIface) (h3:f 3=.pointer (some ⟨sb,0,none⟩)) (h4:f 4=.nilIface) :
  part28.wp Tryz.prog (fun | .normal=>fun a' w'=>w'.heap=w.heap∧a'.tmps.size=45∧a'.defers=[]∧a'.eval (.tmp 1)=.pointer (some ⟨db,0,none⟩)∧a'.eval (.tmp 3)=.pointer (some ⟨sb,0,none⟩) | .ret=>fun _ _=>False | _=>fun _ _=>False) { tmps:=((List.range 45).map f).toArray,defers:=[] } w:=by
 simp only [part28,body28,Tryz.f28,Option.getD_some]
 simp only [List.range,List.range.loop,List.map,h1,h2,h3,h4]
 go_wp2
theorem rest28_w (f:Nat→Value) (w0 w:World) (k0:Old w0 w) (db:Nat) (x:Value) (h1:f 1=.pointer (some ⟨db,0,none⟩)) (h5:f 5=x) (ht:TrC w db awkBS) (hb:BOk awkBS) (hx:IntsC w x [1]) :
  rest28.wp Tryz.prog (fun | .normal=>fun _ _=>False | .ret=>fun a' w'=>Old w0 w'∧a'.defers=[]∧a'.eval (.tmp 0)=.bool true | _=>fun _ _=>False) { tmps:=((List.range 45).map f).toArray,defers:=[] } w:=by
 obtain ⟨ao,cap,rfl,hc⟩:=hx
 obtain ⟨g,rfl,q0⟩:=hc 0 1 rfl
 have HT:Hid (textB awkBS ⟨⟨#[112]⟩,-1,[],0,1⟩=⟨#[116]⟩):=by exact hide (by rfl)
 simp only [rest28,body28,Tryz.f28,Option.getD_some]
 simp only [List.range,List.range.loop,List.map,h1,h5]
 go_wp2_with fail
 refine (dtext_q hb 0 ⟨⟨#[112]⟩,-1,[],0,1⟩ rfl w ht).mono ?_
 rintro e w1 ⟨rfl,ho⟩
 rw [HT.out]
 have k1:=k0.trans ho
 go_wp2
section
variable {F:Fr0 Tryz.prog} {Ends:Machine→Trace→Prop} {Q:Exit→Act→World→Prop} {a:Act} {v:World} {ops:Array Oper} {i:Nat} {rest:List Nat} {o:Oper} {ats:Array TypeId}
theorem awk_bs:BOk awkBS:=by
 have h:=tree_ok (s:=awkB) (by decide) (by rw [awk_parse])
 rw [awk_parse] at h
 exact h
theorem awake_v (hE:EndsCl Tryz.prog Ends) (V:VG v) {A0:Act} (s0:A0.tmps.size=45) (d0:A0.defers=[]) {R:Value→World→Prop} (hnext:∀ v1,Old v v1→R (.bool true) v1):wpV Tryz.prog alM glP F Ends body28 (retV Tryz.prog Tryz.f28 R) A0 v:=by
 have S:=setupM
 obtain ⟨o0,hb,g1,g2,g3⟩:∃ o0:Oper,body28=.seq (.region 0 #[o0] false) (.seq (.region 1 (ops28 1) false) (.seq (.region 2 (ops28 2) false) (.seq part28 (.seq (.region 5 (ops28 5) false) rest28))))∧o0.op=.assign (.const (.bool false))∧o0.guard=none∧o0.dst=some 0:=⟨_,rfl,rfl,rfl,rfl⟩
 rw [hb]
 refine wpV_seq S hE (wpV_region S hE ?_)
 refine opsV_mv S hE (some 0) (.const (.bool false)) rfl (.inr g1) g2 g3 ?_
 refine opsV_nil S hE ?_
 refine wpV_seq S hE (wpV_region S hE ?_)
 refine opsV_parse hE V awkB (by decide) _ rfl rfl rfl 7 rfl rfl ?_
 rintro y v1 k1 (⟨-,db,rfl,D⟩ | ⟨hc,-⟩)
 rotate_left
 ·exact absurd (by unfold codeP; rw [awk_parse]; rfl) hc
 refine opsV_mv S hE (some 6) (.tmp 7) rfl (.inl rfl) rfl rfl ?_
 refine opsV_ext S hE 8 (.tmp 6) 0 _ _ rfl rfl rfl rfl (by simp [eval_put,put_size,s0]; rfl) rfl ?_
 refine opsV_ext S hE 9 (.tmp 6) 1 _ _ rfl rfl rfl rfl (by simp [eval_put,put_size,s0]; rfl) rfl ?_
 refine opsV_mv S hE (some 1) (.tmp 8) rfl (.inr rfl) rfl rfl ?_
 refine opsV_mv S hE (some 2) (.tmp 9) rfl (.inr rfl) rfl rfl ?_
 refine opsV_nil S hE ?_
 generalize hA:Act.put _ (some 2) _=A1
 have s1:A1.tmps.size=45:=by rw [← hA]; simp [put_size,s0]
 have d1:A1.defers=[]:=by rw [← hA]; simp [put_defers,d0]
 have e1:A1.eval (.tmp 1)=.pointer (some ⟨db,0,none⟩):=by rw [← hA]; simp [eval_put,put_size,s0]
 have e2:A1.eval (.tmp 2)=.nilIface:=by rw [← hA]; simp [eval_put,put_size,s0]
 clear hA
 refine wpV_seq S hE (wpV_region S hE ?_)
 refine opsV_compile hE awkS _ rfl rfl rfl 11 rfl rfl ?_
 rintro y v2 k2 (⟨l,sb,rfl,Sl⟩ | ⟨hc,-⟩)
 rotate_left
 ·exact absurd (by rw [awk_comp]) hc
 obtain rfl:awkL=l:=by have:=awk_comp.symm.trans Sl.comp; simpa using this
 refine opsV_mv S hE (some 10) (.tmp 11) rfl (.inl rfl) rfl rfl ?_
 refine opsV_ext S hE 12 (.tmp 10) 0 _ _ rfl rfl rfl rfl (by simp [eval_put,put_size,s1]; rfl) rfl ?_
 refine opsV_ext S hE 13 (.tmp 10) 1 _ _ rfl rfl rfl rfl (by simp [eval_put,put_size,s1]; rfl) rfl ?_
 refine opsV_mv S hE (some 3) (.tmp 12) rfl (.inr rfl) rfl rfl ?_
 refine opsV_mv S hE (some 4) (.tmp 13) rfl (.inr rfl) rfl rfl ?_
 refine opsV_nil S hE ?_
 generalize hA:Act.put _ (some 4) _=A2
 have s2:A2.tmps.size=45:=by rw [← hA]; simp [put_size,s1]
 have d2:A2.defers=[]:=by rw [← hA]; simp [put_defers,d1]
 have f1:A2.eval (.tmp 1)=.pointer (some ⟨db,0,none⟩):=by rw [← hA]; simp [eval_put,put_size,s1,e1]
 have f2:A2.eval (.tmp 2)=.nilIface:=by rw [← hA]; simp [eval_put,put_size,s1,e2]
 have f3:A2.eval (.tmp 3)=.pointer (some ⟨sb,0,none⟩):=by rw [← hA]; simp [eval_put,put_size,s1]
 have f4:A2.eval (.tmp 4)=.nilIface:=by rw [← hA]; simp [eval_put,put_size,s1]
 clear hA e1 e2
 refine wpV_seq S hE (wpV_conc s2 d2 (wpV_frag S hE ok28 (Qn:=fun a' w'=>w'.heap=v2.heap∧a'.tmps.size=45∧a'.defers=[]∧a'.eval (.tmp 1)=.pointer (some ⟨db,0,none⟩)∧a'.eval (.tmp 3)=.pointer (some ⟨sb,0,none⟩)) (Qr:=fun _ _=>False) (fun _ _ _ _ h=>h) (fun _ _ _ _ h=>h) (fun T=>walk28 _ (v2.re T 0) db sb f1 f2 f3 f4) ?_ fun _ _ h=>h.elim))
 rintro A3 v3 ⟨k3,s3,d3,h1,h3⟩
 have o3:Old v v3:=(k1.trans k2).trans (Old.heap k3)
 have D3:=D.old (k2.trans (Old.heap k3))
 have Sl3:=Sl.old (Old.heap k3)
 obtain ⟨lv,AA,hlv,spec,look⟩:=view_all (V.old o3) D3 Sl3
 rw [awk_parse] at spec look
 dsimp only at spec look
 have hn:awkBS.els.length=2:=rfl
 rw [hn] at spec
 refine wpV_seq S hE (wpV_region S hE ?_)
 refine opsV_mv S hE (some 28) (.tmp 1) rfl (.inl rfl) rfl rfl ?_
 refine opsV_mv S hE (some 29) (.tmp 3) rfl (.inl rfl) rfl rfl ?_
 refine opsV_docAll hE rfl spec (by omega) hlv rfl rfl 30 rfl rfl rfl rfl (by simp [eval_put,put_size,s3,h1]) (by simp [eval_put,put_size,s3,h3]) ?_
 intro z v4 hz
 rw [awk_meant] at hz
 refine opsV_mv S hE (some 5) (.tmp 30) rfl (.inr rfl) rfl rfl ?_
 refine opsV_nil S hE ?_
 have o4:Old v3 v4:=⟨hz.size,fun k hk=>hz.old k hk⟩
 generalize hA:Act.put _ (some 5) _=A4
 have s4:A4.tmps.size=45:=by rw [← hA]; simp [put_size,s3]
 have d4:A4.defers=[]:=by rw [← hA]; simp [put_defers,d3]
 have q1:A4.eval (.tmp 1)=.pointer (some ⟨db,0,none⟩):=by rw [← hA]; simp [eval_put,put_size,s3,h1]
 have q5:A4.eval (.tmp 5)=z:=by rw [← hA]; simp [eval_put,put_size,s3]
 clear hA
 have hxs:=IntsC.of hz.row
 refine wpV_conc s4 d4 (wpV_frag S hE okR28 (Qn:=fun _ _=>False) (Qr:=fun a' w'=>Old v4 w'∧a'.defers=[]∧a'.eval (.tmp 0)=.bool true) (fun _ _ _ _ h=>h) (fun _ _ _ _ h=>⟨h.1.trans (Old.heap rfl),h.2⟩) (fun T=>?_) (fun _ _ h=>h.elim) ?_)
 ·have k0:Old v4 (v4.re T 0):=Old.heap rfl
  exact rest28_w (fun i=>A4.eval (.tmp i)) v4 (v4.re T 0) k0 db z q1 q5 ((look.old o4).old k0).env.tree awk_bs (hxs.old k0)
 ·rintro A5 v5 ⟨k5,d5,h0⟩
  refine ⟨d5,.bool true,fun T d=>?_,hnext v5 ((o3.trans o4).trans k5)⟩
  exact (results_tmp (fn:=Tryz.f28) (t:=0) rfl _ _ _).trans (congrArg (fun y=>Result.ok y _) h0)
end
noncomputable def body33:Code:=Tryz.f33.body.getD .skip
noncomputable def part33:Code:=match body33 with | .seq _ (.seq _ (.seq x _))=>x | _=>.skip
noncomputable def ops33 (n:Nat):Array Oper:=match n,body33 with
 | 1,.seq _ (.seq (.region _ ops _) _)=>ops
 | 4,.seq _ (.seq _ (.seq _ (.seq (.region _ ops _) _)))=>ops
 | _,_=>#[]
theorem ok33:codeOk Tryz.prog alM glP false part33=true:=by kernel_rfl
theorem okB33:codeOk Tryz.prog alM glP true body33=true:=by kernel_rfl
theorem walk33 (f:Nat→Value) (w:World) (db sb:Nat) (h0:f 0=.pointer (some ⟨db,0,none⟩)) (h6:f 6=.pointer (some ⟨sb,0,none⟩)) (h7:f 7=.nilIface) :
  part33.wp Tryz.prog (fun | .normal=>fun a' w'=>w'.heap=w.heap∧a'.tmps.size=22∧a'.defers=[]∧a'.eval (.tmp 0)=.pointer (some ⟨db,0,none⟩)∧a'.eval (.tmp 6)=.pointer (some ⟨sb,0,none⟩) | .ret=>fun _ _=>False | _=>fun _ _=>False) { tmps:=((List.range 22).map f).toArray,defers:=[] } w:=by
 simp only [part33,body33,Tryz.f33,Option.getD_some]
 simp only [List.range,List.range.loop,List.map,h0,h6,h7]
 go_wp2
theorem walk33_no (f:Nat→Value) (w:World) (k:Nat) (h6:f 6=.pointer none) (h7:f 7=.iface 107 (.pointer (some ⟨k,0,none⟩))) :
  part33.wp Tryz.prog (fun | .normal=>fun _ _=>False | .ret=>fun a' w'=>w'.heap=w.heap∧a'.defers=[]∧a'.eval (.tmp 4)=.slice none 0 0∧a'.eval (.tmp 5)=.bool false | _=>fun _ _=>False) { tmps:=((List.range 22).map f).toArray,defers:=[] } w:=by
 simp only [part33,body33,Tryz.f33,Option.getD_some]
 simp only [List.range,List.range.loop,List.map,h6,h7]
 go_wp2
def MeansP (doc s:ByteArray) (z:Value) (ok:Bool) (v:World):Prop:=(ok=true∧∃ l,compP s=(0,0,some l)∧IntsC v z (meantL (parseP doc).2.1.els.length (mean (parseP doc).2.1 l)))∨(ok=false∧z=.slice none 0 0)
theorem MeansP.old {doc s:ByteArray} {z:Value} {ok:Bool} {v v':World} (h:MeansP doc s z ok v) (k:Old v v'):MeansP doc s z ok v':=h.imp (fun ⟨e,l,h1,h2⟩=>⟨e,l,h1,h2.old k⟩) id
def MeansS (doc s:ByteArray) (z:Value) (ok:Bool) (v:World):Prop:=(ok=true∧∃ l,compP s=(0,0,some l)∧IntsC v z (meantL (parseP doc).2.1.els.length (mean (parseP doc).2.1 l)))∨(ok=false∧z=.slice none 0 0∧(compP s).1≠0)
section
variable {F:Fr0 Tryz.prog} {Ends:Machine→Trace→Prop} {Q:Exit→Act→World→Prop} {a:Act} {v:World} {ops:Array Oper} {i:Nat} {rest:List Nat} {o:Oper} {ats:Array TypeId}
theorem opsV_meansS (hE:EndsCl Tryz.prog Ends) (V:VG v) {db:Nat} {doc:ByteArray} (D:DocV v db doc) (s:ByteArray) {x y:Operand} (ho:ops[i]? = some o) (hg:o.guard=none) (d:Nat) (hd:o.dst=some d) (hop:o.op=.call { callee:=.value (.func 33),args:=#[x,y],argTypes:=ats }) (okx:operandOk alM glP x=true) (oky:operandOk alM glP y=true)
  (e0:a.eval x=.pointer (some ⟨db,0,none⟩)) (e1:a.eval y=.string s) (hnext:∀ z ok v1,Old v v1→MeansS doc s z ok v1→opsV Tryz.prog alM glP F Ends ops rest Q (a.put (some d) (.tuple #[z,.bool ok])) v1):opsV Tryz.prog alM glP F Ends ops (i :: rest) Q a v:=by
 have S:=setupM
 refine opsV_enter S hE ho (fun ts=>by simp [Region.wanted,hg]) hop (by intro z hz; simp at hz; rcases hz with rfl | rfl <;> assumption) Tryz.func33 rfl rfl okB33 ?_
 obtain ⟨o0,o1,hb,⟨g1,g2,g3⟩,g4,g5,g6⟩:∃ o0 o1:Oper,body33=.seq (.region 0 #[o0,o1] false) (.seq (.region 1 (ops33 1) false) (.seq part33 (.seq (.region 4 (ops33 4) false) .ret)))∧(o0.op=.assign (.const (.slice none 0 0))∧o0.guard=none∧o0.dst=some 4)∧o1.op=.assign (.const (.bool false))∧o1.guard=none∧o1.dst=some 5:=⟨_,_,rfl,⟨rfl,rfl,rfl⟩,rfl,rfl,rfl⟩
 show wpV Tryz.prog alM glP F Ends body33 _ _ v
 rw [hb]
 have x0:=(args2 a.eval x y (Tryz.f33.ntmps - (Array.map a.eval #[x,y]).size)).1
 have x1:=(args2 a.eval x y (Tryz.f33.ntmps - (Array.map a.eval #[x,y]).size)).2
 generalize hA0:({ tmps:=_,defers:=_ }:Act)=A0 at x0 x1 ⊢
 have s0:A0.tmps.size=22:=by rw [← hA0]; simp
 have d0:A0.defers=[]:=by rw [← hA0]
 rw [e0] at x0
 rw [e1] at x1
 clear hA0
 refine wpV_seq S hE (wpV_region S hE ?_)
 refine opsV_mv S hE (some 4) (.const (.slice none 0 0)) rfl (.inr g1) g2 g3 ?_
 refine opsV_mv S hE (some 5) (.const (.bool false)) rfl (.inr g4) g5 g6 ?_
 refine opsV_nil S hE ?_
 refine wpV_seq S hE (wpV_region S hE ?_)
 refine opsV_mv S hE (some 9) (.tmp 1) rfl (.inl rfl) rfl rfl ?_
 refine opsV_compile hE s _ rfl rfl rfl 10 rfl (by simp [eval_put,put_size,s0,x1]) ?_
 intro y v2 k2 hz0
 obtain ⟨sv,fv,rfl,hz⟩:∃ sv fv,y=.tuple #[sv,fv]∧((∃ sb l,sv=.pointer (some ⟨sb,0,none⟩)∧fv=.nilIface∧SelV v2 sb s l)∨((compP s).1≠0∧∃ k,sv=.pointer none∧fv=.iface 107 (.pointer (some ⟨k,0,none⟩)))):=by
  rcases hz0 with ⟨l,sb,rfl,D⟩ | ⟨hcc,k,rfl⟩
  ·exact ⟨_,_,rfl,.inl ⟨sb,l,rfl,rfl,D⟩⟩
  ·exact ⟨_,_,rfl,.inr ⟨hcc,k,rfl,rfl⟩⟩
 refine opsV_mv S hE (some 8) (.tmp 10) rfl (.inl rfl) rfl rfl ?_
 refine opsV_ext S hE 11 (.tmp 8) 0 #[sv,fv] sv rfl rfl rfl rfl (by simp [eval_put,put_size,s0]) rfl ?_
 refine opsV_ext S hE 12 (.tmp 8) 1 #[sv,fv] fv rfl rfl rfl rfl (by simp [eval_put,put_size,s0]) rfl ?_
 refine opsV_mv S hE (some 6) (.tmp 11) rfl (.inr rfl) rfl rfl ?_
 refine opsV_mv S hE (some 7) (.tmp 12) rfl (.inr rfl) rfl rfl ?_
 refine opsV_nil S hE ?_
 generalize hA:Act.put _ (some 7) _=A1
 have s1:A1.tmps.size=22:=by rw [← hA]; simp [put_size,s0]
 have d1:A1.defers=[]:=by rw [← hA]; simp [put_defers,d0]
 have y0:A1.eval (.tmp 0)=.pointer (some ⟨db,0,none⟩):=by rw [← hA]; simp [eval_put,put_size,s0,x0]
 have y6:A1.eval (.tmp 6)=sv:=by rw [← hA]; simp [eval_put,put_size,s0]
 have y7:A1.eval (.tmp 7)=fv:=by rw [← hA]; simp [eval_put,put_size,s0]
 clear hA x0 x1
 rcases hz with ⟨sb,l,rfl,rfl,Sl⟩ | ⟨hcc,kk,rfl,rfl⟩
 rotate_left
 ·refine wpV_seq S hE (wpV_conc s1 d1 (wpV_frag S hE ok33 (Qn:=fun _ _=>False) (Qr:=fun a' w'=>w'.heap=v2.heap∧a'.defers=[]∧a'.eval (.tmp 4)=.slice none 0 0∧a'.eval (.tmp 5)=.bool false) (fun _ _ _ _ h=>h) (fun _ _ _ _ h=>h) (fun T=>walk33_no _ (v2.re T 0) kk y6 y7) (fun _ _ h=>h.elim) ?_))
  rintro A2 v3 ⟨k3,d2,h4,h5⟩
  refine ⟨d2,.tuple #[.slice none 0 0,.bool false],fun T d=>?_,?_⟩
  ·refine (results_tmp2 (fn:=Tryz.f33) (t:=4) (u:=5) rfl _ _ _).trans ?_
   have e4:A2.tmps.getD 4 undef=.slice none 0 0:=h4
   have e5:A2.tmps.getD 5 undef=.bool false:=h5
   rw [e4,e5]
  ·rw [hd]
   exact hnext _ _ _ (k2.trans (Old.heap k3)) (.inr ⟨rfl,rfl,hcc⟩)
 refine wpV_seq S hE (wpV_conc s1 d1 (wpV_frag S hE ok33 (Qn:=fun a' w'=>w'.heap=v2.heap∧a'.tmps.size=22∧a'.defers=[]∧a'.eval (.tmp 0)=.pointer (some ⟨db,0,none⟩)∧a'.eval (.tmp 6)=.pointer (some ⟨sb,0,none⟩)) (Qr:=fun _ _=>False) (fun _ _ _ _ h=>h) (fun _ _ _ _ h=>h) (fun T=>walk33 _ (v2.re T 0) db sb y0 y6 y7) ?_ fun _ _ h=>h.elim))
 rintro A3 v3 ⟨k3,s3,d3,h1,h3⟩
 have o3:Old v v3:=k2.trans (Old.heap k3)
 obtain ⟨lv,AA,hlv,spec,look⟩:=view_all (V.old o3) (D.old o3) (Sl.old (Old.heap k3))
 have hn:=look.env.ok.n
 refine wpV_seq S hE (wpV_region S hE ?_)
 refine opsV_mv S hE (some 19) (.tmp 0) rfl (.inl rfl) rfl rfl ?_
 refine opsV_mv S hE (some 20) (.tmp 6) rfl (.inl rfl) rfl rfl ?_
 refine opsV_docAll hE rfl spec (by omega) hlv rfl rfl 21 rfl rfl rfl rfl (by simp [eval_put,put_size,s3,h1]) (by simp [eval_put,put_size,s3,h3]) ?_
 intro z v4 hz
 have o4:Old v3 v4:=⟨hz.size,fun k hk=>hz.old k hk⟩
 refine opsV_mv S hE (some 4) (.tmp 21) rfl (.inr rfl) rfl rfl ?_
 refine opsV_mv S hE (some 5) (.const (.bool true)) rfl (.inr rfl) rfl rfl ?_
 refine opsV_nil S hE ?_
 generalize hA:Act.put _ (some 5) _=A4
 have d4:A4.defers=[]:=by rw [← hA]; simp [put_defers,d3]
 have q4:A4.eval (.tmp 4)=z:=by rw [← hA]; simp [eval_put,put_size,s3]
 have q5:A4.eval (.tmp 5)=.bool true:=by rw [← hA]; simp [eval_put,put_size,s3,eval_const]
 clear hA
 refine wpV_ret S hE ⟨d4,.tuple #[z,.bool true],fun T d=>?_,?_⟩
 ·refine (results_tmp2 (fn:=Tryz.f33) (t:=4) (u:=5) rfl _ _ _).trans ?_
  have e4:A4.tmps.getD 4 undef=z:=q4
  have e5:A4.tmps.getD 5 undef=.bool true:=q5
  rw [e4,e5]
 ·rw [hd]
  exact hnext _ _ _ (o3.trans o4) (.inl ⟨rfl,l,Sl.comp,IntsC.of hz.row⟩)
end
section
variable {N:Nat} {mP:Nat→Bool} {par:Nat→Int}
theorem in_meant {n:Nat} (h:n < N):(meantL N mP).any (· == (n:Int))=mP n:=by
 rw [Bool.eq_iff_iff,List.any_eq_true]
 unfold meantL
 constructor
 ·rintro ⟨x,hx,e⟩
  obtain ⟨k,hk,rfl⟩:=List.mem_map.1 hx
  have e2:(k:Int)=(n:Int):=by simpa using e
  have:k=n:=by omega
  subst this
  exact (List.mem_filter.1 hk).2
 ·intro hm
  exact ⟨(n:Int),List.mem_map.2 ⟨n,List.mem_filter.2 ⟨List.mem_range.2 h,hm⟩,rfl⟩,by simp⟩
end
noncomputable def body11:Code:=Tryz.f11.body.getD .skip
noncomputable def part11 (n:Nat):Code:=match n,body11 with
 | 4,.seq _ (.seq _ (.seq _ (.seq _ (.seq x _))))=>x
 | 6,.seq _ (.seq _ (.seq _ (.seq _ (.seq _ (.seq x _)))))=>x
 | 10,.seq _ (.seq _ (.seq _ (.seq _ (.seq _ (.seq _ (.seq _ (.seq _ (.seq x _))))))))=>x
 | 12,.seq _ (.seq _ (.seq _ (.seq _ (.seq _ (.seq _ (.seq _ (.seq _ (.seq _ (.seq x _)))))))))=>x
 | 14,.seq _ (.seq _ (.seq _ (.seq _ (.seq _ (.seq _ (.seq _ (.seq _ (.seq _ (.seq _ (.seq x _))))))))))=>x
 | 19,.seq _ (.seq _ (.seq _ (.seq _ (.seq _ (.seq _ (.seq _ (.seq _ (.seq _ (.seq _ (.seq _ (.seq x _)))))))))))=>x
 | 30,.seq _ (.seq _ (.seq _ (.seq _ (.seq _ (.seq _ (.seq _ (.seq _ (.seq _ (.seq _ (.seq _ (.seq _ x)))))))))))=>x
 | _,_=>.skip
end Go.Proofs.YtclpcnignheijaaGreatDoor.Num
