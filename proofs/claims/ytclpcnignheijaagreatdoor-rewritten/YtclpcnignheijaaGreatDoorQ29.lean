/-
  Parts of the proof: JB, JC, JD, JT.
-/
import Derived.Test.YtclpcnignheijaaGreatDoorQ28
import Derived.Test.YtclpcnignheijaaGreatDoorJA
set_option maxRecDepth 100000
namespace Go.Proofs.YtclpcnignheijaaGreatDoor.Num
open Go.RowKit Go.Conc Go.Proofs.Tryz
def qWa:ByteArray:=⟨#[60,112,62,60,98,32,105,100,61,34,120,34,62,116,60,47,98,62,60,47,112,62]⟩
def awkBS:BS:=⟨[⟨⟨#[112]⟩,-1,[],0,1⟩,⟨⟨#[98]⟩,0,[(⟨#[105,100]⟩,⟨#[120]⟩)],0,1⟩],[116],-1,0⟩
def qXA:ByteArray:=⟨#[112,32,62,32,35,120]⟩
def qVh:qAg:=[[(0,⟨#[112]⟩,[]),(62,noB,[.mk 0 ⟨#[120]⟩ qBD qB2 []])]]
theorem qFT:qAs qWa=(22,awkBS,0):=by kernel_rfl
theorem awk_comp:qB1 qXA=(0,0,some qVh):=by kernel_rfl
theorem qPw:qDV awkBS qVh 0=false:=by rw[qMa];kernel_rfl
theorem qPx:qDV awkBS qVh 1=true:=by rw[qMa];kernel_rfl
theorem qPy:qDv 2 (qDV awkBS qVh)=[1]:=by
 simp only[qDv,List.range,List.range.loop,List.filter,qPw,qPx];rfl
structure VG(v:World):Prop where
 gl:Gl v
 glf:GlF v
 rows:∀x,glP x=true->qIj v x
theorem VG.old{v v':World}(h:VG v)(k:Old v v'):VG v':=by
 refine⟨?_,h.glf.old k,fun x hx=>?_⟩
 ·obtain⟨t,fr,hb⟩:=h.gl;exact⟨t,fr,k.at hb⟩
 ·obtain⟨c,e,f,hc⟩:=h.rows x hx;exact⟨c,e,f,k.at hc⟩
theorem VG.re{v:World}(h:VG v)(T:Nat->Question->Nat)(d:Nat):VG (v.re T d):=h.old (Old.heap rfl)
structure DocV(v:World)(db:Nat)(s:ByteArray):Prop where
 size:s.size<=2000
 ok:(qAs s).2.2=0
 doc:∃B,Dc v B db (qAs s).2.1
theorem Dc.old{v v':World}{B db:Nat}{b:BS}(h:Dc v B db b)(k:Old v v'):Dc v' B db b:=by
 obtain⟨ve,avs,h1,h2,h3,h4⟩:=h;exact⟨ve,avs,k.at h1,h2,k.owns h3,fun i x a hx ha=>k.owns (h4 i x a hx ha)⟩
theorem DocV.old{v v':World}{db:Nat}{s:ByteArray}(h:DocV v db s)(k:Old v v'):DocV v' db s:=by
 obtain⟨B,hd⟩:=h.doc;exact⟨h.size,h.ok,B,Dc.old hd k⟩
structure SelV(v:World)(sb:Nat)(s:ByteArray)(l:qAg):Prop where
 comp:qB1 s=(0,0,some l)
 sel:∃lv A P,v.heap[sb]? = some (.cells #[lv] 96 (0,0))/\A.length<=s.size/\RepL A P v (s.size+1) lv l
theorem qQF{s:ByteArray}{l:qAg}(h:qB1 s=(0,0,some l)):wfN (s.size+1) l/\s.size<=200:=by
 unfold qB1 at h;split at h
 ·cases h
 ·rename_i hs;split at h
  ·cases h
  ·rename_i q l0 cn d hx;refine⟨?_,by omega⟩;have hl:l0=l:=by
    split at h
    ·cases h
    ·split at h
     ·cases h
     ·simp only[Prod.mk.injEq,Option.some.injEq,true_and]at h;exact h
   rw[<-hl];exact(qNV s (s.size+1) 0 (l0,cn,d) (Nat.zero_le _) (by rw[hx])).1
theorem SelV.old{v v':World}{sb:Nat}{s:ByteArray}{l:qAg}(h:SelV v sb s l)(k:Old v v'):SelV v' sb s l:=by
 obtain⟨lv,A,P,h1,h2,h3⟩:=h.sel;exact⟨h.comp,lv,A,P,k.at h1,h2,h3.map fun g c t hp hg _=>⟨hp,k.at hg⟩⟩
theorem qKa{v:World}{db sb:Nat}{sd ss:ByteArray}{l:qAg}(V:VG v)(D:DocV v db sd)(S:SelV v sb ss l) :
  ∃lv A,v.cell? ⟨sb,0,none⟩=some lv/\AllSpec alM alF glP v (.pointer (some ⟨db,0,none⟩)) lv (qAs sd).2.1.els.length (qDV (qAs sd).2.1 l) (Fnd db (qAs sd).2.1 A lv (ss.size+1) l) (Lay db (qAs sd).2.1 A lv (ss.size+1) l)/\Look v db (qAs sd).2.1 A lv (ss.size+1) l:=by
 obtain⟨lv,A,P,h1,h2,h3⟩:=S.sel;obtain⟨B,hd⟩:=D.doc;obtain⟨hw,hs⟩:=qQF S.comp;have hb:=qKX D.size D.ok;refine⟨lv,A,cell_of_one h1,qSH hd hb h3 hw (by omega) V.glf V.rows,⟨Dc.toC (CellsTo.refl v) hd,V.glf,hb,by omega⟩,hw,(RepL.toC (CellsTo.refl v) h3).1⟩
theorem qU1(s:ByteArray)(v:World)(hm:s.size<=140737488351232)(V:VG v) :
  Calls prog 21 #[.string s] v fun e v'=>∃x,e=.returned x/\Old v v'/\((qD4 s=0/\∃db,x=.tuple #[.pointer (some ⟨db,0,none⟩),.nilIface]/\DocV v' db s)\/(qD4 s≠0/\∃k,x=.tuple #[.pointer none,.iface 107 (.pointer (some ⟨k,0,none⟩))])):=by
 refine(qRC s v hm V.gl).mono ?_;rintro e v'⟨hb,⟨hc,db,rfl,-,hd⟩|⟨hc,x,rfl,hr⟩⟩
 ·refine⟨_,rfl,.ofBelow hb,.inl ⟨hc,db,rfl,?_,?_,_,hd⟩⟩
  ·unfold qD4 at hc;split at hc
   ·cases hc
   ·omega
  ·unfold qD4 at hc;split at hc
   ·cases hc
   ·exact hc
 ·obtain⟨k,u,n,rfl,-⟩:=hr;exact⟨_,rfl,.ofBelow hb,.inr ⟨hc,k,rfl⟩⟩
theorem qQG(s:ByteArray)(v:World) :
  Calls prog 29 #[.string s] v fun e v'=>∃x,e=.returned x/\Old v v'/\((∃l sb,x=.tuple #[.pointer (some ⟨sb,0,none⟩),.nilIface]/\SelV v' sb s l)\/((qB1 s).1≠0/\∃k,x=.tuple #[.pointer none,.iface 107 (.pointer (some ⟨k,0,none⟩))])):=by
 refine(qMG s v).mono ?_;rintro e v'⟨hb,⟨l,sb,lv,A1,hc,rfl,-,h1,h2,h3⟩|⟨-,hc,x,rfl,hr⟩⟩
 ·exact⟨_,rfl,.ofBelow hb,.inl ⟨l,sb,rfl,hc,lv,A1,_,h1,h2,h3⟩⟩
 ·obtain⟨k,u,n,rfl,-⟩:=hr;exact⟨_,rfl,.ofBelow hb,.inr ⟨hc,k,rfl⟩⟩
section
variable{P:Program}{F:Fr0 P}{Ends:Machine->Trace->Prop}{al:Cfg}{gl:Nat->Bool}{Q:Exit->Act->World->Prop}{a:Act}{v:World}
theorem qSG(a:Act)(n:Nat)(h:a.tmps.size=n)(hd:a.defers=[]):a={ tmps:=((List.range n).map fun i=>a.eval (.tmp i)).toArray,defers:=[] }:=by
 obtain⟨t,ds⟩:=a;subst hd;congr 1;apply Array.ext
 ·simpa using h
 ·intro i h1 h2;simp[Act.eval,h1]
theorem qHW{c:Code}{n:Nat}(hsz:a.tmps.size=n)(hd:a.defers=[])(h:wpV P al gl F Ends c Q { tmps:=((List.range n).map fun i=>a.eval (.tmp i)).toArray,defers:=[] } v):wpV P al gl F Ends c Q a v:=by
 rw[qSG a n hsz hd];exact h
theorem qB6(S:Setup P al gl (fun r=>r<0))(hE:EndsCl P Ends){ops:Array Oper}{i:Nat}{rest:List Nat}{o:Oper}(d:Nat)(x:Operand)(k:Nat)(t:Array Value)(y:Value)(ho:ops[i]? = some o)(hop:o.op=.extract x k)(hg:o.guard=none)(hd:o.dst=some d)(ht:a.eval x=.tuple t)(hy:t[k]? = some y)(h:qFp P al gl F Ends ops rest Q (a.put (some d) y) v):qFp P al gl F Ends ops (i::rest) Q a v:=by
 refine qCY S hE ho (by rw[hop];rfl) (by simp[Region.wanted,hg]) fun T d'=>⟨y,v.re T d',?_,?_⟩
 ·unfold execOp;rw[hop];simp only[];rw[ht];simp[go_sem,hy]
 ·rw[hd];exact fun b k cs hb hc T' d'=>h b k cs hb hc T' d'
end
section
variable{F:Fr0 prog}{Ends:Machine->Trace->Prop}{Q:Exit->Act->World->Prop}{a:Act}{v:World}{ops:Array Oper}{i:Nat}{rest:List Nat}{o:Oper}{ats:Array TypeId}
theorem qGP(hE:EndsCl prog Ends)(V:VG v)(s:ByteArray)(hs:s.size<=140737488351232)(x:Operand)(ho:ops[i]? = some o)(hop:o.op=.call { callee:=.value (.func 21),args:=#[x],argTypes:=ats })(hg:o.guard=none)(d:Nat)(hd:o.dst=some d)(hx:a.eval x=.string s)
  (hnext:∀y v1,Old v v1->((qD4 s=0/\∃db,y=.tuple #[.pointer (some ⟨db,0,none⟩),.nilIface]/\DocV v1 db s)\/(qD4 s≠0/\∃k,y=.tuple #[.pointer none,.iface 107 (.pointer (some ⟨k,0,none⟩))]))->qFp prog alM glP F Ends ops rest Q (a.put (some d) y) v1):qFp prog alM glP F Ends ops (i::rest) Q a v:=by
 refine qEH qEQ hE (Post:=fun y v1=>Old v v1/\((qD4 s=0/\∃db,y=.tuple #[.pointer (some ⟨db,0,none⟩),.nilIface]/\DocV v1 db s)\/(qD4 s≠0/\∃k,y=.tuple #[.pointer none,.iface 107 (.pointer (some ⟨k,0,none⟩))]))) ho (by simp[Region.wanted,hg]) hop (by kernel_rfl) func21 rfl rfl (fun y w T d h=>⟨h.1.trans (Old.heap rfl),h.2.imp (fun⟨h1,db,h2,h3⟩=>⟨h1,db,h2,h3.old (Old.heap rfl)⟩) id⟩) (fun T=>?_) fun y v1 h=>by rw[hd];exact hnext y v1 h.1 h.2
 simp only[List.map_toArray,List.map_cons,List.map_nil,hx];refine(qU1 s (v.re T 0) hs (V.re T 0)).mono ?_;rintro e v'⟨y,rfl,h1,h2⟩;exact⟨y,rfl,(Old.heap rfl:Old v (v.re T 0)).trans h1,h2⟩
theorem qEI(hE:EndsCl prog Ends)(s:ByteArray)(x:Operand)(ho:ops[i]? = some o)(hop:o.op=.call { callee:=.value (.func 29),args:=#[x],argTypes:=ats })(hg:o.guard=none)(d:Nat)(hd:o.dst=some d)(hx:a.eval x=.string s)
  (hnext:∀y v1,Old v v1->((∃l sb,y=.tuple #[.pointer (some ⟨sb,0,none⟩),.nilIface]/\SelV v1 sb s l)\/((qB1 s).1≠0/\∃k,y=.tuple #[.pointer none,.iface 107 (.pointer (some ⟨k,0,none⟩))]))->qFp prog alM glP F Ends ops rest Q (a.put (some d) y) v1):qFp prog alM glP F Ends ops (i::rest) Q a v:=by
 refine qEH qEQ hE (Post:=fun y v1=>Old v v1/\((∃l sb,y=.tuple #[.pointer (some ⟨sb,0,none⟩),.nilIface]/\SelV v1 sb s l)\/((qB1 s).1≠0/\∃k,y=.tuple #[.pointer none,.iface 107 (.pointer (some ⟨k,0,none⟩))]))) ho (by simp[Region.wanted,hg]) hop (by kernel_rfl) func29 rfl rfl (fun y w T d h=>⟨h.1.trans (Old.heap rfl),h.2.imp (fun⟨l,sb,h2,h3⟩=>⟨l,sb,h2,h3.old (Old.heap rfl)⟩) id⟩) (fun T=>?_) fun y v1 h=>by rw[hd];exact hnext y v1 h.1 h.2
 simp only[List.map_toArray,List.map_cons,List.map_nil,hx];refine(qQG s (v.re T 0)).mono ?_;rintro e v'⟨y,rfl,h1,h2⟩;exact⟨y,rfl,(Old.heap rfl:Old v (v.re T 0)).trans h1,h2⟩
end
noncomputable def qGc:Code:=Tryz.f28.body.getD .skip
noncomputable def part28:Code:=match qGc with|.seq _ (.seq _ (.seq _ (.seq x _)))=>x|_=>.skip
noncomputable def rest28:Code:=match qGc with|.seq _ (.seq _ (.seq _ (.seq _ (.seq _ x))))=>x|_=>.skip
noncomputable def qUy(n:Nat):Array Oper:=match n,qGc with
 |1,.seq _ (.seq (.region _ ops _) _)=>ops
 |2,.seq _ (.seq _ (.seq (.region _ ops _) _))=>ops
 |5,.seq _ (.seq _ (.seq _ (.seq _ (.seq (.region _ ops _) _))))=>ops
 |_,_=>#[]
theorem qXO:qA4 prog alM glP false part28=true:=by kernel_rfl
theorem qWs:qA4 prog alM glP false rest28=true:=by kernel_rfl
theorem qWr:qA4 prog alM glP true qGc=true:=by kernel_rfl
theorem qWU(f:Nat->Value)(w:World)(db sb:Nat)(h1:f 1=.pointer (some ⟨db,0,none⟩))(h2:f 2=.nilIface)(h3:f 3=.pointer (some ⟨sb,0,none⟩))(h4:f 4=.nilIface) :
  part28.wp prog (fun|.normal=>fun a' w'=>w'.heap=w.heap/\a'.tmps.size=45/\a'.defers=[]/\a'.eval (.tmp 1)=.pointer (some ⟨db,0,none⟩)/\a'.eval (.tmp 3)=.pointer (some ⟨sb,0,none⟩)|.ret=>fun _ _=>False|_=>fun _ _=>False) { tmps:=((List.range 45).map f).toArray,defers:=[] } w:=by
 simp only[part28,qGc,Tryz.f28,Option.getD_some];simp only[List.range,List.range.loop,List.map,h1,h2,h3,h4];go_wp2
theorem qTK(f:Nat->Value)(w0 w:World)(k0:Old w0 w)(db:Nat)(x:Value)(h1:f 1=.pointer (some ⟨db,0,none⟩))(h5:f 5=x)(ht:TrC w db awkBS)(hb:BOk awkBS)(hx:IntsC w x [1]) :
  rest28.wp prog (fun|.normal=>fun _ _=>False|.ret=>fun a' w'=>Old w0 w'/\a'.defers=[]/\a'.eval (.tmp 0)=.bool true|_=>fun _ _=>False) { tmps:=((List.range 45).map f).toArray,defers:=[] } w:=by
 obtain⟨ao,cap,rfl,hc⟩:=hx;obtain⟨g,rfl,q0⟩:=hc 0 1 rfl;have HT:Hid (qM2 awkBS ⟨⟨#[112]⟩,-1,[],0,1⟩=⟨#[116]⟩):=by exact qAF (by rfl)
 simp only[rest28,qGc,Tryz.f28,Option.getD_some];simp only[List.range,List.range.loop,List.map,h1,h5];go_wp2_with fail
 refine(qML hb 0 ⟨⟨#[112]⟩,-1,[],0,1⟩ rfl w ht).mono ?_;rintro e w1⟨rfl,ho⟩;rw[HT.out];have k1:=k0.trans ho;go_wp2
section
variable{F:Fr0 prog}{Ends:Machine->Trace->Prop}{Q:Exit->Act->World->Prop}{a:Act}{v:World}{ops:Array Oper}{i:Nat}{rest:List Nat}{o:Oper}{ats:Array TypeId}
theorem qVi:BOk awkBS:=by
 have h:=qKX (s:=qWa) (by decide) (by rw[qFT]);rw[qFT]at h;exact h
theorem qUZ(hE:EndsCl prog Ends)(V:VG v){A0:Act}(s0:A0.tmps.size=45)(d0:A0.defers=[]){R:Value->World->Prop}(hnext:∀v1,Old v v1->R (.bool true) v1):wpV prog alM glP F Ends qGc (qWA prog Tryz.f28 R) A0 v:=by
 have S:=qEQ;obtain⟨o0,hb,g1,g2,g3⟩:∃o0:Oper,qGc=.seq (.region 0 #[o0] false) (.seq (.region 1 (qUy 1) false) (.seq (.region 2 (qUy 2) false) (.seq part28 (.seq (.region 5 (qUy 5) false) rest28))))/\o0.op=.assign (.const (.bool false))/\o0.guard=none/\o0.dst=some 0:=⟨_,rfl,rfl,rfl,rfl⟩;rw[hb];refine qAz S hE (qAx S hE ?_);refine qAb S hE (some 0) (.const (.bool false)) rfl (.inr g1) g2 g3 ?_;refine qBH S hE ?_;refine qAz S hE (qAx S hE ?_);refine qGP hE V qWa (by decide) _ rfl rfl rfl 7 rfl rfl ?_;rintro y v1 k1 (⟨-,db,rfl,D⟩|⟨hc,-⟩);rotate_left
 ·exact absurd (by unfold qD4;rw[qFT];rfl) hc
 refine qAb S hE (some 6) (.tmp 7) rfl (.inl rfl) rfl rfl ?_;refine qB6 S hE 8 (.tmp 6) 0 _ _ rfl rfl rfl rfl (by simp[qAA,qAB,s0];rfl) rfl ?_;refine qB6 S hE 9 (.tmp 6) 1 _ _ rfl rfl rfl rfl (by simp[qAA,qAB,s0];rfl) rfl ?_;refine qAb S hE (some 1) (.tmp 8) rfl (.inr rfl) rfl rfl ?_;refine qAb S hE (some 2) (.tmp 9) rfl (.inr rfl) rfl rfl ?_;refine qBH S hE ?_;generalize hA:Act.put _ (some 2) _=A1;have s1:A1.tmps.size=45:=by rw[<-hA];simp[qAB,s0]
 have d1:A1.defers=[]:=by rw[<-hA];simp[qAM,d0]
 have e1:A1.eval (.tmp 1)=.pointer (some ⟨db,0,none⟩):=by rw[<-hA];simp[qAA,qAB,s0]
 have e2:A1.eval (.tmp 2)=.nilIface:=by rw[<-hA];simp[qAA,qAB,s0]
 clear hA;refine qAz S hE (qAx S hE ?_);refine qEI hE qXA _ rfl rfl rfl 11 rfl rfl ?_;rintro y v2 k2 (⟨l,sb,rfl,Sl⟩|⟨hc,-⟩);rotate_left
 ·exact absurd (by rw[awk_comp]) hc
 obtain rfl:qVh=l:=by have:=awk_comp.symm.trans Sl.comp;simpa using this
 refine qAb S hE (some 10) (.tmp 11) rfl (.inl rfl) rfl rfl ?_;refine qB6 S hE 12 (.tmp 10) 0 _ _ rfl rfl rfl rfl (by simp[qAA,qAB,s1];rfl) rfl ?_;refine qB6 S hE 13 (.tmp 10) 1 _ _ rfl rfl rfl rfl (by simp[qAA,qAB,s1];rfl) rfl ?_;refine qAb S hE (some 3) (.tmp 12) rfl (.inr rfl) rfl rfl ?_;refine qAb S hE (some 4) (.tmp 13) rfl (.inr rfl) rfl rfl ?_;refine qBH S hE ?_;generalize hA:Act.put _ (some 4) _=A2;have s2:A2.tmps.size=45:=by rw[<-hA];simp[qAB,s1]
 have d2:A2.defers=[]:=by rw[<-hA];simp[qAM,d1]
 have f1:A2.eval (.tmp 1)=.pointer (some ⟨db,0,none⟩):=by rw[<-hA];simp[qAA,qAB,s1,e1]
 have f2:A2.eval (.tmp 2)=.nilIface:=by rw[<-hA];simp[qAA,qAB,s1,e2]
 have f3:A2.eval (.tmp 3)=.pointer (some ⟨sb,0,none⟩):=by rw[<-hA];simp[qAA,qAB,s1]
 have f4:A2.eval (.tmp 4)=.nilIface:=by rw[<-hA];simp[qAA,qAB,s1]
 clear hA e1 e2;refine qAz S hE (qHW s2 d2 (qHX S hE qXO (Qn:=fun a' w'=>w'.heap=v2.heap/\a'.tmps.size=45/\a'.defers=[]/\a'.eval (.tmp 1)=.pointer (some ⟨db,0,none⟩)/\a'.eval (.tmp 3)=.pointer (some ⟨sb,0,none⟩)) (Qr:=fun _ _=>False) (fun _ _ _ _ h=>h) (fun _ _ _ _ h=>h) (fun T=>qWU _ (v2.re T 0) db sb f1 f2 f3 f4) ?_ fun _ _ h=>h.elim));rintro A3 v3⟨k3,s3,d3,h1,h3⟩;have o3:Old v v3:=(k1.trans k2).trans (Old.heap k3);have D3:=D.old (k2.trans (Old.heap k3));have Sl3:=Sl.old (Old.heap k3);obtain⟨lv,AA,hlv,spec,look⟩:=qKa (V.old o3) D3 Sl3;rw[qFT]at spec look;dsimp only at spec look;have hn:awkBS.els.length=2:=rfl;rw[hn]at spec;refine qAz S hE (qAx S hE ?_);refine qAb S hE (some 28) (.tmp 1) rfl (.inl rfl) rfl rfl ?_;refine qAb S hE (some 29) (.tmp 3) rfl (.inl rfl) rfl rfl ?_;refine qFC hE rfl spec (by omega) hlv rfl rfl 30 rfl rfl rfl rfl (by simp[qAA,qAB,s3,h1]) (by simp[qAA,qAB,s3,h3]) ?_;intro z v4 hz;rw[qPy]at hz;refine qAb S hE (some 5) (.tmp 30) rfl (.inr rfl) rfl rfl ?_;refine qBH S hE ?_;have o4:Old v3 v4:=⟨hz.size,fun k hk=>hz.old k hk⟩;generalize hA:Act.put _ (some 5) _=A4;have s4:A4.tmps.size=45:=by rw[<-hA];simp[qAB,s3]
 have d4:A4.defers=[]:=by rw[<-hA];simp[qAM,d3]
 have q1:A4.eval (.tmp 1)=.pointer (some ⟨db,0,none⟩):=by rw[<-hA];simp[qAA,qAB,s3,h1]
 have q5:A4.eval (.tmp 5)=z:=by rw[<-hA];simp[qAA,qAB,s3]
 clear hA;have hxs:=IntsC.of hz.row;refine qHW s4 d4 (qHX S hE qWs (Qn:=fun _ _=>False) (Qr:=fun a' w'=>Old v4 w'/\a'.defers=[]/\a'.eval (.tmp 0)=.bool true) (fun _ _ _ _ h=>h) (fun _ _ _ _ h=>⟨h.1.trans (Old.heap rfl),h.2⟩) (fun T=>?_) (fun _ _ h=>h.elim) ?_)
 ·have k0:Old v4 (v4.re T 0):=Old.heap rfl;exact qTK (fun i=>A4.eval (.tmp i)) v4 (v4.re T 0) k0 db z q1 q5 ((look.old o4).old k0).env.tree qVi (hxs.old k0)
 ·rintro A5 v5 ⟨k5,d5,h0⟩;refine⟨d5,.bool true,fun T d=>?_,hnext v5 ((o3.trans o4).trans k5)⟩;exact(results_tmp (fn:=Tryz.f28) (t:=0) rfl _ _ _).trans (congrArg (fun y=>Result.ok y _) h0)
theorem qPA(hE:EndsCl prog Ends)(V:VG v)(ho:ops[i]? = some o)(hop:o.op=.call { callee:=.value (.func 28),args:=#[],argTypes:=ats })(hg:o.guard=none)
  (hnext:∀v1,Old v v1->qFp prog alM glP F Ends ops rest Q (a.put o.dst (.bool true)) v1):qFp prog alM glP F Ends ops (i::rest) Q a v:=by
 have S:=qEQ;refine qGO S hE ho (fun ts=>by simp[Region.wanted,hg]) hop (by intro z hz;simp at hz) func28 rfl rfl qWr (qUZ hE V (by simp) rfl hnext)
end
section
variable{N:Nat}{mP:Nat->Bool}{par:Nat->Int}
end
noncomputable def qNE:Code:=Tryz.f11.body.getD .skip
noncomputable def qJB(n:Nat):Code:=match n,qNE with
 |4,.seq _ (.seq _ (.seq _ (.seq _ (.seq x _))))=>x
 |6,.seq _ (.seq _ (.seq _ (.seq _ (.seq _ (.seq x _)))))=>x
 |10,.seq _ (.seq _ (.seq _ (.seq _ (.seq _ (.seq _ (.seq _ (.seq _ (.seq x _))))))))=>x
 |12,.seq _ (.seq _ (.seq _ (.seq _ (.seq _ (.seq _ (.seq _ (.seq _ (.seq _ (.seq x _)))))))))=>x
 |14,.seq _ (.seq _ (.seq _ (.seq _ (.seq _ (.seq _ (.seq _ (.seq _ (.seq _ (.seq _ (.seq x _))))))))))=>x
 |19,.seq _ (.seq _ (.seq _ (.seq _ (.seq _ (.seq _ (.seq _ (.seq _ (.seq _ (.seq _ (.seq _ (.seq x _)))))))))))=>x
 |30,.seq _ (.seq _ (.seq _ (.seq _ (.seq _ (.seq _ (.seq _ (.seq _ (.seq _ (.seq _ (.seq _ (.seq _ x)))))))))))=>x
 |_,_=>.skip
section
variable{F:Fr0 prog}{Ends:Machine->Trace->Prop}{Q:Exit->Act->World->Prop}{a:Act}{v:World}{ops:Array Oper}{i:Nat}{rest:List Nat}{o:Oper}{ats:Array TypeId}
end
