/-
  Parts of the proof: XA, XB, XC, XD.
-/
import Derived.Test.YtclpcnignheijaaGreatDoorQ40
import Derived.Test.YtclpcnignheijaaGreatDoorQ31
set_option maxHeartbeats 4000000
set_option maxRecDepth 100000
namespace Go.Proofs.YtclpcnignheijaaGreatDoor.Num
open Go.RowKit Go.Conc Go.Proofs.Tryz
section
variable{n m:Nat}
theorem qTd(ih:∀l,wfL n l->wfL m l->qAR n l=qAR m l){x:Sim}(h1:wfS (wfL n) x)(h2:wfS (wfL m) x):qG8 (qAR n) x=qG8 (qAR m) x:=by
 obtain⟨k,x,a,t,l⟩:=x;have:qCx (qAR n) k x a t l=qCx (qAR m) k x a t l:=by
  unfold qCx;by_cases hk:9<=k
  ·rw[ih l (h1.2.2.1 hk).2 (h2.2.2.1 hk).2]
  ·simp only[if_neg hk]
 exact congrArg (fun y=>openW.getD k []++(y++qAq k)) this
theorem qEi{α β:Type}{f g:α->List β}:∀{l:List α},(∀x∈l,f x=g x)->l.flatMap f=l.flatMap g
 |[],_=>rfl
 |a::r,h=>by
  rw[List.flatMap_cons,List.flatMap_cons,h a (by simp),qEi fun x hx=>h x (by simp[hx])]
theorem qNI(ih:∀l,wfL n l->wfL m l->qAR n l=qAR m l){c:Cpx}(h1:wfC (wfL n) c)(h2:wfC (wfL m) c):qCD (qAR n) c=qCD (qAR m) c:=by
 refine qEi fun st hst=>?_;obtain⟨i,hi⟩:=List.getElem?_of_mem hst;unfold qTk qBS;rw[qEi fun x hx=>qTd ih ((h1 i st hi).1 x hx) ((h2 i st hi).1 x hx)]
end
theorem qIU:∀(n m:Nat)(l:qAg),wfL n l->wfL m l->qAR n l=qAR m l
 |0,0,_,_,_=>rfl
 |0,m+1,_,h,_=>by obtain rfl:_=[]:=h;rfl
 |n+1,0,_,_,h=>by obtain rfl:_=[]:=h;rfl
 |n+1,m+1,[],_,_=>rfl
 |n+1,m+1,c::r,h1,h2=>by
  show qCD (qAR n) c++_=qCD (qAR m) c++_;rw[qNI (qIU n m) (h1 c (by simp)) (h2 c (by simp)),qEi fun c hc=>congrArg (44::·) (qNI (qIU n m) (h1 c (by simp[hc])) (h2 c (by simp[hc])))]
theorem qIy{s:ByteArray}{l:qAg}(h:qB1 s=(0,0,some l)):∃c d,qAP s (s.size+1) 0=(s.size,some (l,c,d))/\¬(24<c\/4<1+d):=by
 unfold qB1 at h;split at h
 ·cases h
 ·split at h
  ·cases h
  ·rename_i q l0 cn d hx;split at h
   ·cases h
   ·rename_i hq;obtain rfl:q=s.size:=Classical.not_not.1 hq;split at h
    ·cases h
    ·rename_i hl;simp only[Prod.mk.injEq,Option.some.injEq,true_and]at h;subst h;exact⟨cn,d,hx,hl⟩
def qG7(s:ByteArray)(l:qAg):ByteArray:=bytesOf (qAR (s.size+1) l)
theorem qLx(s:ByteArray)(l:qAg):(qG7 s l).data.toList=qAR (s.size+1) l:=by simp[qG7,bytesOf]
theorem qHE{s:ByteArray}{l:qAg}(h:qB1 s=(0,0,some l)):wfL (s.size+1) l/\(qAR (s.size+1) l).length<=1000000/\qAR (s.size+1) l≠[]:=by
 obtain⟨c,d,h1,-⟩:=qIy h;have:=qOw (s:=s) (n:=s.size+1) (p:=0) (x:=(l,c,d)) (Nat.zero_le _) (by rw[h1]);have hs:=(qQF h).2;refine⟨this.1,?_,this.2.2⟩;have:=this.2.1;dsimp only at this;omega
theorem qOc{s:ByteArray}{l:qAg}(h:qB1 s=(0,0,some l))(hl:(qG7 s l).size<=200):qB1 (qG7 s l)=(0,0,some l)/\qG7 (qG7 s l) l=qG7 s l:=by
 obtain⟨c,d,h1,h2⟩:=qIy h;have h3:=qK2 (s:=qG7 s l) (by omega) (qOx h1 (qLx s l)) rfl h2;refine⟨h3,?_⟩;have e:=qIU ((qG7 s l).size+1) (s.size+1) l (qHE h3).1 (qHE h).1;show bytesOf (qAR ((qG7 s l).size+1) l)=_;rw[e];rfl
def qF8(s:ByteArray):ByteArray:=⟨((qG0 (qAs s).2.1).getD []).toArray⟩
theorem qQN{s:ByteArray}(hs:s.size<=2000)(h:(qAs s).2.2=0):qG0 (qAs s).2.1=some (qF8 s).data.toList/\(qF8 s).data.toList.length<=12000/\qAs (qF8 s)=((qF8 s).size,(qAs s).2.1,0)/\qF8 (qF8 s)=qF8 s:=by
 obtain⟨out,h1,h2,h3,-⟩:=qLA h;have e:(qF8 s).data.toList=out:=by simp[qF8,h1]
 have e3:=h3 (qF8 s) e;refine⟨by rw[e];exact h1,by rw[e];omega,e3,?_⟩;unfold qF8;rw[show(qAs ⟨((qG0 (qAs s).2.1).getD []).toArray⟩)=qAs (qF8 s) from rfl,e3]
theorem Tb.old{v v':World}(h:Tb v)(k:Old v v'):Tb v':=h.low (k.block _ h.lt)
theorem qV0{n:ByteArray}(h:NmOk n):n.size<=16:=by
 obtain⟨c,r,h1,-,-,h2⟩:=h;have:n.size=n.data.toList.length:=by rw[Array.length_toList];rfl
 rw[this,h1,List.length_cons];omega
theorem qVR{s:ByteArray}(hs:s.size<=2000)(h:(qAs s).2.2=0):(qAs s).2.1.txt.length<=5000:=by
 obtain⟨⟨q,hq,hb⟩,-⟩:=qFD (s:=s) (s.size+1) 0 b0 false (Nat.zero_le _) qUa ⟨by intro i x h;simp[b0]at h,by intro i x h;simp[b0]at h⟩ h;have e:qAr s (s.size+1) 0 b0 false=qAs s:=rfl;rw[e]at hb;have:=hb.tlen;omega
theorem qR6{v:World}{db:Nat}{s:ByteArray}(V:VG v)(D:DocV v db s) :
  Calls prog 15 #[.pointer (some ⟨db,0,none⟩)] v fun e v'=>e=.returned (.string (qF8 s))/\Old v v':=by
 obtain⟨B,hd⟩:=D.doc;have hb:=qKX D.size D.ok;obtain⟨h1,h2,-⟩:=qQN D.size D.ok;obtain⟨-,-,-,-,h3⟩:=qLA D.ok;obtain⟨t,fr,hgl⟩:=V.gl;refine(qOf v.heap.size db (qAs s).2.1 _ v hd (Nat.le_refl _) V.gl (lt_of_block hgl) (qVR D.size D.ok) hb.n (fun i x hx=>qV0 (h3 i x hx).1) (fun i x hx=>⟨(hb.ats i x hx).1,fun p hp=>⟨?_,?_⟩⟩) h1 (by omega)).mono ?_
 ·obtain⟨pre,post,e⟩:=List.append_of_mem hp;exact qV0 ((h3 i x hx).2 pre p post e).1
 ·have:=((hb.ats i x hx).2 p hp).1;omega
 rintro e v'⟨rfl,hk⟩;exact⟨rfl,.ofBelow (hk.below (Nat.le_refl _))⟩
theorem qJP{v:World}{sb:Nat}{s:ByteArray}{l:qAg}(hT:Tb v)(S:SelV v sb s l) :
  Calls prog 18 #[.pointer (some ⟨sb,0,none⟩)] v fun e v'=>e=.returned (.string (qG7 s l))/\Old v v':=by
 obtain⟨lv,A,P,h1,-,h3⟩:=S.sel;obtain⟨w1,w2,w3⟩:=qHE S.comp;refine(qLy (s.size+1) sb lv l v h1 hT ((qNd _ h3).map fun g c t _ hg _=>⟨trivial,hg⟩) w1 w2 w3).mono ?_;rintro e v'⟨rfl,hb⟩;exact⟨rfl,.ofBelow hb⟩
section
variable{F:Fr0 prog}{Ends:Machine->Trace->Prop}{Q:Exit->Act->World->Prop}{a:Act}{v:World}{ops:Array Oper}{i:Nat}{rest:List Nat}{o:Oper}{ats:Array TypeId}
theorem qPB(hE:EndsCl prog Ends)(V:VG v){db:Nat}{s:ByteArray}(D:DocV v db s)(x:Operand)(ho:ops[i]? = some o)(hop:o.op=.call { callee:=.value (.func 15),args:=#[x],argTypes:=ats })(hg:o.guard=none)(d:Nat)(hd:o.dst=some d)(hx:a.eval x=.pointer (some ⟨db,0,none⟩))
  (hnext:∀v1,Old v v1->qFp prog alM glP F Ends ops rest Q (a.put (some d) (.string (qF8 s))) v1):qFp prog alM glP F Ends ops (i::rest) Q a v:=by
 refine qEH qEQ hE (Post:=fun y v1=>Old v v1/\y=.string (qF8 s)) ho (by simp[Region.wanted,hg]) hop (by kernel_rfl) func15 rfl rfl (fun y w T d h=>⟨h.1.trans (Old.heap rfl),h.2⟩) (fun T=>?_) fun y v1 h=>by rw[hd,h.2];exact hnext v1 h.1
 simp only[List.map_toArray,List.map_cons,List.map_nil,hx];refine(qR6 (V.re T 0) (D.old (Old.heap rfl))).mono ?_;rintro e v'⟨rfl,h1⟩;exact⟨_,rfl,(Old.heap rfl:Old v (v.re T 0)).trans h1,rfl⟩
theorem qKC(hE:EndsCl prog Ends)(hT:Tb v){sb:Nat}{s:ByteArray}{l:qAg}(S:SelV v sb s l)(x:Operand)(ho:ops[i]? = some o)(hop:o.op=.call { callee:=.value (.func 18),args:=#[x],argTypes:=ats })(hg:o.guard=none)(d:Nat)(hd:o.dst=some d)(hx:a.eval x=.pointer (some ⟨sb,0,none⟩))
  (hnext:∀v1,Old v v1->qFp prog alM glP F Ends ops rest Q (a.put (some d) (.string (qG7 s l))) v1):qFp prog alM glP F Ends ops (i::rest) Q a v:=by
 refine qEH qEQ hE (Post:=fun y v1=>Old v v1/\y=.string (qG7 s l)) ho (by simp[Region.wanted,hg]) hop (by kernel_rfl) func18 rfl rfl (fun y w T d h=>⟨h.1.trans (Old.heap rfl),h.2⟩) (fun T=>?_) fun y v1 h=>by rw[hd,h.2];exact hnext v1 h.1
 simp only[List.map_toArray,List.map_cons,List.map_nil,hx];refine(qJP (v:=v.re T 0) (Tb.old hT (Old.heap rfl)) (S.old (Old.heap rfl))).mono ?_;rintro e v'⟨rfl,h1⟩;exact⟨_,rfl,(Old.heap rfl:Old v (v.re T 0)).trans h1,rfl⟩
end
section
variable{db:Nat}{b:BS}
theorem qQM(hb:BOk b)(m:Nat)(x:El)(hx:b.els[m]? = some x)(w:World)(ht:TrC w db b):Calls prog 30 #[.pointer (some ⟨db,0,none⟩),.int .i64 (m:Int)] w fun e w'=>e=.returned (.string x.name)/\w'=w:=by
 go_enter func30,ntmps30
 go_wp2_with fail
 refine(qQx db b m x _ ht hx hb.n).mono ?_;rintro e w1⟨rfl,rfl⟩;go_wp2
 go_ret
 exact⟨rfl,rfl⟩
end
theorem same_q(w:World)(x y:Value)(L:List Int)(hx:IntsC w x L)(hy:IntsC w y L)(hl:L.length<=5000):Calls prog 32 #[x,y] w fun e w'=>e=.returned (.bool true)/\Old w w':=by
 obtain⟨ao,cap,rfl,hc⟩:=hx;obtain⟨bo,cbp,rfl,hd⟩:=hy;go_enter func32,ntmps32
 go_wp2
 go_loopw [5] (fun iv wr=>∃i:Nat,iv=.int .i64 (i:Int)/\i<=L.length/\Old w wr) (fun iv _=>((L.length:Int)-intOf iv).toNat)
 case atStart=>exact⟨0,rfl,Nat.zero_le _,.refl w⟩
 case round =>
  obtain⟨i,rfl,hi,ho⟩:=hrel;by_cases hlt:i<L.length
  ·obtain⟨v,hv⟩:∃v,L[i]? = some v:=⟨L[i],List.getElem?_eq_getElem hlt⟩;obtain⟨g,rfl,q0⟩:=hc i v hv;obtain⟨g',rfl,q1⟩:=hd i v hv;have p0:=ho.cells _ _ q0;have p1:=ho.cells _ _ q1;have hlt':(i:Int)<(L.length:Int):=by omega
   clear hv q0 q1 hc hd;go_wp2
   go_region
   all_goals
    go_wp2
    go_roundw
    case rel=>exact⟨i+1,by go_num,by omega,ho.trans (Old.heap rfl)⟩
    case measure=>simp[intOf];omega
  ·have hlt':¬(i:Int)<(L.length:Int):=by omega
   go_wp2
   go_ret
   exact⟨rfl,ho⟩
noncomputable def qDL:Code:=Tryz.f7.body.getD .skip
noncomputable def qBe(k:Nat):Code:=qOl (qKj k qDL)
noncomputable def qS8(k:Nat):Array Oper:=qXU (qBe k)
theorem qWp:qA4 prog alM glP false (qBe 4)=true:=by kernel_rfl
theorem qV5:qA4 prog alM glP false (qBe 5)=true:=by kernel_rfl
theorem qV6:qA4 prog alM glP false (qBe 7)=true:=by kernel_rfl
theorem qWq:qA4 prog alM glP false (qBe 9)=true:=by kernel_rfl
theorem qV2:qA4 prog alM glP false (qBe 10)=true:=by kernel_rfl
theorem qUB:qA4 prog alM glP false (qBe 11)=true:=by kernel_rfl
theorem qUC:qA4 prog alM glP false (qBe 13)=true:=by kernel_rfl
theorem qV3:qA4 prog alM glP false (qBe 15)=true:=by kernel_rfl
theorem qV4:qA4 prog alM glP false (qKj 18 qDL)=true:=by kernel_rfl
theorem qXP:qA4 prog alM glP true qDL=true:=by kernel_rfl
theorem qWS:∃o0:Oper,qDL=.seq (.region 0 #[o0] false) (.seq (.region 1 (qS8 1) false) (.seq (.region 2 (qS8 2) false) (.seq (.region 3 (qS8 3) false) (.seq (qBe 4) (.seq (qBe 5) (.seq (.region 8 (qS8 6) false) (.seq (qBe 7) (.seq (.region 11 (qS8 8) false) (.seq (qBe 9) (.seq (qBe 10) (.seq (qBe 11) (.seq (.region 21 (qS8 12) false) (.seq (qBe 13) (.seq (.region 24 (qS8 14) false) (.seq (qBe 15) (.seq (.region 27 (qS8 16) false) (.seq (.region 28 (qS8 17) false) (qKj 18 qDL))))))))))))))))))/\o0.op=.assign (.const (.bool false))/\o0.guard=none/\o0.dst=some 4:=⟨_,rfl,rfl,rfl,rfl⟩
section
variable{f:Nat->Value}{w:World}{db cb sb tb:Nat}{b:BS}
theorem n4(dv ev sv fv:Value)(h5:f 5=.bool true)(h6:f 6=dv)(h7:f 7=ev)(h8:f 8=sv)(h9:f 9=fv)(hd:(∃db,dv=.pointer (some ⟨db,0,none⟩)/\ev=.nilIface)\/∃k,dv=.pointer none/\ev=.iface 107 (.pointer (some ⟨k,0,none⟩)))(hs:(∃db,sv=.pointer (some ⟨db,0,none⟩)/\fv=.nilIface)\/∃k,sv=.pointer none/\fv=.iface 107 (.pointer (some ⟨k,0,none⟩))) :
  (qBe 4).wp prog (qCv fun a' w'=>w'=w/\qEp 141 [(6,dv),(8,sv)] a') { tmps:=((List.range 141).map f).toArray,defers:=[] } w:=by
 rcases hd with⟨db,rfl,rfl⟩|⟨k,rfl,rfl⟩<;> rcases hs with⟨sb,rfl,rfl⟩|⟨k',rfl,rfl⟩
 all_goals
  simp only[qBe,qDL,Tryz.f7,Option.getD_some,qKj,qOl];simp only[List.range,List.range.loop,List.map,h5,h6,h7,h8,h9];go_wp2
  exact⟨rfl,rfl,rfl,by simp;exact⟨rfl,rfl⟩⟩
theorem n5(h6:f 6=.pointer (some ⟨db,0,none⟩)) :
  (qBe 5).wp prog (qCv fun a' w'=>w'=w/\qEp 141 [(6,.pointer (some ⟨db,0,none⟩)),(8,f 8)] a') { tmps:=((List.range 141).map f).toArray,defers:=[] } w:=by
 simp only[qBe,qDL,Tryz.f7,Option.getD_some,qKj,qOl];simp only[List.range,List.range.loop,List.map,h6];go_wp2
 exact⟨rfl,rfl,rfl,by simp;exact⟨rfl,rfl⟩⟩
theorem qWn(h6:f 6=.pointer none) :
  (qBe 5).wp prog (qFP fun a' w'=>w'=w/\a'.defers=[]/\a'.eval (.tmp 4)=.bool true) { tmps:=((List.range 141).map f).toArray,defers:=[] } w:=by
 simp only[qBe,qDL,Tryz.f7,Option.getD_some,qKj,qOl];simp only[List.range,List.range.loop,List.map,h6];go_wp2
 exact⟨rfl,rfl,rfl⟩
theorem n7(s:ByteArray)(hs:s.size<=2000)(h10:f 10=.string s) :
  (qBe 7).wp prog (qCv fun a' w'=>w'=w/\qEp 141 [(6,f 6),(8,f 8),(10,.string s)] a') { tmps:=((List.range 141).map f).toArray,defers:=[] } w:=by
 have hs':¬(2000:Int)<(s.size:Int):=by omega
 simp only[qBe,qDL,Tryz.f7,Option.getD_some,qKj,qOl];simp only[List.range,List.range.loop,List.map,h10];go_wp2
 exact⟨rfl,rfl,rfl,by simp;exact⟨rfl,rfl,rfl⟩⟩
theorem qWo(s:ByteArray)(hs:2000<s.size)(h2:s.size<=1000000)(h10:f 10=.string s) :
  (qBe 7).wp prog (qFP fun a' w'=>w'=w/\a'.defers=[]/\a'.eval (.tmp 4)=.bool true) { tmps:=((List.range 141).map f).toArray,defers:=[] } w:=by
 have hs':(2000:Int)<(s.size:Int):=by omega
 simp only[qBe,qDL,Tryz.f7,Option.getD_some,qKj,qOl];simp only[List.range,List.range.loop,List.map,h10];go_wp2
 exact⟨rfl,rfl,rfl⟩
theorem n9{s t:ByteArray}(V:VG w)(h6:f 6=.pointer (some ⟨db,0,none⟩))(h10:f 10=.string s)(h11:f 11=.pointer (some ⟨cb,0,none⟩))(h12:f 12=.nilIface)(C:DocV w cb t)(ht:qF8 t=s)(hd:TrC w db b)(hc:TrC w cb b)(_hb:b.els.length<=5000) :
  (qBe 9).wp prog (qCv fun a' w'=>Old w w'/\qEp 141 [(6,.pointer (some ⟨db,0,none⟩)),(8,f 8),(11,.pointer (some ⟨cb,0,none⟩))] a') { tmps:=((List.range 141).map f).toArray,defers:=[] } w:=by
 simp only[qBe,qDL,Tryz.f7,Option.getD_some,qKj,qOl];simp only[List.range,List.range.loop,List.map,h6,h10,h11,h12];have HT:=qAF ht;clear ht;go_wp2_with fail
 refine(qR6 V C).mono ?_;rintro e w1⟨rfl,o1⟩;rw[HT.out];have d1:=o1.tr hd;have c1:=o1.tr hc;go_wp2_with fail
 refine(qI0 _ c1).mono ?_;rintro e w2⟨rfl,rfl⟩;go_wp2_with fail
 refine(qI0 _ d1).mono ?_;rintro e w2⟨rfl,rfl⟩;go_wp2
 exact⟨o1,rfl,rfl,by simp;exact⟨rfl,rfl,rfl⟩⟩
theorem n10(h6:f 6=.pointer (some ⟨db,0,none⟩))(h11:f 11=.pointer (some ⟨cb,0,none⟩))(hb:BOk b)(hd:TrC w db b)(hc:TrC w cb b) :
  (qBe 10).wp prog (qCv fun a' w'=>Old w w'/\qEp 141 [(6,.pointer (some ⟨db,0,none⟩)),(8,f 8),(11,.pointer (some ⟨cb,0,none⟩))] a') { tmps:=((List.range 141).map f).toArray,defers:=[] } w:=by
 simp only[qBe,qDL,Tryz.f7,Option.getD_some,qKj,qOl];simp only[List.range,List.range.loop,List.map,h6,h11];have hbn:=hb.n;go_wp2_with fail
 go_loopg [13] b.els.length (fun g s13 wr=>∃n:Nat,n<=b.els.length/\g=b.els.length-n/\s13=.int .i64 (n:Int)/\Old w wr)
 case atStart=>exact⟨0,Nat.zero_le _,rfl,rfl,.refl w⟩
 case round =>
  obtain⟨n,hn,rfl,rfl,ho⟩:=hrel;have d1:=ho.tr hd;have c1:=ho.tr hc;by_cases hlt:n<b.els.length
  ·have hlt':(n:Int)<(b.els.length:Int):=by omega
   obtain⟨x,hx⟩:∃x,b.els[n]? = some x:=⟨_,List.getElem?_eq_getElem hlt⟩;have HX:=qAF hx;clear hx;go_wp2_with fail
   refine(qI0 _ d1).mono ?_;rintro e w1⟨rfl,rfl⟩;go_wp2_with fail
   refine(qQM hb n x HX.out _ c1).mono ?_;rintro e w1⟨rfl,rfl⟩;go_wp2_with fail
   refine(qQM hb n x HX.out _ d1).mono ?_;rintro e w1⟨rfl,rfl⟩;go_wp2_with fail
   refine(qLB hb n hlt _ c1).mono ?_;rintro e w1⟨rfl,rfl⟩;go_wp2_with fail
   refine(qLB hb n hlt _ d1).mono ?_;rintro e w1⟨rfl,rfl⟩;go_wp2_with fail
   refine(qML hb n x HX.out _ c1).mono ?_;rintro e w2⟨rfl,o2⟩;have d2:=o2.tr d1;go_wp2_with fail
   refine(qML hb n x HX.out _ d2).mono ?_;rintro e w3⟨rfl,o3⟩;go_wp2
   go_roundg (b.els.length-(n+1))
   case rel=>exact⟨n+1,by omega,rfl,by go_num,(ho.trans o2).trans o3⟩
   case measure=>omega
  ·have hlt':¬(n:Int)<(b.els.length:Int):=by omega
   go_wp2_with fail
   refine(qI0 _ d1).mono ?_;rintro e w1⟨rfl,rfl⟩;go_wp2
   exact⟨ho,rfl,rfl,by simp;exact⟨rfl,rfl,rfl⟩⟩
theorem n11(h8:f 8=.pointer (some ⟨sb,0,none⟩)) :
  (qBe 11).wp prog (qCv fun a' w'=>w'=w/\qEp 141 [(6,f 6),(8,.pointer (some ⟨sb,0,none⟩)),(11,f 11)] a') { tmps:=((List.range 141).map f).toArray,defers:=[] } w:=by
 simp only[qBe,qDL,Tryz.f7,Option.getD_some,qKj,qOl];simp only[List.range,List.range.loop,List.map,h8];go_wp2
 exact⟨rfl,rfl,rfl,by simp;exact⟨rfl,rfl,rfl⟩⟩
theorem qVw(h8:f 8=.pointer none) :
  (qBe 11).wp prog (qFP fun a' w'=>w'=w/\a'.defers=[]/\a'.eval (.tmp 4)=.bool true) { tmps:=((List.range 141).map f).toArray,defers:=[] } w:=by
 simp only[qBe,qDL,Tryz.f7,Option.getD_some,qKj,qOl];simp only[List.range,List.range.loop,List.map,h8];go_wp2
 exact⟨rfl,rfl,rfl⟩
theorem n13(s:ByteArray)(hs:s.size<=200)(h14:f 14=.string s) :
  (qBe 13).wp prog (qCv fun a' w'=>w'=w/\qEp 141 [(6,f 6),(8,f 8),(11,f 11),(14,.string s)] a') { tmps:=((List.range 141).map f).toArray,defers:=[] } w:=by
 have hs':¬(200:Int)<(s.size:Int):=by omega
 simp only[qBe,qDL,Tryz.f7,Option.getD_some,qKj,qOl];simp only[List.range,List.range.loop,List.map,h14];go_wp2
 exact⟨rfl,rfl,rfl,by simp;exact⟨rfl,rfl,rfl,rfl⟩⟩
theorem qVx(s:ByteArray)(hs:200<s.size)(h2:s.size<=1000000)(h14:f 14=.string s) :
  (qBe 13).wp prog (qFP fun a' w'=>w'=w/\a'.defers=[]/\a'.eval (.tmp 4)=.bool true) { tmps:=((List.range 141).map f).toArray,defers:=[] } w:=by
 have hs':(200:Int)<(s.size:Int):=by omega
 simp only[qBe,qDL,Tryz.f7,Option.getD_some,qKj,qOl];simp only[List.range,List.range.loop,List.map,h14];go_wp2
 exact⟨rfl,rfl,rfl⟩
theorem n15{s t:ByteArray}{l:qAg}(hT:Tb w)(h14:f 14=.string s)(h15:f 15=.pointer (some ⟨tb,0,none⟩))(h16:f 16=.nilIface)(S:SelV w tb t l)(ht:qG7 t l=s) :
  (qBe 15).wp prog (qCv fun a' w'=>Old w w'/\qEp 141 [(6,f 6),(8,f 8),(11,f 11),(15,.pointer (some ⟨tb,0,none⟩))] a') { tmps:=((List.range 141).map f).toArray,defers:=[] } w:=by
 simp only[qBe,qDL,Tryz.f7,Option.getD_some,qKj,qOl];simp only[List.range,List.range.loop,List.map,h14,h15,h16];have HT:=qAF ht;clear ht;go_wp2_with fail
 refine(qJP hT S).mono ?_;rintro e w1⟨rfl,o1⟩;rw[HT.out];go_wp2
 exact⟨o1,rfl,rfl,by simp;exact⟨rfl,rfl,rfl,rfl⟩⟩
theorem n18{x y:Value}{L:List Int}(h17:f 17=x)(h18:f 18=y)(hx:IntsC w x L)(hy:IntsC w y L)(hl:L.length<=5000) :
  (qKj 18 qDL).wp prog (qFP fun a' w'=>Old w w'/\a'.defers=[]/\a'.eval (.tmp 4)=.bool true) { tmps:=((List.range 141).map f).toArray,defers:=[] } w:=by
 simp only[qDL,Tryz.f7,Option.getD_some,qKj];simp only[List.range,List.range.loop,List.map,h17,h18];go_wp2_with fail
 refine(same_q _ _ _ L hx hy hl).mono ?_;rintro e w1⟨rfl,o1⟩;go_wp2
 exact⟨o1,rfl,rfl⟩
end
theorem qMl{F:Fr0 prog}{Ends:Machine->Trace->Prop}{v:World}(hE:EndsCl prog Ends)(V:VG v)(hT:Tb v)(doc sel:ByteArray)(hdoc:doc.size<=140737488351232){A0:Act}(s0:A0.tmps.size=141)(d0:A0.defers=[])(a0:A0.eval (.tmp 0)=.string doc)(a1:A0.eval (.tmp 1)=.string sel) :
  wpV prog alM glP F Ends qDL (qUN 4 v) A0 v:=by
 have S:=qEQ;obtain⟨o0,hb,g1,g2,g3⟩:=qWS;rw[hb];refine qAz S hE (qAx S hE ?_);refine qAb S hE (some 4) (.const (.bool false)) rfl (.inr g1) g2 g3 ?_;refine qBH S hE ?_;refine qAz S hE (qAx S hE ?_);refine qPA hE V rfl rfl rfl ?_;intro v1 k1;refine qAb S hE (some 5) (.tmp 19) rfl (.inr rfl) rfl rfl ?_;refine qBH S hE ?_;generalize hA:Act.put _ (some 5) _=A1;have s1:A1.tmps.size=141:=by rw[<-hA];simp[qAB,s0]
 have d1:A1.defers=[]:=by rw[<-hA];simp[qAM,d0]
 have x0:A1.eval (.tmp 0)=.string doc:=by rw[<-hA,show Oper.dst _=some 19 from rfl];simp[qAA,qAB,s0,a0]
 have x1:A1.eval (.tmp 1)=.string sel:=by rw[<-hA,show Oper.dst _=some 19 from rfl];simp[qAA,qAB,s0,a1]
 have x5:A1.eval (.tmp 5)=.bool true:=by rw[<-hA,show Oper.dst _=some 19 from rfl];simp[qAA,qAB,s0]
 clear hA;refine qAz S hE (qAx S hE ?_);refine qAb S hE (some 21) (.tmp 0) rfl (.inl rfl) rfl rfl ?_;refine qGP hE (V.old k1) doc hdoc _ rfl rfl rfl 22 rfl (by simp[qAA,s1,x0]) ?_;intro y v2 k2 hy0;obtain⟨dv,ev,rfl,hy⟩:∃dv ev,y=.tuple #[dv,ev]/\((∃db,dv=.pointer (some ⟨db,0,none⟩)/\ev=.nilIface/\DocV v2 db doc)\/∃k,dv=.pointer none/\ev=.iface 107 (.pointer (some ⟨k,0,none⟩))):=by
  rcases hy0 with⟨-,db,rfl,D⟩|⟨-,k,rfl⟩
  ·exact⟨_,_,rfl,.inl ⟨db,rfl,rfl,D⟩⟩
  ·exact⟨_,_,rfl,.inr ⟨k,rfl,rfl⟩⟩
 refine qAb S hE (some 20) (.tmp 22) rfl (.inl rfl) rfl rfl ?_;refine qB6 S hE 23 (.tmp 20) 0 #[dv,ev] dv rfl rfl rfl rfl (by simp[qAA,qAB,s1]) rfl ?_;refine qB6 S hE 24 (.tmp 20) 1 #[dv,ev] ev rfl rfl rfl rfl (by simp[qAA,qAB,s1]) rfl ?_;refine qAb S hE (some 6) (.tmp 23) rfl (.inr rfl) rfl rfl ?_;refine qAb S hE (some 7) (.tmp 24) rfl (.inr rfl) rfl rfl ?_;refine qBH S hE ?_;generalize hA:Act.put _ (some 7) _=A2;have s2:A2.tmps.size=141:=by rw[<-hA];simp[qAB,s1]
 have d2:A2.defers=[]:=by rw[<-hA];simp[qAM,d1]
 have y1:A2.eval (.tmp 1)=.string sel:=by rw[<-hA];simp[qAA,qAB,s1,x1]
 have y5:A2.eval (.tmp 5)=.bool true:=by rw[<-hA];simp[qAA,qAB,s1,x5]
 have y6:A2.eval (.tmp 6)=dv:=by rw[<-hA];simp[qAA,qAB,s1]
 have y7:A2.eval (.tmp 7)=ev:=by rw[<-hA];simp[qAA,qAB,s1]
 clear hA x0 x1 x5;have k02:Old v v2:=k1.trans k2;refine qAz S hE (qAx S hE ?_);refine qAb S hE (some 26) (.tmp 1) rfl (.inl rfl) rfl rfl ?_;refine qEI hE sel _ rfl rfl rfl 27 rfl (by simp[qAA,s2,y1]) ?_;intro y v3 k3 hz0;obtain⟨sv,fv,rfl,hz⟩:∃sv fv,y=.tuple #[sv,fv]/\((∃l sb,sv=.pointer (some ⟨sb,0,none⟩)/\fv=.nilIface/\SelV v3 sb sel l)\/∃k,sv=.pointer none/\fv=.iface 107 (.pointer (some ⟨k,0,none⟩))):=by
  rcases hz0 with⟨l,sb,rfl,D⟩|⟨-,k,rfl⟩
  ·exact⟨_,_,rfl,.inl ⟨l,sb,rfl,rfl,D⟩⟩
  ·exact⟨_,_,rfl,.inr ⟨k,rfl,rfl⟩⟩
 refine qAb S hE (some 25) (.tmp 27) rfl (.inl rfl) rfl rfl ?_;refine qB6 S hE 28 (.tmp 25) 0 #[sv,fv] sv rfl rfl rfl rfl (by simp[qAA,qAB,s2]) rfl ?_;refine qB6 S hE 29 (.tmp 25) 1 #[sv,fv] fv rfl rfl rfl rfl (by simp[qAA,qAB,s2]) rfl ?_;refine qAb S hE (some 8) (.tmp 28) rfl (.inr rfl) rfl rfl ?_;refine qAb S hE (some 9) (.tmp 29) rfl (.inr rfl) rfl rfl ?_;refine qBH S hE ?_;generalize hA:Act.put _ (some 9) _=A3;have s3:A3.tmps.size=141:=by rw[<-hA];simp[qAB,s2]
 have d3:A3.defers=[]:=by rw[<-hA];simp[qAM,d2]
 have z5:A3.eval (.tmp 5)=.bool true:=by rw[<-hA];simp[qAA,qAB,s2,y5]
 have z6:A3.eval (.tmp 6)=dv:=by rw[<-hA];simp[qAA,qAB,s2,y6]
 have z7:A3.eval (.tmp 7)=ev:=by rw[<-hA];simp[qAA,qAB,s2,y7]
 have z8:A3.eval (.tmp 8)=sv:=by rw[<-hA];simp[qAA,qAB,s2]
 have z9:A3.eval (.tmp 9)=fv:=by rw[<-hA];simp[qAA,qAB,s2]
 clear hA y1 y5 y6 y7;have k03:Old v v3:=k02.trans k3;refine qAz S hE (qGs hE qWp (Qn:=fun a' w'=>Old v3 w'/\qEp 141 [(6,dv),(8,sv)] a') (fun _ _ _ _ h=>⟨h.1.trans (Old.heap rfl),h.2⟩) s3 d3 (fun T=>?_) ?_)
 ·refine qBt ?_ (n4 (f:=fun i=>A3.eval (.tmp i)) (w:=v3.re T 0) dv ev sv fv z5 z6 z7 z8 z9 (hy.imp (fun h=>by obtain⟨db,e1,e2,-⟩:=h;exact⟨db,e1,e2⟩) id) (hz.imp (fun h=>by obtain⟨l,sb,e1,e2,-⟩:=h;exact⟨sb,e1,e2⟩) id));rintro a w⟨rfl,h⟩;exact⟨Old.heap rfl,h⟩
 rintro A4 v4⟨k4,s4,d4,h4⟩;have c6_4:A4.eval (.tmp 6)=dv:=h4 (6,dv) (by simp);have c8_4:A4.eval (.tmp 8)=sv:=h4 (8,sv) (by simp);clear h4 z5 z6 z7 z8 z9;have k04:=k03.trans k4;rcases hy with⟨db,rfl,rfl,Dv⟩|⟨kk,rfl,rfl⟩;rotate_left
 ·refine qAz S hE (qLc hE qV5 (Qr:=fun a w=>Old v w/\a.defers=[]/\a.eval (.tmp 4)=.bool true) (fun _ _ _ _ h=>⟨h.1.trans (Old.heap rfl),h.2⟩) s4 d4 (fun T=>?_) fun a w h=>h);refine qCw ?_ (qWn (f:=fun i=>A4.eval (.tmp i)) (w:=v4.re T 0) c6_4);rintro a w⟨rfl,h⟩;exact⟨k04.trans (Old.heap rfl),h⟩
 refine qAz S hE (qGs hE qV5 (Qn:=fun a' w'=>Old v4 w'/\qEp 141 [(6,.pointer (some ⟨db,0,none⟩)),(8,sv)] a') (fun _ _ _ _ h=>⟨h.1.trans (Old.heap rfl),h.2⟩) s4 d4 (fun T=>?_) ?_)
 ·refine qBt ?_ (n5 (f:=fun i=>A4.eval (.tmp i)) (w:=v4.re T 0) c6_4);rintro a w⟨rfl,h⟩;rw[c8_4]at h;exact⟨Old.heap rfl,h⟩
 rintro A5 v5⟨k5,s5,d5,h5⟩;have c6_5:A5.eval (.tmp 6)=.pointer (some ⟨db,0,none⟩):=h5 (6,.pointer (some ⟨db,0,none⟩)) (by simp);have c8_5:A5.eval (.tmp 8)=sv:=h5 (8,sv) (by simp);clear h5 c6_4 c8_4;have k35:Old v3 v5:=k4.trans k5;have k05:Old v v5:=k03.trans k35;have D5:DocV v5 db doc:=Dv.old (k3.trans k35);obtain⟨w1,w2,w3,w4⟩:=qQN D5.size D5.ok;refine qAz S hE (qAx S hE ?_);refine qAb S hE (some 48) (.tmp 6) rfl (.inl rfl) rfl rfl ?_;refine qPB hE (V.old k05) D5 _ rfl rfl rfl 49 rfl (by simp[qAA,s5,c6_5]) ?_;intro v6 k6;refine qAb S hE (some 10) (.tmp 49) rfl (.inr rfl) rfl rfl ?_;refine qBH S hE ?_;generalize hA:Act.put _ (some 10) _=A6;have s6:A6.tmps.size=141:=by rw[<-hA];simp[qAB,s5]
 have d6:A6.defers=[]:=by rw[<-hA];simp[qAM,d5]
 have c6_6:A6.eval (.tmp 6)=.pointer (some ⟨db,0,none⟩):=by rw[<-hA];simp[qAA,qAB,s5,c6_5]
 have c8_6:A6.eval (.tmp 8)=sv:=by rw[<-hA];simp[qAA,qAB,s5,c8_5]
 have c10_6:A6.eval (.tmp 10)=.string (qF8 doc):=by rw[<-hA];simp[qAA,qAB,s5]
 clear hA c6_5 c8_5;have k36:Old v3 v6:=k35.trans k6;have k06:Old v v6:=k03.trans k36;have hsz:(qF8 doc).size=(qF8 doc).data.toList.length:=by rw[Array.length_toList];rfl
 by_cases hlong:2000<(qF8 doc).size
 ·refine qAz S hE (qLc hE qV6 (Qr:=fun a w=>Old v w/\a.defers=[]/\a.eval (.tmp 4)=.bool true) (fun _ _ _ _ h=>⟨h.1.trans (Old.heap rfl),h.2⟩) s6 d6 (fun T=>?_) fun a w h=>h);refine qCw ?_ (qWo (f:=fun i=>A6.eval (.tmp i)) (w:=v6.re T 0) (qF8 doc) hlong (by omega) c10_6);rintro a w⟨rfl,h⟩;exact⟨k06.trans (Old.heap rfl),h⟩
 have hlen:(qF8 doc).size<=2000:=by omega
 refine qAz S hE (qGs hE qV6 (Qn:=fun a' w'=>Old v6 w'/\qEp 141 [(6,.pointer (some ⟨db,0,none⟩)),(8,sv),(10,.string (qF8 doc))] a') (fun _ _ _ _ h=>⟨h.1.trans (Old.heap rfl),h.2⟩) s6 d6 (fun T=>?_) ?_)
 ·refine qBt ?_ (n7 (f:=fun i=>A6.eval (.tmp i)) (w:=v6.re T 0) (qF8 doc) hlen c10_6);rintro a w⟨rfl,h⟩;rw[c6_6,c8_6]at h;exact⟨Old.heap rfl,h⟩
 rintro A7 v7⟨k7,s7,d7,h7⟩;have c6_7:A7.eval (.tmp 6)=.pointer (some ⟨db,0,none⟩):=h7 (6,.pointer (some ⟨db,0,none⟩)) (by simp);have c8_7:A7.eval (.tmp 8)=sv:=h7 (8,sv) (by simp);have c10_7:A7.eval (.tmp 10)=.string (qF8 doc):=h7 (10,.string (qF8 doc)) (by simp);clear h7 c6_6 c8_6 c10_6;have k37:Old v3 v7:=k36.trans k7;have k07:Old v v7:=k03.trans k37;refine qAz S hE (qAx S hE ?_);refine qAb S hE (some 54) (.tmp 10) rfl (.inl rfl) rfl rfl ?_;refine qGP hE (V.old k07) (qF8 doc) (by omega) _ rfl rfl rfl 55 rfl (by simp[qAA,s7,c10_7]) ?_;rintro y v8 k8 (⟨-,cb,rfl,Cv⟩|⟨hc,-⟩);rotate_left
 ·exact absurd (by unfold qD4;rw[if_neg (by omega),w3]) hc
 refine qAb S hE (some 53) (.tmp 55) rfl (.inl rfl) rfl rfl ?_;refine qB6 S hE 56 (.tmp 53) 0 _ (.pointer (some ⟨cb,0,none⟩)) rfl rfl rfl rfl (by simp[qAA,qAB,s7];rfl) rfl ?_;refine qB6 S hE 57 (.tmp 53) 1 _ .nilIface rfl rfl rfl rfl (by simp[qAA,qAB,s7];rfl) rfl ?_;refine qAb S hE (some 11) (.tmp 56) rfl (.inr rfl) rfl rfl ?_;refine qAb S hE (some 12) (.tmp 57) rfl (.inr rfl) rfl rfl ?_;refine qBH S hE ?_;generalize hA:Act.put _ (some 12) _=A8;have s8:A8.tmps.size=141:=by rw[<-hA];simp[qAB,s7]
 have d8:A8.defers=[]:=by rw[<-hA];simp[qAM,d7]
 have c6_8:A8.eval (.tmp 6)=.pointer (some ⟨db,0,none⟩):=by rw[<-hA];simp[qAA,qAB,s7,c6_7]
 have c8_8:A8.eval (.tmp 8)=sv:=by rw[<-hA];simp[qAA,qAB,s7,c8_7]
 have c10_8:A8.eval (.tmp 10)=.string (qF8 doc):=by rw[<-hA];simp[qAA,qAB,s7,c10_7]
 have c11_8:A8.eval (.tmp 11)=.pointer (some ⟨cb,0,none⟩):=by rw[<-hA];simp[qAA,qAB,s7]
 have c12_8:A8.eval (.tmp 12)=.nilIface:=by rw[<-hA];simp[qAA,qAB,s7]
 clear hA c6_7 c8_7 c10_7;have k38:Old v3 v8:=k37.trans k8;have k08:Old v v8:=k03.trans k38;have D8:DocV v8 db doc:=Dv.old (k3.trans k38);have bok:=qKX D8.size D8.ok;have td:TrC v8 db (qAs doc).2.1:=by
  obtain⟨B,hdc⟩:=D8.doc;exact Dc.toC (CellsTo.refl v8) hdc
 have tc:TrC v8 cb (qAs doc).2.1:=by
  obtain⟨B,hdc⟩:=Cv.doc;rw[w3]at hdc;exact Dc.toC (CellsTo.refl v8) hdc
 refine qAz S hE (qGs hE qWq (Qn:=fun a' w'=>Old v8 w'/\qEp 141 [(6,.pointer (some ⟨db,0,none⟩)),(8,sv),(11,.pointer (some ⟨cb,0,none⟩))] a') (fun _ _ _ _ h=>⟨h.1.trans (Old.heap rfl),h.2⟩) s8 d8 (fun T=>?_) ?_)
 ·have k0:Old v8 (v8.re T 0):=Old.heap rfl;refine qBt ?_ (n9 (f:=fun i=>A8.eval (.tmp i)) (w:=v8.re T 0) (V.old (k08.trans k0)) c6_8 c10_8 c11_8 c12_8 (Cv.old k0) w4 (k0.tr td) (k0.tr tc) bok.n);rintro a w⟨h1,h⟩;rw[c8_8]at h;exact⟨k0.trans h1,h⟩
 rintro A9 v9⟨k9,s9,d9,h9⟩;have c6_9:A9.eval (.tmp 6)=.pointer (some ⟨db,0,none⟩):=h9 (6,.pointer (some ⟨db,0,none⟩)) (by simp);have c8_9:A9.eval (.tmp 8)=sv:=h9 (8,sv) (by simp);have c11_9:A9.eval (.tmp 11)=.pointer (some ⟨cb,0,none⟩):=h9 (11,.pointer (some ⟨cb,0,none⟩)) (by simp);clear h9 c6_8 c8_8 c10_8 c11_8 c12_8;refine qAz S hE (qGs hE qV2 (Qn:=fun a' w'=>Old v9 w'/\qEp 141 [(6,.pointer (some ⟨db,0,none⟩)),(8,sv),(11,.pointer (some ⟨cb,0,none⟩))] a') (fun _ _ _ _ h=>⟨h.1.trans (Old.heap rfl),h.2⟩) s9 d9 (fun T=>?_) ?_)
 ·have k0:Old v9 (v9.re T 0):=Old.heap rfl;refine qBt ?_ (n10 (f:=fun i=>A9.eval (.tmp i)) (w:=v9.re T 0) c6_9 c11_9 bok ((k9.trans k0).tr td) ((k9.trans k0).tr tc));rintro a w⟨h1,h⟩;rw[c8_9]at h;exact⟨k0.trans h1,h⟩
 rintro A10 v10⟨k10,s10,d10,h10⟩;have c6_10:A10.eval (.tmp 6)=.pointer (some ⟨db,0,none⟩):=h10 (6,.pointer (some ⟨db,0,none⟩)) (by simp);have c8_10:A10.eval (.tmp 8)=sv:=h10 (8,sv) (by simp);have c11_10:A10.eval (.tmp 11)=.pointer (some ⟨cb,0,none⟩):=h10 (11,.pointer (some ⟨cb,0,none⟩)) (by simp);clear h10 c6_9 c8_9 c11_9;have k810:Old v8 v10:=k9.trans k10;have k010:Old v v10:=k08.trans k810;rcases hz with⟨l,sb,rfl,rfl,Sv⟩|⟨kk,rfl,rfl⟩;rotate_left
 ·refine qAz S hE (qLc hE qUB (Qr:=fun a w=>Old v w/\a.defers=[]/\a.eval (.tmp 4)=.bool true) (fun _ _ _ _ h=>⟨h.1.trans (Old.heap rfl),h.2⟩) s10 d10 (fun T=>?_) fun a w h=>h);refine qCw ?_ (qVw (f:=fun i=>A10.eval (.tmp i)) (w:=v10.re T 0) c8_10);rintro a w⟨rfl,h⟩;exact⟨k010.trans (Old.heap rfl),h⟩
 refine qAz S hE (qGs hE qUB (Qn:=fun a' w'=>Old v10 w'/\qEp 141 [(6,.pointer (some ⟨db,0,none⟩)),(8,.pointer (some ⟨sb,0,none⟩)),(11,.pointer (some ⟨cb,0,none⟩))] a') (fun _ _ _ _ h=>⟨h.1.trans (Old.heap rfl),h.2⟩) s10 d10 (fun T=>?_) ?_)
 ·refine qBt ?_ (n11 (f:=fun i=>A10.eval (.tmp i)) (w:=v10.re T 0) c8_10);rintro a w⟨rfl,h⟩;rw[c6_10,c11_10]at h;exact⟨Old.heap rfl,h⟩
 rintro A11 v11⟨k11,s11,d11,h11⟩;have c6_11:A11.eval (.tmp 6)=.pointer (some ⟨db,0,none⟩):=h11 (6,.pointer (some ⟨db,0,none⟩)) (by simp);have c8_11:A11.eval (.tmp 8)=.pointer (some ⟨sb,0,none⟩):=h11 (8,.pointer (some ⟨sb,0,none⟩)) (by simp);have c11_11:A11.eval (.tmp 11)=.pointer (some ⟨cb,0,none⟩):=h11 (11,.pointer (some ⟨cb,0,none⟩)) (by simp);clear h11 c6_10 c8_10 c11_10;have k811:Old v8 v11:=k810.trans k11;have k011:Old v v11:=k08.trans k811;have S11:SelV v11 sb sel l:=Sv.old (k38.trans k811);have t2:=(qHE S11.comp).2.1;refine qAz S hE (qAx S hE ?_);refine qAb S hE (some 110) (.tmp 8) rfl (.inl rfl) rfl rfl ?_;refine qKC hE (Tb.old hT k011) S11 _ rfl rfl rfl 111 rfl (by simp[qAA,s11,c8_11]) ?_;intro v12 k12;refine qAb S hE (some 14) (.tmp 111) rfl (.inr rfl) rfl rfl ?_;refine qBH S hE ?_;generalize hA:Act.put _ (some 14) _=A12;have s12:A12.tmps.size=141:=by rw[<-hA];simp[qAB,s11]
 have d12:A12.defers=[]:=by rw[<-hA];simp[qAM,d11]
 have c6_12:A12.eval (.tmp 6)=.pointer (some ⟨db,0,none⟩):=by rw[<-hA];simp[qAA,qAB,s11,c6_11]
 have c8_12:A12.eval (.tmp 8)=.pointer (some ⟨sb,0,none⟩):=by rw[<-hA];simp[qAA,qAB,s11,c8_11]
 have c11_12:A12.eval (.tmp 11)=.pointer (some ⟨cb,0,none⟩):=by rw[<-hA];simp[qAA,qAB,s11,c11_11]
 have c14_12:A12.eval (.tmp 14)=.string (qG7 sel l):=by rw[<-hA];simp[qAA,qAB,s11]
 clear hA c6_11 c8_11 c11_11;have k812:Old v8 v12:=k811.trans k12;have k012:Old v v12:=k08.trans k812;have hsz2:(qG7 sel l).size=(qAR (sel.size+1) l).length:=by rw[<-qLx,Array.length_toList];rfl
 by_cases hlong2:200<(qG7 sel l).size
 ·refine qAz S hE (qLc hE qUC (Qr:=fun a w=>Old v w/\a.defers=[]/\a.eval (.tmp 4)=.bool true) (fun _ _ _ _ h=>⟨h.1.trans (Old.heap rfl),h.2⟩) s12 d12 (fun T=>?_) fun a w h=>h);refine qCw ?_ (qVx (f:=fun i=>A12.eval (.tmp i)) (w:=v12.re T 0) (qG7 sel l) hlong2 (by omega) c14_12);rintro a w⟨rfl,h⟩;exact⟨k012.trans (Old.heap rfl),h⟩
 have hlen2:(qG7 sel l).size<=200:=by omega
 obtain⟨u1,u2⟩:=qOc S11.comp hlen2;refine qAz S hE (qGs hE qUC (Qn:=fun a' w'=>Old v12 w'/\qEp 141 [(6,.pointer (some ⟨db,0,none⟩)),(8,.pointer (some ⟨sb,0,none⟩)),(11,.pointer (some ⟨cb,0,none⟩)),(14,.string (qG7 sel l))] a') (fun _ _ _ _ h=>⟨h.1.trans (Old.heap rfl),h.2⟩) s12 d12 (fun T=>?_) ?_)
 ·refine qBt ?_ (n13 (f:=fun i=>A12.eval (.tmp i)) (w:=v12.re T 0) (qG7 sel l) hlen2 c14_12);rintro a w⟨rfl,h⟩;rw[c6_12,c8_12,c11_12]at h;exact⟨Old.heap rfl,h⟩
 rintro A13 v13⟨k13,s13,d13,h13⟩;have c6_13:A13.eval (.tmp 6)=.pointer (some ⟨db,0,none⟩):=h13 (6,.pointer (some ⟨db,0,none⟩)) (by simp);have c8_13:A13.eval (.tmp 8)=.pointer (some ⟨sb,0,none⟩):=h13 (8,.pointer (some ⟨sb,0,none⟩)) (by simp);have c11_13:A13.eval (.tmp 11)=.pointer (some ⟨cb,0,none⟩):=h13 (11,.pointer (some ⟨cb,0,none⟩)) (by simp);have c14_13:A13.eval (.tmp 14)=.string (qG7 sel l):=h13 (14,.string (qG7 sel l)) (by simp);clear h13 c6_12 c8_12 c11_12 c14_12;have k813:Old v8 v13:=k812.trans k13;have k013:Old v v13:=k08.trans k813;refine qAz S hE (qAx S hE ?_);refine qAb S hE (some 116) (.tmp 14) rfl (.inl rfl) rfl rfl ?_;refine qEI hE (qG7 sel l) _ rfl rfl rfl 117 rfl (by simp[qAA,s13,c14_13]) ?_;rintro y v14 k14 (⟨l',tb,rfl,Tv⟩|⟨hc,-⟩);rotate_left
 ·exact absurd (by rw[u1]) hc
 obtain rfl:l=l':=by have:=u1.symm.trans Tv.comp;simpa using this
 refine qAb S hE (some 115) (.tmp 117) rfl (.inl rfl) rfl rfl ?_;refine qB6 S hE 118 (.tmp 115) 0 _ (.pointer (some ⟨tb,0,none⟩)) rfl rfl rfl rfl (by simp[qAA,qAB,s13];rfl) rfl ?_;refine qB6 S hE 119 (.tmp 115) 1 _ .nilIface rfl rfl rfl rfl (by simp[qAA,qAB,s13];rfl) rfl ?_;refine qAb S hE (some 15) (.tmp 118) rfl (.inr rfl) rfl rfl ?_;refine qAb S hE (some 16) (.tmp 119) rfl (.inr rfl) rfl rfl ?_;refine qBH S hE ?_;generalize hA:Act.put _ (some 16) _=A14;have s14:A14.tmps.size=141:=by rw[<-hA];simp[qAB,s13]
 have d14:A14.defers=[]:=by rw[<-hA];simp[qAM,d13]
 have c6_14:A14.eval (.tmp 6)=.pointer (some ⟨db,0,none⟩):=by rw[<-hA];simp[qAA,qAB,s13,c6_13]
 have c8_14:A14.eval (.tmp 8)=.pointer (some ⟨sb,0,none⟩):=by rw[<-hA];simp[qAA,qAB,s13,c8_13]
 have c11_14:A14.eval (.tmp 11)=.pointer (some ⟨cb,0,none⟩):=by rw[<-hA];simp[qAA,qAB,s13,c11_13]
 have c14_14:A14.eval (.tmp 14)=.string (qG7 sel l):=by rw[<-hA];simp[qAA,qAB,s13,c14_13]
 have c15_14:A14.eval (.tmp 15)=.pointer (some ⟨tb,0,none⟩):=by rw[<-hA];simp[qAA,qAB,s13]
 have c16_14:A14.eval (.tmp 16)=.nilIface:=by rw[<-hA];simp[qAA,qAB,s13]
 clear hA c6_13 c8_13 c11_13 c14_13;have k814:Old v8 v14:=k813.trans k14;have k014:Old v v14:=k08.trans k814;refine qAz S hE (qGs hE qV3 (Qn:=fun a' w'=>Old v14 w'/\qEp 141 [(6,.pointer (some ⟨db,0,none⟩)),(8,.pointer (some ⟨sb,0,none⟩)),(11,.pointer (some ⟨cb,0,none⟩)),(15,.pointer (some ⟨tb,0,none⟩))] a') (fun _ _ _ _ h=>⟨h.1.trans (Old.heap rfl),h.2⟩) s14 d14 (fun T=>?_) ?_)
 ·have k0:Old v14 (v14.re T 0):=Old.heap rfl;refine qBt ?_ (n15 (f:=fun i=>A14.eval (.tmp i)) (w:=v14.re T 0) (Tb.old hT (k014.trans k0)) c14_14 c15_14 c16_14 (Tv.old k0) u2);rintro a w⟨h1,h⟩;rw[c6_14,c8_14,c11_14]at h;exact⟨k0.trans h1,h⟩
 rintro A15 v15⟨k15,s15,d15,h15⟩;have c6_15:A15.eval (.tmp 6)=.pointer (some ⟨db,0,none⟩):=h15 (6,.pointer (some ⟨db,0,none⟩)) (by simp);have c8_15:A15.eval (.tmp 8)=.pointer (some ⟨sb,0,none⟩):=h15 (8,.pointer (some ⟨sb,0,none⟩)) (by simp);have c11_15:A15.eval (.tmp 11)=.pointer (some ⟨cb,0,none⟩):=h15 (11,.pointer (some ⟨cb,0,none⟩)) (by simp);have c15_15:A15.eval (.tmp 15)=.pointer (some ⟨tb,0,none⟩):=h15 (15,.pointer (some ⟨tb,0,none⟩)) (by simp);clear h15 c6_14 c8_14 c11_14 c14_14 c15_14 c16_14;have k815:Old v8 v15:=k814.trans k15;have k015:Old v v15:=k08.trans k815;obtain⟨lv,AA,hlv,spec,-⟩:=qKa (V.old k015) (D8.old k815) (Sv.old (k38.trans k815));refine qAz S hE (qAx S hE ?_);refine qAb S hE (some 132) (.tmp 6) rfl (.inl rfl) rfl rfl ?_;refine qAb S hE (some 133) (.tmp 8) rfl (.inl rfl) rfl rfl ?_;refine qFC hE rfl spec (by have:=bok.n;omega) hlv rfl rfl 134 rfl rfl rfl rfl (by simp[qAA,qAB,s15,c6_15]) (by simp[qAA,qAB,s15,c8_15]) ?_;intro za v16 hza;refine qAb S hE (some 17) (.tmp 134) rfl (.inr rfl) rfl rfl ?_;refine qBH S hE ?_;have k16:Old v15 v16:=⟨hza.size,fun k hk=>hza.old k hk⟩;generalize hA:Act.put _ (some 17) _=A16;have s16:A16.tmps.size=141:=by rw[<-hA];simp[qAB,s15]
 have d16:A16.defers=[]:=by rw[<-hA];simp[qAM,d15]
 have c11_16:A16.eval (.tmp 11)=.pointer (some ⟨cb,0,none⟩):=by rw[<-hA];simp[qAA,qAB,s15,c11_15]
 have c15_16:A16.eval (.tmp 15)=.pointer (some ⟨tb,0,none⟩):=by rw[<-hA];simp[qAA,qAB,s15,c15_15]
 have c17_16:A16.eval (.tmp 17)=za:=by rw[<-hA];simp[qAA,qAB,s15]
 clear hA c6_15 c8_15 c11_15 c15_15;have ia:=IntsC.of hza.row;have k816:Old v8 v16:=k815.trans k16;have k016:Old v v16:=k08.trans k816;obtain⟨lv',AA',hlv',spec',-⟩:=qKa (V.old k016) (Cv.old k816) (Tv.old (k15.trans k16));rw[w3]at spec';dsimp only at spec';refine qAz S hE (qAx S hE ?_);refine qAb S hE (some 135) (.tmp 11) rfl (.inl rfl) rfl rfl ?_;refine qAb S hE (some 136) (.tmp 15) rfl (.inl rfl) rfl rfl ?_;refine qFC hE rfl spec' (by have:=bok.n;omega) hlv' rfl rfl 137 rfl rfl rfl rfl (by simp[qAA,qAB,s16,c11_16]) (by simp[qAA,qAB,s16,c15_16]) ?_;intro zb v17 hzb;refine qAb S hE (some 18) (.tmp 137) rfl (.inr rfl) rfl rfl ?_;refine qBH S hE ?_;have k17:Old v16 v17:=⟨hzb.size,fun k hk=>hzb.old k hk⟩;generalize hA:Act.put _ (some 18) _=A17;have s17:A17.tmps.size=141:=by rw[<-hA];simp[qAB,s16]
 have d17:A17.defers=[]:=by rw[<-hA];simp[qAM,d16]
 have c17_17:A17.eval (.tmp 17)=za:=by rw[<-hA];simp[qAA,qAB,s16,c17_16]
 have c18_17:A17.eval (.tmp 18)=zb:=by rw[<-hA];simp[qAA,qAB,s16]
 clear hA c11_16 c15_16 c17_16;have ib:=IntsC.of hzb.row;have k017:Old v v17:=k016.trans k17;refine qLc hE qV4 (Qr:=fun a w=>Old v w/\a.defers=[]/\a.eval (.tmp 4)=.bool true) (fun _ _ _ _ h=>⟨h.1.trans (Old.heap rfl),h.2⟩) s17 d17 (fun T=>?_) fun a w h=>h;have k0:Old v17 (v17.re T 0):=Old.heap rfl;have hla:=qI7 (qAs doc).2.1.els.length (qDV (qAs doc).2.1 l);refine qCw ?_ (n18 (f:=fun i=>A17.eval (.tmp i)) (w:=v17.re T 0) c17_17 c18_17 (ia.old (k17.trans k0)) (ib.old k0) (by have:=bok.n;omega));rintro a w⟨h1,h⟩;exact⟨(k017.trans k0).trans h1,h⟩
theorem qTi{W:World}(h:Tb W):Tb (qDA W):=h.low (qFM (by decide))
theorem rewritten_run{W:World}(S:Start W)(hT:Tb W)(doc sel:ByteArray)(hd:doc.size<=140737488351232) :
  ∃M last o w' t',runNT prog (M+1) (solo (G (Frame.enter prog 7 #[.string doc,.string sel] .normal) []) W) #[]=(.ended o w',t')/\runN prog M (solo (G (Frame.enter prog 7 #[.string doc,.string sel] .normal) []) W)=.next last/\step prog last=.ended o w' /\
   Go.Conc.Good prog (fun x w'=>x=.bool true/\KeptAll W w') last o w' t':=by
 refine qUk S (c:=qDL) func7 rfl (by kernel_rfl) qXP (t:=4) rfl (by intro x hx;simp at hx;rcases hx with rfl|rfl<;>rfl) fun Ends hE=>qMl hE (qTj S) (qTi hT) doc sel hd (by simp) rfl ?_ ?_
 ·simp only[Act.eval,Array.getD_eq_getD_getElem?];rw[Array.getElem?_append_left (by simp)];rfl
 ·simp only[Act.eval,Array.getD_eq_getD_getElem?];rw[Array.getElem?_append_left (by simp)];rfl
