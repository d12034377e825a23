/-
  Parts of the proof: JA.
-/
import Derived.Test.YtclpcnignheijaaGreatDoorQ22
set_option maxRecDepth 100000
namespace Go.Proofs.YtclpcnignheijaaGreatDoor
open Go Go.Conc Go.Proofs.Tryz
section
variable{P:Program}{F:Fr0 P}{Ends:Machine->Trace->Prop}{al:Cfg}{gl:Nat->Bool}{Q:Exit->Act->World->Prop}{a:Act}{v:World}
theorem qTt(S:Setup P al gl (fun r=>r<0))(hE:EndsCl P Ends){id:Nat}{ops:Array Oper}(L:List Nat->Bool)(hord:∀t,L (Region.schedule (P.follows .mixedOrders) ops t)=true)(h:∀o,L o=true->qFp P al gl F Ends ops o Q a v):wpV P al gl F Ends (.region id ops true) Q a v:=by
 intro b k cs hb hc;refine KM.step S hE (fun _=>notAtStop_of fun ops i rest k' e=>by cases e) (fun hm=>absurd rfl hm) fun T d=>?_;exact⟨_,_,_,stepG_region_draw,(fun ch e=>by cases e),fun T' d'=>h _ (hord _) b k cs hb hc T' d'⟩
end
theorem qSL(ev:Operand->Value)(x y:Operand)(n:Nat):Act.eval { tmps:=Array.map ev #[x,y]++Array.replicate n undef,defers:=[] } (.tmp 0)=ev x/\Act.eval { tmps:=Array.map ev #[x,y]++Array.replicate n undef,defers:=[] } (.tmp 1)=ev y:=by
 constructor<;>simp only[Act.eval,List.map_toArray,List.map_cons,List.map_nil,Array.getD_eq_getD_getElem?]<;>rw[Array.getElem?_append_left (by simp)]<;>rfl
noncomputable def qP2:Code:=Tryz.f24.body.getD .skip
noncomputable def ops24:Array Oper:=match qP2 with
 |.seq _ (.seq (.region _ ops _) _)=>ops
 |_=>#[]
def qHj:Nat->List Nat|1=>[0]|2=>[1]|4=>[3]|5=>[4]|6=>[5]|_=>[]
def qUv:List Nat->List Nat->Bool
 |D,i::s=>(decide (i<7)&&(qHj i).all (D.contains ·)&&qUv (i::D) s)||(i==7&&s==[8]&&(List.range 7).all (D.contains ·))
 |_,[]=>false
theorem qTB(mixed:Bool)(t:Nat):qUv [] (Region.schedule mixed ops24 t)=true:=by
 have h:=qLw mixed ops24 t;have e:(allOrd .any ops24 ops24.size (Array.replicate ops24.size false) []++(allOrd .text ops24 ops24.size (Array.replicate ops24.size false) []++allOrd .gc ops24 ops24.size (Array.replicate ops24.size false) [])).all (fun l=>qUv [] l)=true:=by kernel_rfl
 exact List.all_eq_true.1 e _ h
def qGa(db sb:Nat)(lv:Value):Nat->Value|0|1|2=>.pointer (some ⟨db,0,none⟩)|3|4|5=>.pointer (some ⟨sb,0,none⟩)|_=>lv
structure Inv24(db sb:Nat)(lv:Value)(D:List Nat)(a:Act):Prop where
 size:a.tmps.size=13
 defers:a.defers=[]
 t0:a.eval (.tmp 0)=.pointer (some ⟨db,0,none⟩)
 t1:a.eval (.tmp 1)=.pointer (some ⟨sb,0,none⟩)
 done:∀i,D.contains i=true->i<7->a.eval (.tmp (5+i))=qGa db sb lv i
theorem Inv24.put{db sb:Nat}{lv:Value}{D:List Nat}{a:Act}(h:Inv24 db sb lv D a){i:Nat}(hi:i<7):Inv24 db sb lv (i::D) (a.put (some (5+i)) (qGa db sb lv i)):=by
 refine⟨by simp[qAB,h.size],by simp[qAM,h.defers],?_,?_,fun j hj hj7=>?_⟩
 ·rw[qAA,if_neg (by omega)];exact h.t0
 ·rw[qAA,if_neg (by omega)];exact h.t1
 ·rw[qAA];by_cases e:j=i
  ·subst e;rw[if_pos ⟨rfl,by rw[h.size];omega⟩]
  ·rw[if_neg (by omega)];refine h.done j ?_ hj7;simpa [e]using hj
section
variable{F:Fr0 prog}{Ends:Machine->Trace->Prop}{Q:Exit->Act->World->Prop}{v:World}
theorem qUO(S:Setup prog alM glP (fun r=>r<0))(hE:EndsCl prog Ends){db sb:Nat}{lv:Value}(hlv:v.cell? ⟨sb,0,none⟩=some lv)(hend:∀a,Inv24 db sb lv [0,1,2,3,4,5,6] a->qFp prog alM glP F Ends ops24 [7,8] Q a v) :
  ∀(s D:List Nat)(a:Act),qUv D s=true->Inv24 db sb lv D a->qFp prog alM glP F Ends ops24 s Q a v
 |[],D,a,h,_=>by simp[qUv]at h
 | i :: s, D, a, h, hI => by
  have hlv':∀T d,(v.re T d).cell? ⟨sb,0,none⟩=some lv:=fun _ _=>hlv;rw[qUv,Bool.or_eq_true]at h;rcases h with h|h
  ·simp only[Bool.and_eq_true,decide_eq_true_eq]at h;obtain⟨⟨hi,hd⟩,hs⟩:=h;have next:=qUO S hE hlv hend s (i::D) _ hs (hI.put hi);have hsz:=hI.size;have hdn:∀j,j∈qHj i->j<7->a.eval (.tmp (5+j))=qGa db sb lv j:=fun j hj hj7=>hI.done j (List.all_eq_true.1 hd j hj) hj7;rcases i with _|_|_|_|_|_|_|i
   ·refine qAb S hE (some 5) (.tmp 0) rfl (.inl rfl) rfl rfl ?_;rw[hI.t0];exact next
   ·obtain⟨o,ho,hop,hg,hd⟩:∃o:Oper,ops24[1]? = some o/\o.op=.nilCheck (.tmp 5)/\o.guard=none/\o.dst=some 6:=⟨_,rfl,rfl,rfl,rfl⟩;have e:a.eval (.tmp 5)=.pointer (some ⟨db,0,none⟩):=hdn 0 (by simp[qHj]) (by omega);refine qCY S hE ho (by rw[hop];rfl) (by simp[Region.wanted,hg]) fun T d=>⟨qGa db sb lv 1,v.re T d,?_,by rw[hd];exact fun b k cs hb hc T' d'=>next b k cs hb hc T' d'⟩;unfold execOp;rw[hop]
    revert e
    generalize a.eval=ev;intro e;simp[go_sem,e,qGa]
   ·obtain⟨o,ho,hop,hg,hd⟩:∃o:Oper,ops24[2]? = some o/\o.op=.fieldAddr 87 (.tmp 6) 0/\o.guard=none/\o.dst=some 7:=⟨_,rfl,rfl,rfl,rfl⟩;have e:a.eval (.tmp 6)=.pointer (some ⟨db,0,none⟩):=hdn 1 (by simp[qHj]) (by omega);refine qCY S hE ho (by rw[hop];rfl) (by simp[Region.wanted,hg]) fun T d=>⟨qGa db sb lv 2,v.re T d,?_,by rw[hd];exact fun b k cs hb hc T' d'=>next b k cs hb hc T' d'⟩;unfold execOp;rw[hop]
    revert e
    generalize a.eval=ev;intro e;simp[go_sem,e,qGa]
   ·refine qAb S hE (some 8) (.tmp 1) rfl (.inl rfl) rfl rfl ?_;rw[hI.t1];exact next
   ·obtain⟨o,ho,hop,hg,hd⟩:∃o:Oper,ops24[4]? = some o/\o.op=.nilCheck (.tmp 8)/\o.guard=none/\o.dst=some 9:=⟨_,rfl,rfl,rfl,rfl⟩;have e:a.eval (.tmp 8)=.pointer (some ⟨sb,0,none⟩):=hdn 3 (by simp[qHj]) (by omega);refine qCY S hE ho (by rw[hop];rfl) (by simp[Region.wanted,hg]) fun T d=>⟨qGa db sb lv 4,v.re T d,?_,by rw[hd];exact fun b k cs hb hc T' d'=>next b k cs hb hc T' d'⟩;unfold execOp;rw[hop]
    revert e
    generalize a.eval=ev;intro e;simp[go_sem,e,qGa]
   ·obtain⟨o,ho,hop,hg,hd⟩:∃o:Oper,ops24[5]? = some o/\o.op=.fieldAddr 96 (.tmp 9) 0/\o.guard=none/\o.dst=some 10:=⟨_,rfl,rfl,rfl,rfl⟩;have e:a.eval (.tmp 9)=.pointer (some ⟨sb,0,none⟩):=hdn 4 (by simp[qHj]) (by omega);refine qCY S hE ho (by rw[hop];rfl) (by simp[Region.wanted,hg]) fun T d=>⟨qGa db sb lv 5,v.re T d,?_,by rw[hd];exact fun b k cs hb hc T' d'=>next b k cs hb hc T' d'⟩;unfold execOp;rw[hop]
    revert e
    generalize a.eval=ev;intro e;simp[go_sem,e,qGa]
   ·obtain⟨o,ho,hop,hg,hd⟩:∃o:Oper,ops24[6]? = some o/\o.op=.load 94 (.tmp 10)/\o.guard=none/\o.dst=some 11:=⟨_,rfl,rfl,rfl,rfl⟩;have e:a.eval (.tmp 10)=.pointer (some ⟨sb,0,none⟩):=hdn 5 (by simp[qHj]) (by omega);refine qCY S hE ho (by rw[hop];rfl) (by simp[Region.wanted,hg]) fun T d=>⟨qGa db sb lv 6,v.re T d,?_,by rw[hd];exact fun b k cs hb hc T' d'=>next b k cs hb hc T' d'⟩;unfold execOp;rw[hop]
    revert e
    generalize a.eval=ev;intro e;simp[go_sem,e,qGa,hlv']
   ·omega
  ·simp only[Bool.and_eq_true,beq_iff_eq]at h;obtain⟨⟨rfl,rfl⟩,hD⟩:=h;refine hend a ⟨hI.size,hI.defers,hI.t0,hI.t1,fun j _ hj=>hI.done j (List.all_eq_true.1 hD j (by simpa using hj)) hj⟩
theorem qFC(hE:EndsCl prog Ends){tv lv:Value}{n:Nat}{mP:Nat->Bool}{Fnd:Value->World->Prop}{LayF:World->Prop}{db sb:Nat}(htv:tv=.pointer (some ⟨db,0,none⟩))(H:AllSpec alM alF glP v tv lv n mP Fnd LayF)(hn:n<549755813888)(hlv:v.cell? ⟨sb,0,none⟩=some lv)
  {a:Act} {ops:Array Oper} {i:Nat} {rest:List Nat} {o:Oper} {x y:Operand} {ats:Array TypeId} (ho:ops[i]? = some o) (hg:o.guard=none) (d:Nat) (hd:o.dst=some d) (hop:o.op=.call { callee:=.value (.func 24),args:=#[x,y],argTypes:=ats }) (okx:qC2 alM glP x=true) (oky:qC2 alM glP y=true)
  (e0:a.eval x=.pointer (some ⟨db,0,none⟩)) (e1:a.eval y=.pointer (some ⟨sb,0,none⟩)) (hnext:∀z v1,AllPost v (qDv n mP) z v1->qFp prog alM glP F Ends ops rest Q (a.put (some d) z) v1):qFp prog alM glP F Ends ops (i::rest) Q a v:=by
 have S:=qEQ;refine qGO S hE ho (fun ts=>by simp[Region.wanted,hg]) hop (by intro z hz;simp at hz;rcases hz with rfl|rfl<;>assumption) func24 rfl rfl (by kernel_rfl) ?_;obtain⟨o0,hb,g1,g2,g3⟩:∃o0:Oper,qP2=.seq (.region 0 #[o0] false) (.seq (.region 1 ops24 true) .ret)/\o0.op=.assign (.const (.slice none 0 0))/\o0.guard=none/\o0.dst=some 4:=⟨_,rfl,rfl,rfl,rfl⟩;show wpV prog alM glP F Ends qP2 _ _ v;rw[hb];refine qAz S hE (qAx S hE ?_);refine qAb S hE (some 4) (.const (.slice none 0 0)) rfl (.inr g1) g2 g3 ?_;refine qBH S hE ?_;refine qAz S hE (qTt S hE (qUv []) (fun t=>qTB _ t) fun od hod=>?_);refine qUO S hE (db:=db) (sb:=sb) hlv ?_ od [] _ hod ?_
 ·intro A hA;have t7:A.eval (.tmp 7)=.pointer (some ⟨db,0,none⟩):=hA.done 2 rfl (by omega);have t11:A.eval (.tmp 11)=lv:=hA.done 6 rfl (by omega);obtain⟨o7,h7,hop7,hg7,hd7⟩:∃o:Oper,ops24[7]? = some o/\o.op=.call { callee:=.value (.func 61),args:=#[.tmp 7,.tmp 11],argTypes:=#[89,94] }/\o.guard=none/\o.dst=some 12:=⟨_,rfl,rfl,rfl,rfl⟩;refine qGO S hE h7 (fun ts=>by simp[Region.wanted,hg7]) hop7 (by intro z hz;simp at hz;rcases hz with rfl|rfl<;>rfl) func61 rfl rfl (by kernel_rfl) ?_;refine qUW S hE H (by kernel_rfl) hn ?_ (by simp) (by rw[(qSL _ _ _ _).1,htv];exact t7) (by rw[(qSL _ _ _ _).2];exact t11) qXV;intro z v1 hz;rw[hd7];refine qAb S hE (some 4) (.tmp 12) rfl (.inr rfl) rfl rfl ?_;refine qBH S hE ?_;refine qR5 S hE ⟨by simp[qAM,hA.defers],z,fun T d'=>?_,by rw[hd];exact hnext z v1 hz⟩;refine(results_tmp (fn:=Tryz.f24) (t:=4) rfl _ _ _).trans ?_;have e:Act.eval (Act.put (Act.put A (some 12) z) (some 4) (Act.eval (Act.put A (some 12) z) (.tmp 12))) (.tmp 4)=z:=by simp[qAA,qAB,hA.size]
  exact congrArg (fun y=>Result.ok y _) e
 ·refine⟨by simp[qAB],by simp[qAM],?_,?_,fun i h=>by simp at h⟩
  ·rw[qAA,if_neg (by omega),(qSL _ _ _ _).1];exact e0
  ·rw[qAA,if_neg (by omega),(qSL _ _ _ _).2];exact e1
end
