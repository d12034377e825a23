/-
  Parts of the proof: J9, J10, J11.
-/
import Derived.Test.YtclpcnignheijaaGreatDoorJ5
import Derived.Test.YtclpcnignheijaaGreatDoorJ16
set_option maxHeartbeats 2000000
set_option maxRecDepth 100000
namespace Go.Proofs.YtclpcnignheijaaGreatDoor.Num
open Go.RowKit Go.Proofs.Tryz
theorem Old.ofBelow{w w':World}(h:Below w.heap.size w w'):Old w w':=⟨h.size,h.block⟩
theorem Old.heap{w w':World}(h:w'.heap=w.heap):Old w w':=⟨by rw[h];exact Nat.le_refl _,fun _ _=>by rw[h]⟩
theorem Old.tr{w w':World}(k:Old w w'){tb:Nat}{b:BS}(h:TrC w tb b):TrC w' tb b:=h.same k.cells
theorem Old.at{w w':World}(k:Old w w'){i:Nat}{o:Obj}(h:w.heap[i]? = some o):w'.heap[i]? = some o:=by
 rw[k.block i (Array.getElem?_eq_some_iff.1 h).1];exact h
theorem Old.owns{w w':World}(k:Old w w'){B:Nat}{e:TypeId}{size:Nat}{v:Value}{n:Nat}{xs:List Value}(h:w.ownsRow B e size v n xs):w'.ownsRow B e size v n xs:=by
 obtain⟨h1,h2⟩:=h;refine⟨h1,?_⟩;rcases h2 with h2|⟨g,cap,cur,hv,hg',hh,r⟩
 ·exact .inl h2
 ·exact .inr ⟨g,cap,cur,hv,hg',k.at hh,r⟩
theorem Fin.go{u0 w w':World}{tb N fb:Nat}{lv:Value}{rows:List Nat}{M:Nat->Nat->Nat}(h:Fin u0 tb N lv fb rows M w)(k:Old w w'):Fin u0 tb N lv fb rows M w':=by
 obtain⟨h0,hge,qb,kv,m1,m2,m3,m4,m5,m6⟩:=h;exact⟨h0.trans k,hge,qb,kv,k.at m1,k.at m2,k.owns m3,m4,fun i r hr=>⟨(m5 i r hr).1,k.at (m5 i r hr).2⟩,m6⟩
theorem Fin.c0{u0 w:World}{tb N fb:Nat}{lv:Value}{rows:List Nat}{M:Nat->Nat->Nat}(h:Fin u0 tb N lv fb rows M w):w.cell? ⟨fb,0,none⟩=some (.pointer (some ⟨tb,0,none⟩))/\w.cell? ⟨fb,1,none⟩=some lv:=by
 obtain⟨h0,hge,qb,kv,m1,-⟩:=h;exact⟨(qAk m1).1.1,(qAk m1).1.2.1⟩
theorem qIv(b:BS)(par:Int):∀m,qCk b par m=-1\/(0<=qCk b par m/\qCk b par m<(m:Int))
 |0=>.inl rfl
 | m + 1 => by
  unfold qCk;split
  ·split
   ·exact .inr (by omega)
   ·rcases qIv b par m with h|h
    ·exact .inl h
    ·exact .inr (by omega)
  ·exact .inl rfl
theorem qFU(b:BS)(m:Nat):qA3 b m=-1\/(0<=qA3 b m/\qA3 b m<(m:Int)):=qIv b _ m
theorem qUE{b:BS}(hb:BOk b)(m:Nat):qFq b m=-1\/(0<=qFq b m/\qFq b m<(m:Int)):=by
 unfold qFq;split
 ·rename_i x hx;have:=hb.par m x hx;omega
 ·exact .inl rfl
section
variable{tb fb:Nat}{b:BS}{w:World}
theorem qOg{m:Nat}(hm:m<b.els.length):∃x,b.els[m]? = some x:=⟨b.els[m],List.getElem?_eq_getElem hm⟩
theorem qPt{m:Nat}{x:El}(hx:b.els[m]? = some x)(n:ByteArray):qCy b m n=qE6 x.attrs n:=by unfold qCy;rw[hx]
theorem qHR(hb:BOk b)(m:Nat)(hm:m<b.els.length)(w:World)(ht:TrC w tb b):Calls prog 65 #[.pointer (some ⟨tb,0,none⟩),.int .i64 (m:Int)] w fun e w'=>e=.returned (.int .i64 (qFq b m))/\w'=w:=by
 obtain⟨x,hx⟩:=qOg hm;rw[show qFq b m=x.parent from by unfold qFq;rw[hx]];exact qIA tb b m x w ht hx hb.n
theorem qFV(hb:BOk b)(m:Nat)(hm:m<b.els.length)(w:World)(ht:TrC w tb b):Calls prog 200 #[.pointer (some ⟨tb,0,none⟩),.int .i64 (m:Int)] w fun e w'=>e=.returned (.int .i64 (qA3 b m))/\Old w w':=by
 obtain⟨x,hx⟩:=qOg hm;refine(qST tb b m x w ht hx hb.n (hb.par m x hx).1).mono ?_;rintro e w'⟨rfl,h,-⟩;exact⟨rfl,.heap h⟩
theorem qSV(hb:BOk b)(m:Nat)(hm:m<b.els.length)(w:World)(ht:TrC w tb b):Calls prog 201 #[.pointer (some ⟨tb,0,none⟩),.int .i64 (m:Int)] w fun e w'=>e=.returned (.int .i64 (qPf b m))/\Old w w':=by
 obtain⟨x,hx⟩:=qOg hm;refine(qSU tb b m x w ht hx hb.n).mono ?_;rintro e w'⟨rfl,h,-⟩;exact⟨rfl,.heap h⟩
theorem qPv(hb:BOk b)(m:Nat)(hm:m<b.els.length)(n:ByteArray)(w:World)(ht:TrC w tb b):Calls prog 55 #[.pointer (some ⟨tb,0,none⟩),.int .i64 (m:Int),.string n] w fun e w'=>∃v h,e=.returned (.tuple #[.string v,.bool h])/\Hid (qCy b m n=(v,h))/\v.size<=5000/\(∀(j:Nat) c,v.data.toList[j]? = some c->c.toNat<128)/\Old w w':=by
 obtain⟨x,hx⟩:=qOg hm;refine(qVQ tb b m x n w ht hx hb.n (hb.ats m x hx).1).mono ?_;rintro e w'⟨rfl,h⟩;refine⟨_,_,rfl,?_,?_,?_,.ofBelow h⟩
 ·rw[qPt hx];rfl
 ·unfold qE6;split
  ·rename_i y hy;exact((hb.ats m x hx).2 y (List.mem_of_find?_eq_some hy)).1
  ·exact Nat.zero_le _
 ·unfold qE6;split
  ·rename_i y hy;exact((hb.ats m x hx).2 y (List.mem_of_find?_eq_some hy)).2
  ·intro j c h;simp at h
theorem qUm(hb:BOk b)(m:Nat)(hm:m<b.els.length)(w:World)(ht:TrC w tb b)(c0:w.cell? ⟨fb,0,none⟩=some (.pointer (some ⟨tb,0,none⟩)))(g o:Nat)(x:ByteArray)(hx:w.cell? ⟨g,o+1,none⟩=some (.string x)) :
  Calls prog 150 #[.pointer (some ⟨fb,0,none⟩),.int .i64 (m:Int),.pointer (some ⟨g,o,none⟩)] w fun e w'=>e=.returned (.bool ((qCy b m idW).2&&(qCy b m idW).1.toList==x.toList))/\Old w w':=by
 go_enter func150,ntmps150
 go_wp2_with fail
 refine(qPv hb m hm idW w ht).mono ?_;rintro e w1⟨v,h,rfl,HE,hv,ha,ho⟩;have hx1:=ho.cells _ _ hx;cases h
 ·go_wp2
  go_ret
  rw[HE.out];exact⟨rfl,ho⟩
 ·go_wp2
  go_ret
  rw[HE.out];exact⟨rfl,ho⟩
theorem qOo(hb:BOk b)(hg:GlF w)(m:Nat)(hm:m<b.els.length)(ht:TrC w tb b)(c0:w.cell? ⟨fb,0,none⟩=some (.pointer (some ⟨tb,0,none⟩)))(g o:Nat)(x:ByteArray)(hx:w.cell? ⟨g,o+1,none⟩=some (.string x)) :
  Calls prog 151 #[.pointer (some ⟨fb,0,none⟩),.int .i64 (m:Int),.pointer (some ⟨g,o,none⟩)] w fun e w'=>e=.returned (.bool ((qCy b m qK0).2&&qDg (qCy b m qK0).1 x))/\Old w w':=by
 go_enter func151,ntmps151
 go_wp2_with fail
 refine(qPv hb m hm qK0 w ht).mono ?_;rintro e w1⟨v,h,rfl,HE,hv,ha,ho⟩;have hx1:=ho.cells _ _ hx;cases h
 ·go_wp2
  go_ret
  rw[HE.out];exact⟨rfl,ho⟩
 ·go_wp2_with fail
  refine(qHx v x _ (hg.old ho) hv ha).mono ?_;rintro e w2⟨rfl,hb2⟩;go_wp2
  go_ret
  rw[HE.out];exact⟨rfl,ho.trans (.ofBelow hb2)⟩
theorem qIh(hb:BOk b)(hg:GlF w)(m:Nat)(hm:m<b.els.length)(ht:TrC w tb b)(c0:w.cell? ⟨fb,0,none⟩=some (.pointer (some ⟨tb,0,none⟩)))(g o:Nat)(a:AttrQ)(hv:a.val.size<=2000)
  (h2:w.cell? ⟨g,o+2,none⟩=some (.string a.name)) (h3:w.cell? ⟨g,o+3,none⟩=some (.string a.op)) (h4:w.cell? ⟨g,o+4,none⟩=some (.string a.val)) (h5:w.cell? ⟨g,o+5,none⟩=some (.bool a.any)) :
  Calls prog 152 #[.pointer (some ⟨fb,0,none⟩),.int .i64 (m:Int),.pointer (some ⟨g,o,none⟩)] w fun e w'=>e=.returned (.bool ((qCy b m a.name).2&&qHN (qCy b m a.name).1 a))/\Old w w':=by
 go_enter func152,ntmps152
 go_wp2
 go_region_with (go_at_call 55;refine(qPv hb m hm a.name _ (ht.drewN _)).mono ?_;rintro e w1 ⟨v,h,rfl,HE,hvs,ha,ho⟩)
 all_goals
  have ho':Old w w1:=⟨ho.size,ho.block⟩;have k2:=ho'.cells _ _ h2;have k3:=ho'.cells _ _ h3;have k4:=ho'.cells _ _ h4;have k5:=ho'.cells _ _ h5;cases h
  ·go_wp2
   go_ret
   rw[HE.out];exact⟨rfl,ho'⟩
  ·go_wp2_with fail
   refine(qQi v a _ (hg.old ho') hvs hv ha).mono ?_;rintro e w2⟨rfl,hb2⟩;go_wp2
   go_ret
   rw[HE.out];exact⟨rfl,ho'.trans (.ofBelow hb2)⟩
theorem qSy(hb:BOk b)(m:Nat)(hm:m<b.els.length)(ht:TrC w tb b)(c0:w.cell? ⟨fb,0,none⟩=some (.pointer (some ⟨tb,0,none⟩)))(sv:Value) :
  Calls prog 153 #[.pointer (some ⟨fb,0,none⟩),.int .i64 (m:Int),sv] w fun e w'=>e=.returned (.bool (decide (qFq b m=-1)))/\Old w w':=by
 go_enter func153,ntmps153
 go_wp2_with fail
 refine(qHR hb m hm _ ht).mono ?_;rintro e w1⟨rfl,rfl⟩;go_wp2
 go_ret
 exact⟨rfl,.refl _⟩
theorem qLN(hb:BOk b)(m:Nat)(hm:m<b.els.length)(w:World)(ht:TrC w tb b)(c0:w.cell? ⟨fb,0,none⟩=some (.pointer (some ⟨tb,0,none⟩)))(sv:Value) :
  Calls prog 155 #[.pointer (some ⟨fb,0,none⟩),.int .i64 (m:Int),sv] w fun e w'=>e=.returned (.bool (decide (qA3 b m=-1)))/\Old w w':=by
 go_enter func155,ntmps155
 go_wp2_with fail
 refine(qFV hb m hm _ ht).mono ?_;rintro e w1⟨rfl,ho⟩;go_wp2
 go_ret
 exact⟨rfl,ho⟩
theorem qNT(hb:BOk b)(m:Nat)(hm:m<b.els.length)(w:World)(ht:TrC w tb b)(c0:w.cell? ⟨fb,0,none⟩=some (.pointer (some ⟨tb,0,none⟩)))(sv:Value) :
  Calls prog 156 #[.pointer (some ⟨fb,0,none⟩),.int .i64 (m:Int),sv] w fun e w'=>e=.returned (.bool (decide (qPf b m=-1)))/\Old w w':=by
 go_enter func156,ntmps156
 go_wp2_with fail
 refine(qSV hb m hm _ ht).mono ?_;rintro e w1⟨rfl,ho⟩;go_wp2
 go_ret
 exact⟨rfl,ho⟩
theorem qNO(hb:BOk b)(m:Nat)(hm:m<b.els.length)(w:World)(ht:TrC w tb b)(c0:w.cell? ⟨fb,0,none⟩=some (.pointer (some ⟨tb,0,none⟩)))(sv:Value)(v:Bool)(hv:decide (qA3 b m=-1)=v) :
  Calls prog 155 #[.pointer (some ⟨fb,0,none⟩),.int .i64 (m:Int),sv] w fun e w'=>e=.returned (.bool v)/\Old w w':=hv▸qLN hb m hm w ht c0 sv
theorem qSx(hb:BOk b)(m:Nat)(hm:m<b.els.length)(w:World)(ht:TrC w tb b)(c0:w.cell? ⟨fb,0,none⟩=some (.pointer (some ⟨tb,0,none⟩)))(sv:Value) :
  Calls prog 157 #[.pointer (some ⟨fb,0,none⟩),.int .i64 (m:Int),sv] w fun e w'=>e=.returned (.bool (decide (qA3 b m=-1)&&decide (qPf b m=-1)))/\Old w w':=by
 cases h1:decide (qA3 b m=-1)
 ·have H1:=qAF h1;clear h1;go_enter func157,ntmps157
  go_wp2_with fail
  refine(qNO hb m hm _ ht c0 sv false H1.out).mono ?_;rintro e w1⟨rfl,ho⟩;go_wp2
  go_ret
  exact⟨rfl,ho⟩
 ·have H1:=qAF h1;clear h1;go_enter func157,ntmps157
  go_wp2_with fail
  refine(qNO hb m hm _ ht c0 sv true H1.out).mono ?_;rintro e w1⟨rfl,ho⟩;go_wp2_with fail
  refine(qNT hb m hm _ (ho.tr ht) (ho.cells _ _ c0) sv).mono ?_;rintro e w2⟨rfl,ho2⟩;go_wp2
  go_ret
  exact⟨rfl,ho.trans ho2⟩
theorem qQj(hb:BOk b)(m:Nat)(hm:m<b.els.length)(w:World)(ht:TrC w tb b)(c0:w.cell? ⟨fb,0,none⟩=some (.pointer (some ⟨tb,0,none⟩)))(sv:Value) :
  Calls prog 154 #[.pointer (some ⟨fb,0,none⟩),.int .i64 (m:Int),sv] w fun e w'=>e=.returned (.bool (!qGk b m&&(qN7 b m).toList.isEmpty))/\Old w w':=by
 obtain⟨x,hx⟩:=qOg hm;have HT:Hid (qN7 b m=qM2 b x):=by unfold qN7;rw[hx];rfl
 obtain⟨t1,t2,t3⟩:=hb.txt m x hx;go_enter func154,ntmps154
 go_wp2_with fail
 refine(qUl tb b m x _ ht hx hb.n).mono ?_;rintro e w1⟨rfl,rfl⟩;obtain⟨h,H⟩:∃h,Hid (qGk b m=h):=⟨_,rfl⟩;rw[H.out];cases h
 ·go_wp2_with fail
  refine(qN8 tb b m x _ ht hx hb.n t1 t2 t3).mono ?_;rintro e w2⟨rfl,hb2⟩;go_wp2
  go_ret
  rw[HT.out,H.out];exact⟨rfl,.ofBelow hb2⟩
 ·go_wp2
  go_ret
  rw[H.out];exact⟨rfl,.refl _⟩
end
theorem qUp{tb fb:Nat}{b:BS}{w:World}(hb:BOk b)(m:Nat)(hm:m<b.els.length)(ht:TrC w tb b)(c0:w.cell? ⟨fb,0,none⟩=some (.pointer (some ⟨tb,0,none⟩)))(g o:Nat)(t:NthQ)(ha:-100<t.a/\t.a<100)(hbb:-100<t.b/\t.b<100)
  (h6:w.cell? ⟨g,o+6,none⟩=some (.string t.word)) (h7:w.cell? ⟨g,o+7,none⟩=some (.bool t.hasN)) (h8:w.cell? ⟨g,o+8,none⟩=some (.int .i64 t.a)) (h9:w.cell? ⟨g,o+9,none⟩=some (.int .i64 t.b)) :
  Calls prog 158 #[.pointer (some ⟨fb,0,none⟩),.int .i64 (m:Int),.pointer (some ⟨g,o,none⟩)] w fun e w'=>e=.returned (.bool (qHZ (qDX b (m+1) m) t))/\Old w w':=by
 have hn:=hb.n;go_enter func158,ntmps158
 go_wp2_with fail
 refine(qFV hb m hm _ ht).mono ?_;rintro e w1⟨rfl,ho⟩;go_wp2_with fail
 go_loopw [7,8] (fun nv mv wr=>∃(cur f n1:Nat),nv=.int .i64 (n1:Int)/\mv=.int .i64 (qA3 b cur)/\cur<f/\(cur<=m/\n1+cur<=m+1/\1<=n1)/\Hid (n1+qDX b f cur=qDX b (m+1) m+1)/\Old w wr) (fun _ mv _=>(intOf mv+1).toNat)
 case atStart=>exact⟨m,m+1,1,rfl,rfl,by omega,⟨Nat.le_refl _,by omega,by omega⟩,qAF (by omega),ho⟩
 case round =>
  obtain⟨cur,f,n1,rfl,rfl,hf,⟨hc,hnc,h1⟩,HN,hor⟩:=hrel;obtain⟨f,rfl⟩:∃f',f=f'+1:=⟨f-1,by omega⟩;have k0:=hor.cells _ _ c0;rcases qFU b cur with hq|hq
  ·have HE:Hid (qDX b (m+1) m=n1):=by
    have:=HN.out;rw[show qDX b (f+1) cur=1 from by unfold qDX;rw[if_pos (by omega)]]at this;exact qAF (by omega)
   have k6:=hor.cells _ _ h6;have k7:=hor.cells _ _ h7;have k8:=hor.cells _ _ h8;have k9:=hor.cells _ _ h9;rw[hq];clear hq HN;go_wp2_with fail
   refine(qQh n1 t _ (by omega) ha hbb).mono ?_;rintro e w2⟨rfl,hb2⟩;go_wp2
   go_ret
   rw[HE.out];exact⟨rfl,hor.trans (.ofBelow hb2)⟩
  ·obtain⟨j,hj⟩:∃j:Nat,qA3 b cur=(j:Int):=⟨(qA3 b cur).toNat,by omega⟩;have HE:Hid (n1+1+qDX b f j=qDX b (m+1) m+1):=by
    have:=HN.out;rw[show qDX b (f+1) cur=qDX b f j+1 from by conv=>lhs;unfold qDX;rw[if_neg (by omega),hj,Int.toNat_natCast]]at this;exact qAF (by omega)
   rw[hj]at hq ⊢;have hne:((j:Int) == -1)=false:=by simp
   clear hj HN;go_wp2_with fail
   refine(qFV hb j (by omega) _ (hor.tr ht)).mono ?_;rintro e w2⟨rfl,ho2⟩;go_wp2
   go_roundw
   case rel=>exact⟨j,f,n1+1,by simp,rfl,by omega,⟨by omega,by omega,by omega⟩,HE,hor.trans ho2⟩
   case measure =>
    rcases qFU b j with h|h
    ·rw[h];simp[intOf]
    ·simp[intOf];omega
theorem qQf{tb fb:Nat}{b:BS}{w:World}(hb:BOk b)(m:Nat)(hm:m<b.els.length)(ht:TrC w tb b)(c0:w.cell? ⟨fb,0,none⟩=some (.pointer (some ⟨tb,0,none⟩)))(n:ByteArray) :
  Calls prog 234 #[.pointer (some ⟨fb,0,none⟩),.int .i64 (m:Int),.string n] w fun e w'=>e=.returned (.bool (qQw b n m))/\Old w w':=by
 obtain⟨x,hx⟩:=qOg hm;have HX:Hid (qCF b m=x.name):=by unfold qCF;rw[hx];rfl
 unfold qQw;rw[HX.out];cases h1:n.toList.isEmpty
 ·cases h2:(n.toList==[42])
  ·go_enter func234,ntmps234
   go_wp2_with fail
   refine(qQx tb b m x _ ht hx hb.n).mono ?_;rintro e w1⟨rfl,rfl⟩;go_wp2
   go_ret
   exact⟨rfl,.refl _⟩
  ·go_enter func234,ntmps234
   go_wp2
   go_ret
   exact⟨rfl,.refl _⟩
 ·go_enter func234,ntmps234
  go_wp2
  go_ret
  exact⟨rfl,.refl _⟩
def wfN:Nat->qAg->Prop
 |0,l=>l=[]
 |n+1,l=>∀c∈l,wfC (wfN n) c/\c≠[]
theorem qEK{lf:Nat->Nat×Option (qAg×Nat×Nat)}{s:ByteArray}{W:qAg->Prop}(hg:∀p,p<=s.size->Gd s p (lf p))(hl:LWf lf s W):∀f l c d p,p<=s.size->(∀c∈l,wfC W c/\c≠[])->∀x,(qBI lf s f l c d p).2=some x->(∀c∈x.1,wfC W c/\c≠[])/\x.1≠[]
 |0,l,c,d,p,hp,hw,x,h=>by simp[qBI]at h
 | f + 1, l, c, d, p, hp, hw, x, h => by
  rw[qBI]at h;have h0:=spP_le hp;have h1:=qHh hg hl (s.size+1) [] 0 0 0 (spP s p) h0.2 (fun i st hi=>by simp at hi) ⟨fun _=>rfl,fun e=>absurd rfl e⟩;generalize qAN lf s (s.size+1) [] 0 0 0 (spP s p)=r at h h1;obtain⟨q,o⟩:=r;cases o with
  |none=>cases h
  | some y =>
   dsimp only at h h1;have g1:=h1 y rfl;have hw':∀c∈l++[y.1],wfC W c/\c≠[]:=by
    intro c hc;rcases List.mem_append.1 hc with hc|hc
    ·exact hw c hc
    ·rw[List.mem_singleton.1 hc];exact g1
   by_cases hc:qAC s q=44
   ·rw[if_pos hc]at h;have hq:=qB9 hc (by decide);exact qEK hg hl f (l++[y.1]) (c+y.2.1) (max d y.2.2) (q+1) hq hw' x h
   ·rw[if_neg hc]at h;simp only[Option.some.injEq]at h;subst h;exact⟨hw',by simp⟩
theorem qNV(s:ByteArray):∀n,LWf (qAP s n) s (wfN n)
 |0=>fun p x hp h=>by simp[qAP]at h
 |n+1=>fun p x hp h=>qEK (qB0 s n) (qNV s n) (s.size+1) [] 0 0 p hp (by simp) x h
structure Env(u0:World)(tb:Nat)(b:BS)(A:List Cpx):Prop where
 tree:TrC u0 tb b
 glob:GlF u0
 ok:BOk b
 an:A.length<=3000
def vd(r:Bool):Nat:=if r=true then 1 else 2
noncomputable def szc(c:Cpx):Nat:=SizeOf.sizeOf c
noncomputable def szl(l:qAg):Nat:=SizeOf.sizeOf l
def RightTo(b:BS)(A:List Cpx)(σ:Nat)(M:Nat->Nat->Nat):Prop:=∀(k:Nat)(c:Cpx)(m:Nat),A[k]? = some c->szc c<σ->m<b.els.length->M k m=0\/M k m=vd (qBh b c m)
def UpM(b:BS)(A:List Cpx)(M M':Nat->Nat->Nat):Prop:=∀(k m:Nat),M' k m=M k m\/∃c,A[k]? = some c/\M' k m=vd (qBh b c m)
theorem UpM.refl(b:BS)(A:List Cpx)(M:Nat->Nat->Nat):UpM b A M M:=fun _ _=>.inl rfl
theorem UpM.trans{b:BS}{A:List Cpx}{M M1 M2:Nat->Nat->Nat}(h:UpM b A M M1)(k:UpM b A M1 M2):UpM b A M M2:=fun i m=>by
 rcases k i m with e|e
 ·rw[e];exact h i m
 ·exact .inr e
theorem RightTo.up{b:BS}{A:List Cpx}{σ:Nat}{M M':Nat->Nat->Nat}(h:RightTo b A σ M)(k:UpM b A M M'):RightTo b A σ M':=fun i c m hc hs hm=>by
 rcases k i m with e|⟨c',hc',e⟩
 ·rw[e];exact h i c m hc hs hm
 ·rw[hc]at hc';obtain rfl:=Option.some.inj hc';exact .inr e
theorem RightTo.mono{b:BS}{A:List Cpx}{σ τ:Nat}{M:Nat->Nat->Nat}(h:RightTo b A σ M)(hle:τ<=σ):RightTo b A τ M:=fun i c m hc hs hm=>h i c m hc (by omega) hm
def Ans(u0:World)(tb:Nat)(b:BS)(lv:Value)(A:List Cpx)(fb:Nat)(rows:List Nat)(M:Nat->Nat->Nat)(r:Bool)(e:Ending)(w':World):Prop :=
 e=.returned (.bool r)/\∃rows' M',Fin u0 tb b.els.length lv fb rows' M' w'/\rows <+: rows'/\UpM b A M M'
theorem Ans.same{u0 w w':World}{tb fb:Nat}{b:BS}{lv:Value}{A:List Cpx}{rows:List Nat}{M:Nat->Nat->Nat}{r:Bool}(h:Fin u0 tb b.els.length lv fb rows M w)(k:Old w w'):Ans u0 tb b lv A fb rows M r (.returned (.bool r)) w':=⟨rfl,rows,M,h.go k,List.prefix_refl _,UpM.refl _ _ _⟩
section
variable(u0:World)(tb:Nat)(b:BS)(lv:Value)(A:List Cpx)
def qE4(σ:Nat):Prop:=∀(d:Nat)(v:Value)(c:Cpx),szc c<σ->c≠[]->wfC (wfN d) c->selC A u0 (SelL A u0 d) v c->∀(fb m:Nat)(rows:List Nat)(M:Nat->Nat->Nat)(w:World),m<b.els.length->Fin u0 tb b.els.length lv fb rows M w->RightTo b A (szc c+1) M ->
 Calls prog 175 #[.pointer (some ⟨fb,0,none⟩),v,.int .i64 (m:Int)] w (Ans u0 tb b lv A fb rows M (qBh b c m))
def qE3(σ:Nat):Prop:=∀(d:Nat)(v:Value)(l:qAg),szl l<σ->wfN d l->SelL A u0 d v l->∀(fb m:Nat)(rows:List Nat)(M:Nat->Nat->Nat)(w:World),m<b.els.length->Fin u0 tb b.els.length lv fb rows M w->RightTo b A (szl l) M ->
 Calls prog 130 #[.pointer (some ⟨fb,0,none⟩),v,.int .i64 (m:Int)] w (Ans u0 tb b lv A fb rows M (qDV b l m))
end
section
variable{u0:World}{tb:Nat}{b:BS}{lv:Value}{A:List Cpx}
theorem qXC{σ:Nat}(IH:qE3 u0 tb b lv A σ){d:Nat}{v:Value}{l:qAg}(hl:szl l<σ)(hw:wfN d l)(hs:SelL A u0 d v l)(fb m:Nat)(rows:List Nat)(M:Nat->Nat->Nat)(w:World)(hm:m<b.els.length)(hF:Fin u0 tb b.els.length lv fb rows M w)(hR:RightTo b A (szl l) M)
  (g o:Nat) (hc:u0.cell? ⟨g,o+10,none⟩=some v):Calls prog 160 #[.pointer (some ⟨fb,0,none⟩),.int .i64 (m:Int),.pointer (some ⟨g,o,none⟩)] w (Ans u0 tb b lv A fb rows M (qDV b l m)):=by
 have c10:=hF.old.cells _ _ hc;obtain⟨ao,cp,rfl⟩:=hs.shape;go_enter func160,ntmps160
 go_wp2_with fail
 refine(IH d _ l hl hw hs fb m rows M _ hm hF hR).mono ?_;rintro e w1⟨rfl,H⟩;go_wp2
 go_ret
 exact⟨rfl,H⟩
theorem qUo{σ:Nat}(IH:qE3 u0 tb b lv A σ){d:Nat}{v:Value}{l:qAg}(hl:szl l<σ)(hw:wfN d l)(hs:SelL A u0 d v l)(fb m:Nat)(rows:List Nat)(M:Nat->Nat->Nat)(w:World)(hm:m<b.els.length)(hF:Fin u0 tb b.els.length lv fb rows M w)(hR:RightTo b A (szl l) M)
  (g o:Nat) (hc:u0.cell? ⟨g,o+10,none⟩=some v):Calls prog 159 #[.pointer (some ⟨fb,0,none⟩),.int .i64 (m:Int),.pointer (some ⟨g,o,none⟩)] w (Ans u0 tb b lv A fb rows M (!qDV b l m)):=by
 go_enter func159,ntmps159
 go_wp2_with fail
 refine(qXC IH hl hw hs fb m rows M _ hm hF hR g o hc).mono ?_;rintro e w1⟨rfl,H⟩;go_wp2
 go_ret
 exact⟨rfl,H⟩
def qf(k:Nat):FuncId:=match k with|0=>150|1=>151|2=>152|3=>153|4=>154|5=>155|6=>156|7=>157|8=>158|9=>159|_=>160
theorem qRI{k:Nat}(h:k<11):qNl[k]? = some (.func (.func (qf k)) #[] #[]):=by
 rcases k with _|_|_|_|_|_|_|_|_|_|_|k<;>first|rfl|omega
theorem qTe(E:Env u0 tb b A){σ:Nat}(IH:qE3 u0 tb b lv A σ){d k:Nat}{x:ByteArray}{a:AttrQ}{t:NthQ}{l:qAg}{v:Value}(hw:wfS (wfN d) (.mk k x a t l))(hl:szl l<σ)(hv:a.val.size<=2000)(hs:SelL A u0 d v l)(fb m:Nat)(rows:List Nat)(M:Nat->Nat->Nat)(w:World)(hm:m<b.els.length)(hF:Fin u0 tb b.els.length lv fb rows M w)(hR:RightTo b A (szl l) M)
  (g o:Nat) (hc:∀j y,(qBJ k x a t v)[j]? = some y->u0.cell? ⟨g,o+j,none⟩=some y):Calls prog (qf k) #[.pointer (some ⟨fb,0,none⟩),.int .i64 (m:Int),.pointer (some ⟨g,o,none⟩)] w (Ans u0 tb b lv A fb rows M (qIL b (qDV b) (.mk k x a t l) m)):=by
 have ht:=hF.old.tr E.tree;have hg:=E.glob.old hF.old;have c0:=hF.c0.1;have at':∀j y,(qBJ k x a t v)[j]? = some y->w.cell? ⟨g,o+j,none⟩=some y:=fun j y h=>hF.old.cells _ _ (hc j y h);obtain⟨h11,h8,h9,-⟩:=hw;have go:∀{f:FuncId}{r r':Bool},r=r'->Calls prog f #[.pointer (some ⟨fb,0,none⟩),.int .i64 (m:Int),.pointer (some ⟨g,o,none⟩)] w (fun e w'=>e=.returned (.bool r)/\Old w w')->Calls prog f #[.pointer (some ⟨fb,0,none⟩),.int .i64 (m:Int),.pointer (some ⟨g,o,none⟩)] w (Ans u0 tb b lv A fb rows M r'):=fun e h=>h.mono fun e' w' ⟨he,ho⟩=>by rw[he,e];exact Ans.same hF ho
 rcases k with _|_|_|_|_|_|_|_|_|_|_|k
 ·exact go rfl (qUm E.ok m hm w ht c0 g o x (at' 1 _ rfl))
 ·exact go rfl (qOo E.ok hg m hm ht c0 g o x (at' 1 _ rfl))
 ·exact go rfl (qIh E.ok hg m hm ht c0 g o a hv (at' 2 _ rfl) (at' 3 _ rfl) (at' 4 _ rfl) (at' 5 _ rfl))
 ·exact go rfl (qSy E.ok m hm ht c0 _)
 ·exact go rfl (qQj E.ok m hm w ht c0 _)
 ·exact go rfl (qLN E.ok m hm w ht c0 _)
 ·exact go rfl (qNT E.ok m hm w ht c0 _)
 ·exact go rfl (qSx E.ok m hm w ht c0 _)
 ·exact go rfl (qUp E.ok m hm ht c0 g o t (h8 rfl).1 (h8 rfl).2 (at' 6 _ rfl) (at' 7 _ rfl) (at' 8 _ rfl) (at' 9 _ rfl))
 ·exact qUo IH hl (h9 (by omega)).2 hs fb m rows M w hm hF hR g o (hc 10 _ rfl)
 ·exact qXC IH hl (h9 (by omega)).2 hs fb m rows M w hm hF hR g o (hc 10 _ rfl)
 ·omega
end
