/-
  Parts of the proof: T1, U1.
-/
import Derived.Test.YtclpcnignheijaaGreatDoorQ7
namespace Go.Proofs.YtclpcnignheijaaGreatDoor
open Go.RowKit Go.Proofs.Tryz
structure Lay where
 tC:TypeId
 tS:TypeId
 tM:TypeId
 size:Nat
 cells:Nat->ByteArray->AttrQ->NthQ->Value->List Value
 len:∀k x a t v,(cells k x a t v).length=size
 stp:Nat
 pre:List Value->Prop
 plen:∀l,pre l->l.length+3=stp
def Row{α:Type}(R:α->List Value->Prop):List α->List Value->Prop
 |[],xs=>xs=[]
 |a::l,xs=>∃c r,xs=c++r/\R a c/\Row R l r
theorem Row.mono{α:Type}{R R':α->List Value->Prop}(h:∀a c,R a c->R' a c):∀{l:List α}{xs:List Value},Row R l xs->Row R' l xs
 |[],_,hx=>hx
 |_::_,_,⟨c,r,e,h1,h2⟩=>⟨c,r,e,h _ _ h1,Row.mono h h2⟩
theorem Row.snoc{α:Type}{R:α->List Value->Prop}{a:α}{c:List Value}(ha:R a c):∀{l:List α}{xs:List Value},Row R l xs->Row R (l++[a]) (xs++c)
 |[],xs,hx=>by
  have hx':xs=[]:=hx;subst hx';exact⟨c,[],by simp,ha,rfl⟩
 |b::l,xs,⟨d,r,e,h1,h2⟩=>⟨d,r++c,by rw[e,List.append_assoc],h1,Row.snoc ha h2⟩
theorem Row.get{α:Type}{R:α->List Value->Prop}{m:Nat}(hm:∀a c,R a c->c.length=m):∀{l:List α}{xs:List Value}{k:Nat}{a:α},Row R l xs->l[k]? = some a->∃c,R a c/\∀j,j<m->xs[k*m+j]? = c[j]?
 |[],_,_,_,_,hk=>by simp at hk
 |b::l,xs,0,a,⟨c,r,e,h1,_⟩,hk=>by
  simp at hk;subst hk;refine⟨c,h1,fun j hj=>?_⟩;rw[e,Nat.zero_mul,Nat.zero_add,List.getElem?_append_left (by rw[hm _ _ h1];exact hj)]
 |b::l,xs,k+1,a,⟨c,r,e,h1,h2⟩,hk=>by
  obtain⟨d,hd,hj⟩:=Row.get hm h2 (by simpa using hk);refine⟨d,hd,fun j hjm=>?_⟩;have hc:=hm _ _ h1;rw[e,List.getElem?_append_right (by rw[hc,Nat.add_mul];omega),hc,show(k+1)*m+j-m=k*m+j from by rw[Nat.add_mul];omega];exact hj j hjm
def Own(P:Nat->Prop)(w:World)(e:TypeId)(size:Nat)(v:Value)(n:Nat)(xs:List Value):Prop:=w.ownsRow 0 e size v n xs/\∀g,v.ownBlock=some g->P g
theorem Own.map{P P':Nat->Prop}{w w':World}{e:TypeId}{size:Nat}{v:Value}{n:Nat}{xs:List Value}(h:Own P w e size v n xs)
  (hf:∀g c,P g->w.heap[g]? = some (.cells c e (0,0))->P' g/\w'.heap[g]? = some (.cells c e (0,0))):Own P' w' e size v n xs:=by
 obtain⟨⟨h1,h2⟩,h3⟩:=h;rcases h2 with⟨hv,hn⟩|⟨g,cap,cur,hv,hg,hh,r⟩
 ·refine⟨⟨h1,.inl ⟨hv,hn⟩⟩,fun g hg=>?_⟩;rw[hv]at hg;simp[Value.ownBlock]at hg
 ·have hb:v.ownBlock=some g:=by rw[hv];rfl
  obtain⟨a1,a2⟩:=hf g cur (h3 g hb) hh;refine⟨⟨h1,.inr ⟨g,cap,cur,hv,hg,a2,r⟩⟩,fun g' hg'=>?_⟩;rw[hb]at hg';obtain rfl:=Option.some.inj hg';exact a1
section
variable(L:Lay)
def repS(RL:Value->qAg->Prop):Sim->List Value->Prop
 |.mk k x a t l,vs=>∃v,vs=L.cells k x a t v/\RL v l
def repM(P:Nat->Prop)(w:World)(RL:Value->qAg->Prop)(v:Value)(ms:List Sim):Prop:=∃xs,Own P w L.tM L.size v ms.length xs/\Row (repS L RL) ms xs
def repT(P:Nat->Prop)(w:World)(RL:Value->qAg->Prop)(st:Stp)(vs:List Value):Prop:=∃v pr,vs=pr++[.int .u8 st.1,.string st.2.1,v]/\L.pre pr/\repM L P w RL v st.2.2
def repC(P:Nat->Prop)(w:World)(RL:Value->qAg->Prop)(v:Value)(c:Cpx):Prop:=∃xs,Own P w L.tS L.stp v c.length xs/\Row (repT L P w RL) c xs
def repL(P:Nat->Prop)(w:World)(RL:Value->qAg->Prop)(v:Value)(l:qAg):Prop:=∃xs,Own P w L.tC 1 v l.length xs/\Row (fun c vs=>∃v',vs=[v']/\repC L P w RL v' c) l xs
def RepL(P:Nat->Prop)(w:World):Nat->Value->qAg->Prop
 |0,v,l=>v=.slice none 0 0/\l=[]
 |n+1,v,l=>repL L P w (RepL P w n) v l
end
def Fr(L:Lay)(P P':Nat->Prop)(w w':World):Prop:=∀g c t,P g->w.heap[g]? = some (.cells c t (0,0))->(t=L.tC\/t=L.tS\/t=L.tM)->P' g/\w'.heap[g]? = some (.cells c t (0,0))
section
variable{L:Lay}{P P':Nat->Prop}{w w':World}
theorem repS.map{RL RL':Value->qAg->Prop}(hr:∀v l,RL v l->RL' v l){m:Sim}{vs:List Value}(h:repS L RL m vs):repS L RL' m vs:=by
 obtain⟨k,x,a,t,l⟩:=m;obtain⟨v,e,h⟩:=h;exact⟨v,e,hr v l h⟩
theorem repM.map(hf:Fr L P P' w w'){RL RL':Value->qAg->Prop}(hr:∀v l,RL v l->RL' v l){v:Value}{ms:List Sim}(h:repM L P w RL v ms):repM L P' w' RL' v ms:=by
 obtain⟨xs,h1,h2⟩:=h;exact⟨xs,h1.map fun g c hp hg=>hf g c _ hp hg (.inr (.inr rfl)),h2.mono fun _ _ h=>h.map hr⟩
theorem repT.map(hf:Fr L P P' w w'){RL RL':Value->qAg->Prop}(hr:∀v l,RL v l->RL' v l){st:Stp}{vs:List Value}(h:repT L P w RL st vs):repT L P' w' RL' st vs:=by
 obtain⟨v,pr,e,hp,h⟩:=h;exact⟨v,pr,e,hp,h.map hf hr⟩
theorem repC.map(hf:Fr L P P' w w'){RL RL':Value->qAg->Prop}(hr:∀v l,RL v l->RL' v l){v:Value}{c:Cpx}(h:repC L P w RL v c):repC L P' w' RL' v c:=by
 obtain⟨xs,h1,h2⟩:=h;exact⟨xs,h1.map fun g c hp hg=>hf g c _ hp hg (.inr (.inl rfl)),h2.mono fun _ _ h=>h.map hf hr⟩
theorem repL.map(hf:Fr L P P' w w'){RL RL':Value->qAg->Prop}(hr:∀v l,RL v l->RL' v l){v:Value}{l:qAg}(h:repL L P w RL v l):repL L P' w' RL' v l:=by
 obtain⟨xs,h1,h2⟩:=h;exact⟨xs,h1.map fun g c hp hg=>hf g c _ hp hg (.inl rfl),h2.mono fun _ _ ⟨v',e,h⟩=>⟨v',e,h.map hf hr⟩⟩
theorem RepL.map(hf:Fr L P P' w w'):∀{n:Nat}{v:Value}{l:qAg},RepL L P w n v l->RepL L P' w' n v l
 |0,_,_,h=>h
 |_+1,_,_,h=>repL.map hf (fun _ _ h=>RepL.map hf h) h
theorem RepL.nil(L:Lay)(P:Nat->Prop)(w:World):∀n,RepL L P w n (.slice none 0 0) []
 |0=>⟨rfl,rfl⟩
 |_+1=>⟨[],⟨World.ownsRow_nil _ _ _ _,fun g hg=>by simp[Value.ownBlock]at hg⟩,rfl⟩
theorem repM.mp(hf:Fr L P P' w w'){n:Nat}{v:Value}{ms:List Sim}(h:repM L P w (RepL L P w n) v ms):repM L P' w' (RepL L P' w' n) v ms:=h.map hf fun _ _ h=>h.map hf
theorem repT.mp(hf:Fr L P P' w w'){n:Nat}{st:Stp}{vs:List Value}(h:repT L P w (RepL L P w n) st vs):repT L P' w' (RepL L P' w' n) st vs:=h.map hf fun _ _ h=>h.map hf
theorem repC.mp(hf:Fr L P P' w w'){n:Nat}{v:Value}{c:Cpx}(h:repC L P w (RepL L P w n) v c):repC L P' w' (RepL L P' w' n) v c:=h.map hf fun _ _ h=>h.map hf
theorem repS.mp(hf:Fr L P P' w w'){n:Nat}{m:Sim}{vs:List Value}(h:repS L (RepL L P w n) m vs):repS L (RepL L P' w' n) m vs:=h.map fun _ _ h=>h.map hf
theorem repS.len{RL:Value->qAg->Prop}{m:Sim}{vs:List Value}(h:repS L RL m vs):vs.length=L.size:=by
 obtain⟨k,x,a,t,l⟩:=m;obtain⟨v,e,_⟩:=h;rw[e];exact L.len _ _ _ _ _
theorem repT.len{RL:Value->qAg->Prop}{st:Stp}{vs:List Value}(h:repT L P w RL st vs):vs.length=L.stp:=by
 obtain⟨v,pr,e,hp,_⟩:=h;rw[e,List.length_append];exact L.plen pr hp
theorem Fr.ofKp{B:Nat}{T:List TypeId}(k:Kp B T w w')(h1:L.tC ∉ T)(h2:L.tS ∉ T)(h3:L.tM ∉ T)(hp:∀g,P g->P' g):Fr L P P' w w':=by
 intro g c t hg hb ht;refine⟨hp g hg,k.at hb ?_⟩;rcases ht with rfl|rfl|rfl
 ·exact h1
 ·exact h2
 ·exact h3
theorem Fr.same(hp:∀g,P g->P' g):Fr L P P' w w:=fun g _ _ hg hb _=>⟨hp g hg,hb⟩
theorem Fr.alloc(o:Obj)(hp:∀g,P g->P' g):Fr L P P' w (w.alloc o):=fun g _ _ hg hb _=>⟨hp g hg,qAG hb o⟩
theorem Fr.grown{row:Option Nat}{g:Nat}(hg:w.grownBy w' row)(hat:row=some g\/g=w.heap.size)(hp:∀k,P k->row≠some k)(hp':∀k,P k->k≠g->P' k):Fr L P P' w w':=by
 intro k c t hk hb _;have hlt:=lt_of_block hb;refine⟨hp' k hk ?_,by rw[hg.block k hlt (Ne.symm (hp k hk))];exact hb⟩;rintro rfl;rcases hat with h|h
 ·exact hp _ hk h
 ·omega
end
theorem qAY{w:World}{b:Nat}{x0 x1 x2 x3 x4 x5 x6 x7 x8 x9 x10:Value}{t:TypeId}(h:w.heap[b]? = some (.cells #[x0,x1,x2,x3,x4,x5,x6,x7,x8,x9,x10] t (0,0))) :
  (w.cell? ⟨b,0,none⟩=some x0/\w.cell? ⟨b,1,none⟩=some x1/\w.cell? ⟨b,2,none⟩=some x2/\w.cell? ⟨b,3,none⟩=some x3/\w.cell? ⟨b,4,none⟩=some x4/\w.cell? ⟨b,5,none⟩=some x5/\w.cell? ⟨b,6,none⟩=some x6/\w.cell? ⟨b,7,none⟩=some x7/\w.cell? ⟨b,8,none⟩=some x8/\w.cell? ⟨b,9,none⟩=some x9/\w.cell? ⟨b,10,none⟩=some x10)/\(w.frozen? ⟨b,0,none⟩=false/\w.frozen? ⟨b,1,none⟩=false/\w.frozen? ⟨b,2,none⟩=false/\w.frozen? ⟨b,3,none⟩=false/\w.frozen? ⟨b,4,none⟩=false/\w.frozen? ⟨b,5,none⟩=false/\w.frozen? ⟨b,6,none⟩=false/\w.frozen? ⟨b,7,none⟩=false/\w.frozen? ⟨b,8,none⟩=false/\w.frozen? ⟨b,9,none⟩=false/\w.frozen? ⟨b,10,none⟩=false):=by simp[World.cell?,World.frozen?,h]
theorem qMS{w:World}{R:Nat}{t:TypeId}{x0 x1 x2 x3 x4 x5 x6 x7 x8 x9 x10:Value}(h:w.heap[R]? = some (.cells #[x0,x1,x2,x3,x4,x5,x6,x7,x8,x9,x10] t (0,0)))(v0 v1 v2 v3 v4 v5 v6 v7 v8 v9 v10:Value) :
  (((((((((((w.setCell ⟨R,0,none⟩ v0).setCell ⟨R,1,none⟩ v1).setCell ⟨R,2,none⟩ v2).setCell ⟨R,3,none⟩ v3).setCell ⟨R,4,none⟩ v4).setCell ⟨R,5,none⟩ v5).setCell ⟨R,6,none⟩ v6).setCell ⟨R,7,none⟩ v7).setCell ⟨R,8,none⟩ v8).setCell ⟨R,9,none⟩ v9).setCell ⟨R,10,none⟩ v10).heap[R]? = some (.cells #[v0,v1,v2,v3,v4,v5,v6,v7,v8,v9,v10] t (0,0)) /\
  Kp 0 [t] w (((((((((((w.setCell ⟨R,0,none⟩ v0).setCell ⟨R,1,none⟩ v1).setCell ⟨R,2,none⟩ v2).setCell ⟨R,3,none⟩ v3).setCell ⟨R,4,none⟩ v4).setCell ⟨R,5,none⟩ v5).setCell ⟨R,6,none⟩ v6).setCell ⟨R,7,none⟩ v7).setCell ⟨R,8,none⟩ v8).setCell ⟨R,9,none⟩ v9).setCell ⟨R,10,none⟩ v10):=by
 have h0:=qAZ (o:=0) h v0;have h1:=qAZ (o:=1) h0 v1;have h2:=qAZ (o:=2) h1 v2;have h3:=qAZ (o:=3) h2 v3;have h4:=qAZ (o:=4) h3 v4;have h5:=qAZ (o:=5) h4 v5;have h6:=qAZ (o:=6) h5 v6;have h7:=qAZ (o:=7) h6 v7;have h8:=qAZ (o:=8) h7 v8;have h9:=qAZ (o:=9) h8 v9;have h10:=qAZ (o:=10) h9 v10;have hm:t∈[t]:=List.mem_singleton.mpr rfl;have hz:∀k:Nat,0<=k:=Nat.zero_le;have k0:=(Kp.refl 0 [t] w).setCell (p:=⟨R,0,none⟩) h hm (hz _) v0;have k1:=k0.setCell (p:=⟨R,1,none⟩) h0 hm (hz _) v1;have k2:=k1.setCell (p:=⟨R,2,none⟩) h1 hm (hz _) v2;have k3:=k2.setCell (p:=⟨R,3,none⟩) h2 hm (hz _) v3;have k4:=k3.setCell (p:=⟨R,4,none⟩) h3 hm (hz _) v4;have k5:=k4.setCell (p:=⟨R,5,none⟩) h4 hm (hz _) v5;have k6:=k5.setCell (p:=⟨R,6,none⟩) h5 hm (hz _) v6;have k7:=k6.setCell (p:=⟨R,7,none⟩) h6 hm (hz _) v7;have k8:=k7.setCell (p:=⟨R,8,none⟩) h7 hm (hz _) v8;have k9:=k8.setCell (p:=⟨R,9,none⟩) h8 hm (hz _) v9;have k10:=k9.setCell (p:=⟨R,10,none⟩) h9 hm (hz _) v10;exact⟨by simpa using h10,k10⟩
theorem Kp.set11{B:Nat}{T:List TypeId}{a w:World}{R:Nat}(h:Kp B T a w)(hR:a.heap.size<=R)(v0 v1 v2 v3 v4 v5 v6 v7 v8 v9 v10:Value) :
  Kp B T a (((((((((((w.setCell ⟨R,0,none⟩ v0).setCell ⟨R,1,none⟩ v1).setCell ⟨R,2,none⟩ v2).setCell ⟨R,3,none⟩ v3).setCell ⟨R,4,none⟩ v4).setCell ⟨R,5,none⟩ v5).setCell ⟨R,6,none⟩ v6).setCell ⟨R,7,none⟩ v7).setCell ⟨R,8,none⟩ v8).setCell ⟨R,9,none⟩ v9).setCell ⟨R,10,none⟩ v10) :=
 (((((((((((h.setNew (p:=⟨R,0,none⟩) hR v0).setNew (p:=⟨R,1,none⟩) hR v1).setNew (p:=⟨R,2,none⟩) hR v2).setNew (p:=⟨R,3,none⟩) hR v3).setNew (p:=⟨R,4,none⟩) hR v4).setNew (p:=⟨R,5,none⟩) hR v5).setNew (p:=⟨R,6,none⟩) hR v6).setNew (p:=⟨R,7,none⟩) hR v7).setNew (p:=⟨R,8,none⟩) hR v8).setNew (p:=⟨R,9,none⟩) hR v9).setNew (p:=⟨R,10,none⟩) hR v10)
def qBJ(k:Nat)(x:ByteArray)(a:AttrQ)(t:NthQ)(v:Value):List Value:=[.int .i64 k,.string x,.string a.name,.string a.op,.string a.val,.bool a.any,.string t.word,.bool t.hasN,.int .i64 t.a,.int .i64 t.b,v]
def qAi:Lay:=⟨206,256,263,11,qBJ,fun _ _ _ _ _=>rfl,4,fun l=>∃k:Int,l=[.int .i64 k],fun l ⟨_,h⟩=>by rw[h];rfl⟩
def TS:List TypeId:=[210,179]
theorem Kp.ts{B:Nat}{w w':World}(h:Kp B [210] w w'):Kp B TS w w':=h.mono (Nat.le_refl _) (by simp[TS])
def qIM(k:Nat)(x:ByteArray)(a:AttrQ)(t:NthQ)(v:Value):Value:=.agg #[.int .i64 k,.string x,.string a.name,.string a.op,.string a.val,.bool a.any,.string t.word,.bool t.hasN,.int .i64 t.a,.int .i64 t.b,v]
def qHA(B xb rb:Nat)(s:ByteArray)(n p a b c:Nat)(w:World)(e:Ending)(w':World):Prop :=
 ∃(lv v:Value),e=.returned (.tuple #[lv,v])/\Kp B TS w w' /\
  ((∃l cn d,(qAP s n p).2=some (l,cn,d)/\v=.nilIface/\Sx w' xb rb s (qAP s n p).1 (a+cn) b (max c (b+1+d))/\RepL qAi (fun g=>w.heap.size<=g) w' n lv l) \/
   ((qAP s n p).2=none/\lv=.slice none 0 0/\(∃q a' b' c',Sx w' xb rb s q a' b' c')/\∃k,Chain w' 2 (qAP s n p).1 k v))
def qDu(B xb rb:Nat)(s:ByteArray)(n:Nat):Prop :=
 ∀(p a b c:Nat)(w:World),Sx w xb rb s p a b c->a<=p->b<=p->b<=c->s.size<p+n->Calls prog 93 #[.pointer (some ⟨xb,0,none⟩)] w (qHA B xb rb s n p a b c w)
def qCi(B xb rb:Nat)(s:ByteArray)(n k q a b c:Nat)(w:World)(e:Ending)(w':World):Prop :=
 ∃(x:ByteArray)(y:AttrQ)(z:NthQ)(lv v:Value),e=.returned (.tuple #[qIM k x y z lv,v])/\Kp B TS w w'/\(∃la lm lc,lv=.slice la lm lc) /\
  ((∃m cn d,(qAu (qAP s n) s k q).2=some (m,cn,d)/\v=.nilIface/\Sx w' xb rb s (qAu (qAP s n) s k q).1 (a+cn) b (max c (b+d))/\repS qAi (RepL qAi (fun g=>w.heap.size<=g) w' n) m (qBJ k x y z lv)) \/
   ((qAu (qAP s n) s k q).2=none/\(∃q' a' b' c',Sx w' xb rb s q' a' b' c')/\∃j,Chain w' 2 (qAu (qAP s n) s k q).1 j v))
theorem qH7(k:Nat)(x:List UInt8)(w:World)(hx:openW[k]? = some x) :
  Calls prog 181 #[.int .i64 k] w fun e w'=>e=.returned (.string (bytesOf x))/\Below w.heap.size w w':=by
 have ws:Ws (w.alloc (.cells (openW.map fun l=>Value.string (bytesOf l)).toArray 9)) w.heap.size openW:=qAE w _;have hk:k<11:=(List.getElem?_eq_some_iff.1 hx).1;have c0:=ws.cell hx;have hb:=(Below.refl w.heap.size w).alloc (Nat.le_refl _) (.cells (openW.map fun l=>Value.string (bytesOf l)).toArray 9);generalize ho:Obj.cells (openW.map fun l=>Value.string (bytesOf l)).toArray 9=o at *;go_enter func181,ntmps181
 go_wp2_with (go_at_call 216;refine(qGq _).mono ?_;rw[ho];rintro e w' ⟨rfl,rfl⟩)
 go_ret
 exact⟨rfl,hb⟩
theorem qHe(k:Nat)(w:World)(hk:k<11) :
  Calls prog 184 #[.int .i64 k] w fun e w'=>e=.returned (.string (bytesOf (qAq k)))/\w'=w:=by
 rcases k with _|_|_|_|_|_|_|_|_|_|_|k
 all_goals first
  |omega
  | (go_enter func184, ntmps184
     go_wp2
     go_ret
     exact⟨rfl,rfl⟩)
