/-
  Parts of the proof: KS, KT1, KU, KX.
-/
import Derived.Test.YtclpcnignheijaaGreatDoorQ8
import Derived.Test.YtclpcnignheijaaGreatDoorQ4
set_option maxHeartbeats 4000000
namespace Go.Proofs.YtclpcnignheijaaGreatDoor
open Go.RowKit Go.Proofs.Tryz
theorem Kp.tsR{B:Nat}{w w':World}{k:Nat}{c:Array Value}{t:TypeId}{fr:Nat×Nat}(h:Kp B TS w w')(hb:w.heap[k]? = some (.cells c t fr))(ht:t≠210)(ht':t≠179):w'.heap[k]? = some (.cells c t fr):=h.at hb (by simp[TS,ht,ht'])
theorem Tryz.infoSim:(prog.info? 263).map (fun i=>(i.zero,i.size,i.bytes))=some (some (.agg #[.int .i64 0,.string ⟨#[]⟩,.string ⟨#[]⟩,.string ⟨#[]⟩,.string ⟨#[]⟩,.bool false,.string ⟨#[]⟩,.bool false,.int .i64 0,.int .i64 0,.slice none 0 0]),11,144):=by kernel_rfl
theorem Tryz.infoStep:(prog.info? 256).map (fun i=>(i.zero,i.size,i.bytes))=some (some (.agg #[.int .i64 0,.int .u8 0,.string ⟨#[]⟩,.slice none 0 0]),4,56):=by kernel_rfl
theorem Tryz.infoCpx:(prog.info? 206).map (fun i=>(i.zero,i.size,i.bytes))=some (some (.slice none 0 0),1,24):=by kernel_rfl
theorem qIJ{w:World}{g R:Nat}{x:Obj}(hb:w.heap[g]? = some x)(hne:g≠R)(v0 v1 v2 v3 v4 v5 v6 v7 v8 v9 v10:Value):(((((((((((w.setCell ⟨R,0,none⟩ v0).setCell ⟨R,1,none⟩ v1).setCell ⟨R,2,none⟩ v2).setCell ⟨R,3,none⟩ v3).setCell ⟨R,4,none⟩ v4).setCell ⟨R,5,none⟩ v5).setCell ⟨R,6,none⟩ v6).setCell ⟨R,7,none⟩ v7).setCell ⟨R,8,none⟩ v8).setCell ⟨R,9,none⟩ v9).setCell ⟨R,10,none⟩ v10).heap[g]? = some x :=
 (qAH (a:=⟨R,10,none⟩) (qAH (a:=⟨R,9,none⟩) (qAH (a:=⟨R,8,none⟩) (qAH (a:=⟨R,7,none⟩) (qAH (a:=⟨R,6,none⟩) (qAH (a:=⟨R,5,none⟩) (qAH (a:=⟨R,4,none⟩) (qAH (a:=⟨R,3,none⟩) (qAH (a:=⟨R,2,none⟩) (qAH (a:=⟨R,1,none⟩) (qAH (a:=⟨R,0,none⟩) hb hne v0) hne v1) hne v2) hne v3) hne v4) hne v5) hne v6) hne v7) hne v8) hne v9) hne v10)
theorem qJf{w:World}{k:Nat}{o:Option Obj}(h:w.heap[k]? = o)(n:Nat):(w.drewN n).heap[k]? = o:=h
theorem qGp(B k:Nat)(x:List UInt8)(w:World)(hx:openW[k]? = some x){R N:Nat}{cr cn:Array Value}{t u:TypeId}{fr fs:Nat×Nat}(rs:w.heap[R]? = some (.cells cr t fr))(ns:w.heap[N]? = some (.cells cn u fs)) :
  Calls prog 181 #[.int .i64 k] w fun e w'=>e=.returned (.string (bytesOf x))/\Kp B [] w w'/\w'.heap[R]? = some (.cells cr t fr)/\w'.heap[N]? = some (.cells cn u fs):=by
 refine(qH7 k x w hx).mono ?_;rintro e w'⟨rfl,hb⟩;have hk:Kp B [] w w':=Kp.ofBelow hb;exact⟨rfl,hk,hk.at rs (by simp),hk.at ns (by simp)⟩
theorem qOB(B:Nat)(t:ByteArray)(v:Value)(pl:Int)(w:World)(h:v=.nilIface\/∃n,Chain w 2 pl n v){R N:Nat}{cr cn:Array Value}{ty u:TypeId}{fr fs:Nat×Nat}(rs:w.heap[R]? = some (.cells cr ty fr))(ns:w.heap[N]? = some (.cells cn u fs)) :
  Calls prog 54 #[.string t,v] w fun e w'=>∃x,e=.returned x/\Kp B [] w w'/\w'.heap[R]? = some (.cells cr ty fr)/\w'.heap[N]? = some (.cells cn u fs)/\((v=.nilIface/\x=.nilIface)\/(v≠.nilIface/\∃n,Chain w' 2 pl n x)):=by
 rcases h with rfl|⟨n,hc⟩
 ·refine(while_nil t w).mono ?_;rintro e w'⟨rfl,rfl⟩;exact⟨_,rfl,Kp.refl _ _ _,rs,ns,.inl ⟨rfl,rfl⟩⟩
 ·obtain⟨ty,kk,hv⟩:=hc.shape;refine(qA9 B [] t 2 pl n v w hc).mono ?_;rintro e w'⟨x,rfl,hc',hk⟩;exact⟨x,rfl,hk,hk.at rs (by simp),hk.at ns (by simp),.inr ⟨by rw[hv];simp,_,hc'⟩⟩
theorem qKA:∀x∈openW,x.length<13:=by decide
theorem qS6{k:Nat}{x:List UInt8}(hx:openW[k]? = some x):k<11/\1<=x.length:=by
 have hk:k<11:=(List.getElem?_eq_some_iff.1 hx).1;refine⟨hk,?_⟩;rcases k with _|_|_|_|_|_|_|_|_|_|_|k<;>first|(simp[openW]at hx;subst hx;simp)|omega
theorem qC3{w:World}{base:Nat}{e:TypeId}{size:Nat}{v:Value}{n:Nat}{xs:List Value}(h:w.ownsRow base e size v n xs):∃la lc,v=.slice la n lc:=by
 rcases h.2 with⟨hv,hn⟩|⟨g,cap,cur,hv,_⟩
 ·exact⟨none,0,by rw[hn];exact hv⟩
 ·exact⟨_,_,hv⟩
theorem qER(k:Nat)(x:ByteArray)(y:AttrQ)(z:NthQ)(la:Option Addr)(lm lc:Nat):∀u∈qBJ k x y z (.slice la lm lc),u.oneCell'=true:=by
 intro u hu;simp only[qBJ,List.mem_cons,List.not_mem_nil,or_false]at hu;rcases hu with rfl|rfl|rfl|rfl|rfl|rfl|rfl|rfl|rfl|rfl|rfl<;>rfl
theorem qDT{lf:Nat->Nat×Option (qAg×Nat×Nat)}{s:ByteArray}{p q0 q:Nat}{nm:ByteArray}{o:Option (List Sim×Nat×Nat)}(h0:qB4 s p=(q0,some nm))(h1:qAO lf s (s.size+1) [] 0 0 q0=(q,o)):qAQ lf s p=(q,o.map fun x=>((nm,x.1),x.2.1,x.2.2)):=by
 unfold qAQ;rw[h0];dsimp only;rw[h1];cases o<;>rfl
theorem qES{lf:Nat->Nat×Option (qAg×Nat×Nat)}{s:ByteArray}{f:Nat}{l:List Sim}{cn d q:Nat}(h:atB (qAC s q)=false):qAO lf s (f+1) l cn d q=(q,some (l,cn,d)):=by rw[qAO,h];rfl
theorem qFI{lf:Nat->Nat×Option (qAg×Nat×Nat)}{s:ByteArray}{f:Nat}{l:List Sim}{cn d q q':Nat}(h:atB (qAC s q)=true)(h1:qAe lf s q=(q',none)):qAO lf s (f+1) l cn d q=(q',none):=by
 rw[qAO,h,if_pos rfl,h1]
theorem qFJ{lf:Nat->Nat×Option (qAg×Nat×Nat)}{s:ByteArray}{f:Nat}{l:List Sim}{cn d q q':Nat}{x:Sim×Nat×Nat}(h:atB (qAC s q)=true)(h1:qAe lf s q=(q',some x)):qAO lf s (f+1) l cn d q=qAO lf s f (l++[x.1]) (cn+x.2.1) (max d x.2.2) q':=by
 rw[qAO,h,if_pos rfl,h1]
def qP3:Value->Bool
 |.bool b=>b
 |_=>false
theorem qWd{lf:Nat->Nat×Option (qAg×Nat×Nat)}{s:ByteArray}{f:Nat}{l:Cpx}{cn d p q:Nat}{bb:Int}(h1:qAQ lf s p=(q,none)):qAN lf s (f+1) l cn d bb p=(q,none):=by
 rw[qAN,h1]
theorem qWe{lf:Nat->Nat×Option (qAg×Nat×Nat)}{s:ByteArray}{f:Nat}{l:Cpx}{cn d p q q2:Nat}{bb:Int}{x:(ByteArray×List Sim)×Nat×Nat}(h1:qAQ lf s p=(q,some x))(h2:qBr s q=(q2,none)):qAN lf s (f+1) l cn d bb p=(q2,some (l++[(bb,x.1.1,x.1.2)],cn+x.2.1,max d x.2.2)):=by
 rw[qAN,h1];dsimp only;rw[h2]
theorem qWc{lf:Nat->Nat×Option (qAg×Nat×Nat)}{s:ByteArray}{f:Nat}{l:Cpx}{cn d p q q2:Nat}{bb b':Int}{x:(ByteArray×List Sim)×Nat×Nat}(h1:qAQ lf s p=(q,some x))(h2:qBr s q=(q2,some b')):qAN lf s (f+1) l cn d bb p=qAN lf s f (l++[(bb,x.1.1,x.1.2)]) (cn+x.2.1) (max d x.2.2) b' q2:=by
 rw[qAN,h1];dsimp only;rw[h2]
def qWb(lf:Nat->Nat×Option (qAg×Nat×Nat))(s:ByteArray)(m:Bool)(f:Nat)(l:Cpx)(cn d:Nat)(bb:Int)(q:Nat):Nat×Option (Cpx×Nat×Nat):=if m=true then qAN lf s f l cn d bb q else(q,some (l,cn,d))
def qB1(s:ByteArray):Nat×Nat×Option qAg :=
 if 200<s.size then(1,0,none)
 else match qAP s (s.size+1) 0 with
  |(q,none)=>(2,q,none)
  |(q,some (l,cn,d))=>if q≠s.size then(2,q,none)else if 24<cn\/4<1+d then(3,0,none)else(0,0,some l)
theorem qQD{s:ByteArray}(h:200<s.size):qB1 s=(1,0,none):=by unfold qB1;rw[if_pos h]
theorem qSh{s:ByteArray}{q:Nat}(h:¬200<s.size)(h1:qAP s (s.size+1) 0=(q,none)):qB1 s=(2,q,none):=by unfold qB1;rw[if_neg h,h1]
theorem qQE{s:ByteArray}{q:Nat}{x:qAg×Nat×Nat}(h:¬200<s.size)(h1:qAP s (s.size+1) 0=(q,some x))(hq:q≠s.size):qB1 s=(2,q,none):=by
 unfold qB1;rw[if_neg h,h1];dsimp only;rw[if_pos hq]
theorem qOd{s:ByteArray}{q:Nat}{l:qAg}{cn d:Nat}(h:¬200<s.size)(h1:qAP s (s.size+1) 0=(q,some (l,cn,d)))(hq:q=s.size)(hl:24<cn\/4<1+d):qB1 s=(3,0,none):=by
 unfold qB1;rw[if_neg h,h1];dsimp only;rw[if_neg (fun e=>e hq),if_pos hl]
theorem qK2{s:ByteArray}{q:Nat}{l:qAg}{cn d:Nat}(h:¬200<s.size)(h1:qAP s (s.size+1) 0=(q,some (l,cn,d)))(hq:q=s.size)(hl:¬(24<cn\/4<1+d)):qB1 s=(0,0,some l):=by
 unfold qB1;rw[if_neg h,h1];dsimp only;rw[if_neg (fun e=>e hq),if_neg hl]
theorem qOv(B xb rb:Nat)(s:ByteArray)(p a b c:Nat)(w:World)(h:Sx w xb rb s p a b c)(ha:a<=3000)(hc:c<=3000) :
  Calls prog 96 #[.pointer (some ⟨xb,0,none⟩)] w fun e w'=>∃v,e=.returned v/\Kp B [] w w'/\((¬(24<a\/4<c)/\v=.nilIface)\/((24<a\/4<c)/\∃n,Chain w' 3 0 n v)):=by
 have d1:=h.c1;have d3:=h.c3;by_cases h1:24<a
 ·have e1:(24:Int)<(a:Int):=by omega
  go_enter func96,ntmps96
  go_wp2_with fail
  refine(qA9 B [] _ _ _ _ _ _ (show Chain _ 3 0 0 _ from⟨_,rfl,qAE _ _⟩)).mono ?_;rintro e w2⟨u,rfl,hc2,hk2⟩;go_wp2
  go_ret
  exact⟨_,rfl,((Kp.refl B [] w).alloc _).trans hk2,.inr ⟨.inl h1,_,hc2⟩⟩
 ·have e1:¬(24:Int)<(a:Int):=by omega
  by_cases h2:4<c
  ·have e2:(4:Int)<(c:Int):=by omega
   go_enter func96,ntmps96
   go_wp2_with fail
   refine(qA9 B [] _ _ _ _ _ _ (show Chain _ 3 0 0 _ from⟨_,rfl,qAE _ _⟩)).mono ?_;rintro e w2⟨u,rfl,hc2,hk2⟩;go_wp2
   go_ret
   exact⟨_,rfl,((Kp.refl B [] w).alloc _).trans hk2,.inr ⟨.inr h2,_,hc2⟩⟩
  ·have e2:¬(4:Int)<(c:Int):=by omega
   have HH:Hid (¬(24<a\/4<c)):=qAF (by omega);clear h1 h2;generalize (24<a\/4<c)=LL at *;go_enter func96,ntmps96
   go_wp2
   go_ret
   exact⟨_,rfl,Kp.refl _ _ _,.inl ⟨HH.out,rfl⟩⟩
end Go.Proofs.YtclpcnignheijaaGreatDoor
namespace Go.Proofs.YtclpcnignheijaaGreatDoor.Num
open Go.RowKit Go.Proofs.Tryz
def qIl(c:Cpx):List Cpx:=(List.range c.length).map fun i=>c.take (i+1)
theorem prefs_len(c:Cpx):(qIl c).length=c.length:=by simp[qIl]
theorem prefs_get{c:Cpx}{i:Nat}(h:i<c.length):(qIl c)[i]? = some (c.take (i+1)):=by simp[qIl,h]
theorem qJF(l:Cpx)(a:Stp):qIl (l++[a])=qIl l++[l++[a]]:=by
 unfold qIl;rw[List.length_append,List.length_singleton,List.range_succ,List.map_append];congr 1
 ·refine List.map_congr_left fun i hi=>?_;have:i<l.length:=List.mem_range.1 hi;rw[List.take_append_of_le_length (by omega)]
 ·rw[List.map_singleton,List.take_of_length_le (by simp)]
theorem qU4{α:Type}{A A':List α}(h:A <+: A'){k:Nat}{c:α}(hk:A[k]? = some c):A'[k]? = some c:=by
 obtain⟨t,rfl⟩:=h;rw[List.getElem?_append_left (List.getElem?_eq_some_iff.1 hk).1];exact hk
section
variable(A:List Cpx)
def repS(RL:Value->qAg->Prop):Sim->List Value->Prop
 |.mk k x a t l,vs=>∃v,vs=qBJ k x a t v/\a.val.size<=2000/\RL v l
def repM(P:Nat->Prop)(w:World)(RL:Value->qAg->Prop)(v:Value)(ms:List Sim):Prop:=∃xs,Own P w 263 11 v ms.length xs/\Row (repS RL) ms xs
def repT(P:Nat->Prop)(w:World)(RL:Value->qAg->Prop)(c:Cpx)(vs:List Value):Prop:=∃(l:Cpx)(st:Stp)(k:Nat)(v:Value),c=l++[st]/\vs=[.int .i64 k,.int .u8 st.1,.string st.2.1,v]/\A[k]? = some c/\repM P w RL v st.2.2
def repC(P:Nat->Prop)(w:World)(RL:Value->qAg->Prop)(v:Value)(c:Cpx):Prop:=∃xs,Own P w 256 4 v c.length xs/\Row (repT A P w RL) (qIl c) xs
def repL(P:Nat->Prop)(w:World)(RL:Value->qAg->Prop)(v:Value)(l:qAg):Prop:=∃xs,Own P w 206 1 v l.length xs/\Row (fun c vs=>∃v',vs=[v']/\repC A P w RL v' c) l xs
def RepL(P:Nat->Prop)(w:World):Nat->Value->qAg->Prop
 |0,v,l=>v=.slice none 0 0/\l=[]
 |n+1,v,l=>repL A P w (RepL P w n) v l
end
section
variable{A A':List Cpx}{P P':Nat->Prop}{w w':World}
theorem repS.map{RL RL':Value->qAg->Prop}(hr:∀v l,RL v l->RL' v l){m:Sim}{vs:List Value}(h:repS RL m vs):repS RL' m vs:=by
 obtain⟨k,x,a,t,l⟩:=m;obtain⟨v,e,h0,h⟩:=h;exact⟨v,e,h0,hr v l h⟩
theorem repM.map(hf:Fr qAi P P' w w'){RL RL':Value->qAg->Prop}(hr:∀v l,RL v l->RL' v l){v:Value}{ms:List Sim}(h:repM P w RL v ms):repM P' w' RL' v ms:=by
 obtain⟨xs,h1,h2⟩:=h;exact⟨xs,h1.map fun g c hp hg=>hf g c _ hp hg (.inr (.inr rfl)),h2.mono fun _ _ h=>h.map hr⟩
theorem repT.map(hA:A <+: A')(hf:Fr qAi P P' w w'){RL RL':Value->qAg->Prop}(hr:∀v l,RL v l->RL' v l){c:Cpx}{vs:List Value}(h:repT A P w RL c vs):repT A' P' w' RL' c vs:=by
 obtain⟨l,st,k,v,e,e2,hp,h⟩:=h;exact⟨l,st,k,v,e,e2,qU4 hA hp,h.map hf hr⟩
theorem repC.map(hA:A <+: A')(hf:Fr qAi P P' w w'){RL RL':Value->qAg->Prop}(hr:∀v l,RL v l->RL' v l){v:Value}{c:Cpx}(h:repC A P w RL v c):repC A' P' w' RL' v c:=by
 obtain⟨xs,h1,h2⟩:=h;exact⟨xs,h1.map fun g c hp hg=>hf g c _ hp hg (.inr (.inl rfl)),h2.mono fun _ _ h=>h.map hA hf hr⟩
theorem repL.map(hA:A <+: A')(hf:Fr qAi P P' w w'){RL RL':Value->qAg->Prop}(hr:∀v l,RL v l->RL' v l){v:Value}{l:qAg}(h:repL A P w RL v l):repL A' P' w' RL' v l:=by
 obtain⟨xs,h1,h2⟩:=h;exact⟨xs,h1.map fun g c hp hg=>hf g c _ hp hg (.inl rfl),h2.mono fun _ _ ⟨v',e,h⟩=>⟨v',e,h.map hA hf hr⟩⟩
theorem RepL.up(hA:A <+: A')(hf:Fr qAi P P' w w'):∀{n:Nat}{v:Value}{l:qAg},RepL A P w n v l->RepL A' P' w' n v l
 |0,_,_,h=>h
 |_+1,_,_,h=>repL.map hA hf (fun _ _ h=>RepL.up hA hf h) h
theorem RepL.map(hf:Fr qAi P P' w w'){n:Nat}{v:Value}{l:qAg}(h:RepL A P w n v l):RepL A P' w' n v l:=h.up (List.prefix_refl A) hf
theorem RepL.nil(A:List Cpx)(P:Nat->Prop)(w:World):∀n,RepL A P w n (.slice none 0 0) []
 |0=>⟨rfl,rfl⟩
 |_+1=>⟨[],⟨World.ownsRow_nil _ _ _ _,fun g hg=>by simp[Value.ownBlock]at hg⟩,rfl⟩
theorem repM.mp(hf:Fr qAi P P' w w'){n:Nat}{v:Value}{ms:List Sim}(h:repM P w (RepL A P w n) v ms):repM P' w' (RepL A P' w' n) v ms:=h.map hf fun _ _ h=>h.map hf
theorem repT.mp(hf:Fr qAi P P' w w'){n:Nat}{c:Cpx}{vs:List Value}(h:repT A P w (RepL A P w n) c vs):repT A P' w' (RepL A P' w' n) c vs:=h.map (List.prefix_refl A) hf fun _ _ h=>h.map hf
theorem repC.mp(hf:Fr qAi P P' w w'){n:Nat}{v:Value}{c:Cpx}(h:repC A P w (RepL A P w n) v c):repC A P' w' (RepL A P' w' n) v c:=h.map (List.prefix_refl A) hf fun _ _ h=>h.map hf
theorem repS.mp(hf:Fr qAi P P' w w'){n:Nat}{m:Sim}{vs:List Value}(h:repS (RepL A P w n) m vs):repS (RepL A P' w' n) m vs:=h.map fun _ _ h=>h.map hf
theorem repM.up(hA:A <+: A'){n:Nat}{v:Value}{ms:List Sim}(h:repM P w (RepL A P w n) v ms):repM P w (RepL A' P w n) v ms:=h.map (Fr.same fun _ h=>h) fun _ _ h=>h.up hA (Fr.same fun _ h=>h)
theorem repT.up(hA:A <+: A'){n:Nat}{c:Cpx}{vs:List Value}(h:repT A P w (RepL A P w n) c vs):repT A' P w (RepL A' P w n) c vs:=h.map hA (Fr.same fun _ h=>h) fun _ _ h=>h.up hA (Fr.same fun _ h=>h)
theorem repC.up(hA:A <+: A'){n:Nat}{v:Value}{c:Cpx}(h:repC A P w (RepL A P w n) v c):repC A' P w (RepL A' P w n) v c:=h.map hA (Fr.same fun _ h=>h) fun _ _ h=>h.up hA (Fr.same fun _ h=>h)
theorem repS.up(hA:A <+: A'){n:Nat}{m:Sim}{vs:List Value}(h:repS (RepL A P w n) m vs):repS (RepL A' P w n) m vs:=h.map fun _ _ h=>h.up hA (Fr.same fun _ h=>h)
theorem RepL.shape{n:Nat}{v:Value}{l:qAg}(h:RepL A P w n v l):∃a m c,v=.slice a m c:=by
 cases n with
 |zero=>exact⟨_,_,_,h.1⟩
 |succ n =>
  obtain⟨xs,⟨⟨_,h2⟩,_⟩,_⟩:=h;rcases h2 with⟨hv,_⟩|⟨g,cap,cur,hv,_⟩
  ·exact⟨_,_,_,hv⟩
  ·exact⟨_,_,_,hv⟩
end
def Sx(A:List Cpx)(w:World)(xb rb:Nat)(s:ByteArray)(p a b c:Nat):Prop :=
 Rd w rb s p/\w.heap[xb]? = some (.cells #[.pointer (some ⟨rb,0,none⟩),.int .i64 (A.length:Int),.int .i64 a,.int .i64 b,.int .i64 c] 179 (0,0))
section
variable{A:List Cpx}{w w':World}{xb rb:Nat}{s:ByteArray}{p q a b c B:Nat}
theorem Sx.old(h:Sx A w xb rb s p a b c):Go.Proofs.YtclpcnignheijaaGreatDoor.Sx w xb rb s p a b c:=⟨h.1,_,h.2⟩
theorem Sx.step(h:Sx A w xb rb s p a b c)(hr:Rd w' rb s q)(k:Kp B [210] w w'):Sx A w' xb rb s q a b c:=⟨hr,k.at h.2 (by decide)⟩
theorem Sx.c0(h:Sx A w xb rb s p a b c):w.cell? ⟨xb,0,none⟩=some (.pointer (some ⟨rb,0,none⟩)):=h.old.c0
theorem Sx.c1(h:Sx A w xb rb s p a b c):w.cell? ⟨xb,2,none⟩=some (.int .i64 a):=h.old.c1
theorem Sx.c2(h:Sx A w xb rb s p a b c):w.cell? ⟨xb,3,none⟩=some (.int .i64 b):=h.old.c2
theorem Sx.c3(h:Sx A w xb rb s p a b c):w.cell? ⟨xb,4,none⟩=some (.int .i64 c):=h.old.c3
theorem Sx.drewN(h:Sx A w xb rb s p a b c)(n:Nat):Sx A (w.drewN n) xb rb s p a b c:=⟨h.1.drewN n,h.2⟩
theorem Sx.alloc(h:Sx A w xb rb s p a b c)(o:Obj):Sx A (w.alloc o) xb rb s p a b c:=⟨h.1.alloc o,qAG h.2 o⟩
theorem Sx.kept{T:List TypeId}(h:Sx A w xb rb s p a b c)(k:Kp B T w w')(h1:210 ∉ T)(h2:179 ∉ T):Sx A w' xb rb s p a b c:=⟨h.1.kept k h1,k.at h.2 h2⟩
theorem Sx.ne(h:Sx A w xb rb s p a b c):rb≠xb:=qFW h.1.1 h.2 (by decide)
theorem Sx.set1{a':Nat}(h:Sx A w xb rb s p a b c){v:Int}(hv:v=(a':Int)):Sx A (w.setCell ⟨xb,2,none⟩ (.int .i64 v)) xb rb s p a' b c:=by
 subst hv;exact⟨⟨qAH h.1.1 h.ne _,h.1.2,h.1.3⟩,qAZ (o:=2) h.2 _⟩
theorem Sx.set2{b':Nat}(h:Sx A w xb rb s p a b c){v:Int}(hv:v=(b':Int)):Sx A (w.setCell ⟨xb,3,none⟩ (.int .i64 v)) xb rb s p a b' c:=by
 subst hv;exact⟨⟨qAH h.1.1 h.ne _,h.1.2,h.1.3⟩,qAZ (o:=3) h.2 _⟩
theorem Sx.set3{c':Nat}(h:Sx A w xb rb s p a b c){v:Int}(hv:v=(c':Int)):Sx A (w.setCell ⟨xb,4,none⟩ (.int .i64 v)) xb rb s p a b c':=by
 subst hv;exact⟨⟨qAH h.1.1 h.ne _,h.1.2,h.1.3⟩,qAZ (o:=4) h.2 _⟩
theorem Sx.free{o:Nat}(h:Sx A w xb rb s p a b c):w.frozen? ⟨xb,o,none⟩=false:=qAd h.2
theorem Sx.kpS{w0:World}{o:Nat}(k:Kp B TS w0 w)(h:Sx A w xb rb s p a b c)(hB:B<=xb)(v:Value):Kp B TS w0 (w.setCell ⟨xb,o,none⟩ v):=k.setCell (p:=⟨xb,o,none⟩) h.2 (by simp[TS]) hB v
end
theorem qMf(A:List Cpx)(B xb rb:Nat)(s:ByteArray)(p a b c:Nat)(w:World)(h:Sx A w xb rb s p a b c) :
  Calls prog 216 #[] w fun e w'=>∃g,e=.returned (.slice (some ⟨g,0,none⟩) 11 11)/\Ws w' g openW/\Sx A w' xb rb s p a b c/\Kp B [210] w w':=by
 refine(qGq w).mono ?_;rintro e w'⟨rfl,rfl⟩;exact⟨_,rfl,qAE w _,h.alloc _,(Kp.refl _ _ _).alloc _⟩
def qHA(A:List Cpx)(B xb rb:Nat)(s:ByteArray)(n p a b c:Nat)(w:World)(e:Ending)(w':World):Prop :=
 ∃(lv v:Value),e=.returned (.tuple #[lv,v])/\Kp B TS w w' /\
  ((∃l cn d A1,(qAP s n p).2=some (l,cn,d)/\v=.nilIface/\Sx A1 w' xb rb s (qAP s n p).1 (a+cn) b (max c (b+1+d))/\(A <+: A1/\A1.length<=(qAP s n p).1)/\RepL A1 (fun g=>w.heap.size<=g) w' n lv l) \/
   ((qAP s n p).2=none/\lv=.slice none 0 0/\(∃A1 q a' b' c',Sx A1 w' xb rb s q a' b' c')/\∃k,Chain w' 2 (qAP s n p).1 k v))
def qDu(B xb rb:Nat)(s:ByteArray)(n:Nat):Prop :=
 ∀(A:List Cpx)(p a b c:Nat)(w:World),Sx A w xb rb s p a b c->A.length<=p->a<=p->b<=p->b<=c->s.size<p+n->Calls prog 93 #[.pointer (some ⟨xb,0,none⟩)] w (qHA A B xb rb s n p a b c w)
def qCi(A:List Cpx)(B xb rb:Nat)(s:ByteArray)(n k q a b c:Nat)(w:World)(e:Ending)(w':World):Prop :=
 ∃(x:ByteArray)(y:AttrQ)(z:NthQ)(lv v:Value),e=.returned (.tuple #[qIM k x y z lv,v])/\Kp B TS w w'/\(∃la lm lc,lv=.slice la lm lc) /\
  ((∃m cn d A1,(qAu (qAP s n) s k q).2=some (m,cn,d)/\v=.nilIface/\Sx A1 w' xb rb s (qAu (qAP s n) s k q).1 (a+cn) b (max c (b+d))/\(A <+: A1/\(A1=A\/(A1.length<=(qAu (qAP s n) s k q).1/\8<=k)))/\repS (RepL A1 (fun g=>w.heap.size<=g) w' n) m (qBJ k x y z lv)) \/
   ((qAu (qAP s n) s k q).2=none/\(∃A1 q' a' b' c',Sx A1 w' xb rb s q' a' b' c')/\∃j,Chain w' 2 (qAu (qAP s n) s k q).1 j v))
def qPj(A:List Cpx)(B xb rb:Nat)(s:ByteArray)(n p a b c:Nat)(w:World)(e:Ending)(w':World):Prop :=
 ∃(k:Nat)(x:ByteArray)(y:AttrQ)(z:NthQ)(lv v:Value),e=.returned (.tuple #[qIM k x y z lv,v])/\Kp B TS w w'/\(∃la lm lc,lv=.slice la lm lc) /\
  ((∃m cn d A1,(qAe (qAP s n) s p).2=some (m,cn,d)/\v=.nilIface/\Sx A1 w' xb rb s (qAe (qAP s n) s p).1 (a+cn) b (max c (b+d))/\(A <+: A1/\(A1=A\/A1.length<(qAe (qAP s n) s p).1))/\repS (RepL A1 (fun g=>w.heap.size<=g) w' n) m (qBJ k x y z lv)) \/
   ((qAe (qAP s n) s p).2=none/\(∃A1 q' a' b' c',Sx A1 w' xb rb s q' a' b' c')/\∃j,Chain w' 2 (qAe (qAP s n) s p).1 j v))
def qDb(A:List Cpx)(B xb rb:Nat)(s:ByteArray)(n p a b c:Nat)(w:World)(e:Ending)(w':World):Prop :=
 ∃(nm:ByteArray)(sv v:Value),e=.returned (.tuple #[.agg #[.string nm,sv],v])/\Kp B TS w w'/\(∃la lm lc,sv=.slice la lm lc) /\
  ((∃ms cn d A1,(qAQ (qAP s n) s p).2=some ((nm,ms),cn,d)/\v=.nilIface/\Sx A1 w' xb rb s (qAQ (qAP s n) s p).1 (a+cn) b (max c (b+d))/\(A <+: A1/\(A1=A\/A1.length<(qAQ (qAP s n) s p).1))/\repM (fun g=>w.heap.size<=g) w' (RepL A1 (fun g=>w.heap.size<=g) w' n) sv ms) \/
   ((qAQ (qAP s n) s p).2=none/\(∃A1 q' a' b' c',Sx A1 w' xb rb s q' a' b' c')/\∃j,Chain w' 2 (qAQ (qAP s n) s p).1 j v))
def qPh(A:List Cpx)(B xb rb:Nat)(s:ByteArray)(n p a b c:Nat)(w:World)(e:Ending)(w':World):Prop :=
 ∃(cv v:Value),e=.returned (.tuple #[cv,v])/\Kp B TS w w' /\
  ((∃cx cn d A1,(qAN (qAP s n) s (s.size+1) [] 0 0 0 p).2=some (cx,cn,d)/\v=.nilIface/\Sx A1 w' xb rb s (qAN (qAP s n) s (s.size+1) [] 0 0 0 p).1 (a+cn) b (max c (b+d))/\(A <+: A1/\A1.length<=(qAN (qAP s n) s (s.size+1) [] 0 0 0 p).1)/\repC A1 (fun g=>w.heap.size<=g) w' (RepL A1 (fun g=>w.heap.size<=g) w' n) cv cx) \/
   ((qAN (qAP s n) s (s.size+1) [] 0 0 0 p).2=none/\cv=.slice none 0 0/\(∃A1 q' a' b' c',Sx A1 w' xb rb s q' a' b' c')/\∃j,Chain w' 2 (qAN (qAP s n) s (s.size+1) [] 0 0 0 p).1 j v))
theorem qN6(s:ByteArray)(p q:Nat):(qCd s p q).size<=s.size:=by
 show(((s.data.toList.drop p).take (q-p)).toArray).size<=s.data.size;rw[List.size_toArray,List.length_take,List.length_drop,<-Array.length_toList];omega
theorem qPc{s:ByteArray}{p:Nat}{x:ByteArray}(h:(qB5 s p).2=some x):x.size<=s.size:=by
 unfold qB5 at h;split at h
 ·cases h
 ·simp only[Option.some.injEq]at h;subst h;exact qN6 _ _ _
theorem qOU{s:ByteArray}{p:Nat}{y:AttrQ}(hs:s.size<=2000)(h:(qBC s p).2=some y):y.val.size<=2000:=by
 unfold qBC at h;generalize qBQ s (spP s p) qAI=r at h;obtain⟨q,o⟩:=r;cases o with
 |none=>cases h
 | some n =>
  dsimp only at h;split at h
  ·simp only[Option.some.injEq]at h;subst h;exact Nat.zero_le _
  ·generalize qCo s opsW 3 [] (spP s q)=r at h;obtain⟨q2,o2⟩:=r;cases o2 with
   |none=>cases h
   | some i =>
    dsimp only at h;have h9:∀x,(qAl s (spP s q2)).2=some x->x.size<=s.size:=by
     intro x hx;unfold qAl at hx;split at hx
     ·split at hx
      ·simp only[Option.some.injEq]at hx;subst hx;exact qN6 _ _ _
      ·cases hx
     ·exact qPc hx
    generalize qAl s (spP s q2)=r at h h9;obtain⟨q3,o3⟩:=r;cases o3 with
    |none=>cases h
    |some x =>
     dsimp only at h h9;simp only[Option.some.injEq]at h;subst h;exact Nat.le_trans (h9 x rfl) hs
theorem qOR(A:List Cpx)(B xb rb:Nat)(s:ByteArray)(n k q a b c:Nat)(w:World)(h:Sx A w xb rb s q a b c)(hB:B<=rb)(hbc:b<=c)(hk:k=0\/k=1) :
  Calls prog 233 #[.pointer (some ⟨xb,0,none⟩),.int .i64 k] w (qCi A B xb rb s n k q a b c w):=by
 have h0:=h.alloc (.cells #[.int .i64 0,.string ⟨#[]⟩,.string ⟨#[]⟩,.string ⟨#[]⟩,.string ⟨#[]⟩,.bool false,.string ⟨#[]⟩,.bool false,.int .i64 0,.int .i64 0,.slice none 0 0] 263);have rs0:=qAE w (.cells #[.int .i64 0,.string ⟨#[]⟩,.string ⟨#[]⟩,.string ⟨#[]⟩,.string ⟨#[]⟩,.bool false,.string ⟨#[]⟩,.bool false,.int .i64 0,.int .i64 0,.slice none 0 0] 263);have hk0:=(Kp.refl B [210] w).alloc (.cells #[.int .i64 0,.string ⟨#[]⟩,.string ⟨#[]⟩,.string ⟨#[]⟩,.string ⟨#[]⟩,.bool false,.string ⟨#[]⟩,.bool false,.int .i64 0,.int .i64 0,.slice none 0 0] 263);have h1:=h0.alloc (.cells #[.int .i64 k,.string ⟨#[]⟩,.string ⟨#[]⟩,.string ⟨#[]⟩,.string ⟨#[]⟩,.bool false,.string ⟨#[]⟩,.bool false,.int .i64 0,.int .i64 0,.slice none 0 0] 263);have rs1:=qAG rs0 (.cells #[.int .i64 k,.string ⟨#[]⟩,.string ⟨#[]⟩,.string ⟨#[]⟩,.string ⟨#[]⟩,.bool false,.string ⟨#[]⟩,.bool false,.int .i64 0,.int .i64 0,.slice none 0 0] 263);have ns1:=qAm (w:=w.alloc (.cells #[.int .i64 0,.string ⟨#[]⟩,.string ⟨#[]⟩,.string ⟨#[]⟩,.string ⟨#[]⟩,.bool false,.string ⟨#[]⟩,.bool false,.int .i64 0,.int .i64 0,.slice none 0 0] 263)) (n:=w.heap.size+1) (.cells #[.int .i64 k,.string ⟨#[]⟩,.string ⟨#[]⟩,.string ⟨#[]⟩,.string ⟨#[]⟩,.bool false,.string ⟨#[]⟩,.bool false,.int .i64 0,.int .i64 0,.slice none 0 0] 263) (by simp);have hk1:=hk0.alloc (.cells #[.int .i64 k,.string ⟨#[]⟩,.string ⟨#[]⟩,.string ⟨#[]⟩,.string ⟨#[]⟩,.bool false,.string ⟨#[]⟩,.bool false,.int .i64 0,.int .i64 0,.slice none 0 0] 263);have c1:=h1.c0;have HE:Hid (qAu (qAP s n) s k q=((qB5 s q).1,(qB5 s q).2.map fun x=>(.mk k x qBD qB2 [],0,0))):=by unfold qAu;rw[if_pos (by omega)];rfl
 unfold qCi;have hkk:(((k:Int)==0)=true/\((k:Int)==1)=false)\/(((k:Int)==0)=false/\((k:Int)==1)=true):=by
  rcases hk with rfl|rfl<;>decide
 clear hk;rcases hkk with⟨e0,e1⟩|⟨e0,e1⟩
 all_goals
  go_enter func233,ntmps233
  go_wp2_with fail
  refine(qOF B rb s q _ h1.1 hB).mono ?_;rintro e w2⟨x,v,rfl,hr2,hk2,hor⟩;have h2:=h1.step hr2 hk2;have rs2:=hk2.at (k:=w.heap.size) rs1 (by decide);have ns2:=hk2.at (k:=w.heap.size+1) ns1 (by decide);have hk3:=hk1.trans hk2;obtain⟨⟨q0,q1,q2,q3,q4,q5,q6,q7,q8,q9,q10⟩,f0,f1,f2,f3,f4,f5,f6,f7,f8,f9,f10⟩:=qAY rs2;obtain⟨⟨m0,m1,m2,m3,m4,m5,m6,m7,m8,m9,m10⟩,g0,g1,g2,g3,g4,g5,g6,g7,g8,g9,g10⟩:=qAY ns2;have kpo:=Kp.setAny (p:=⟨w.heap.size+1,1,none⟩) ns2 (.string x);have rs3:=qAH (a:=⟨w.heap.size+1,1,none⟩) rs2 (by simp) (.string x);have hk4:=hk3.setNew (p:=⟨w.heap.size+1,1,none⟩) (by simp) (.string x);go_wp2
  obtain⟨rsF,kpF⟩:=qMS rs3 (.int .i64 k) (.string x) (.string ⟨#[]⟩) (.string ⟨#[]⟩) (.string ⟨#[]⟩) (.bool false) (.string ⟨#[]⟩) (.bool false) (.int .i64 0) (.int .i64 0) (.slice none 0 0);have hkF:=hk4.set11 (Nat.le_refl _) (.int .i64 k) (.string x) (.string ⟨#[]⟩) (.string ⟨#[]⟩) (.string ⟨#[]⟩) (.bool false) (.string ⟨#[]⟩) (.bool false) (.int .i64 0) (.int .i64 0) (.slice none 0 0);refine bodyPost_ret (v:=.tuple #[qIM k x qBD qB2 (.slice none 0 0),v]) (by simp[results,Tryz.results233,go_sem,q0,q1,q2,q3,q4,q5,q6,q7,q8,q9,q10,qIM,qBD,qB2,noB]) rfl ?_;rw[HE.out];have hF:=(h2.kept kpo (by decide) (by decide)).kept kpF (by decide) (by decide);refine⟨x,qBD,qB2,.slice none 0 0,v,rfl,hkF.ts,⟨_,_,_,rfl⟩,?_⟩;rcases hor with⟨ho,hv⟩|⟨ho,hc⟩
  ·exact .inl ⟨.mk k x qBD qB2 [],0,0,A,by rw[ho];rfl,hv,by rw[show max c (b+0)=c from by omega];exact hF,⟨List.prefix_refl A,.inl rfl⟩,_,rfl,Nat.zero_le _,RepL.nil _ _ _ _⟩
  ·exact .inr ⟨by rw[ho];rfl,⟨_,_,_,_,_,hF⟩,0,(hc.kept kpo (by decide) (by decide)).kept kpF (by decide) (by decide)⟩
theorem qOP(A:List Cpx)(B xb rb:Nat)(s:ByteArray)(n k q a b c:Nat)(w:World)(h:Sx A w xb rb s q a b c)(hB:B<=rb)(hbc:b<=c)(hk:k=2) :
  Calls prog 233 #[.pointer (some ⟨xb,0,none⟩),.int .i64 k] w (qCi A B xb rb s n k q a b c w):=by
 have h0:=h.alloc (.cells #[.int .i64 0,.string ⟨#[]⟩,.string ⟨#[]⟩,.string ⟨#[]⟩,.string ⟨#[]⟩,.bool false,.string ⟨#[]⟩,.bool false,.int .i64 0,.int .i64 0,.slice none 0 0] 263);have rs0:=qAE w (.cells #[.int .i64 0,.string ⟨#[]⟩,.string ⟨#[]⟩,.string ⟨#[]⟩,.string ⟨#[]⟩,.bool false,.string ⟨#[]⟩,.bool false,.int .i64 0,.int .i64 0,.slice none 0 0] 263);have hk0:=(Kp.refl B [210] w).alloc (.cells #[.int .i64 0,.string ⟨#[]⟩,.string ⟨#[]⟩,.string ⟨#[]⟩,.string ⟨#[]⟩,.bool false,.string ⟨#[]⟩,.bool false,.int .i64 0,.int .i64 0,.slice none 0 0] 263);have h1:=h0.alloc (.cells #[.int .i64 k,.string ⟨#[]⟩,.string ⟨#[]⟩,.string ⟨#[]⟩,.string ⟨#[]⟩,.bool false,.string ⟨#[]⟩,.bool false,.int .i64 0,.int .i64 0,.slice none 0 0] 263);have rs1:=qAG rs0 (.cells #[.int .i64 k,.string ⟨#[]⟩,.string ⟨#[]⟩,.string ⟨#[]⟩,.string ⟨#[]⟩,.bool false,.string ⟨#[]⟩,.bool false,.int .i64 0,.int .i64 0,.slice none 0 0] 263);have ns1:=qAm (w:=w.alloc (.cells #[.int .i64 0,.string ⟨#[]⟩,.string ⟨#[]⟩,.string ⟨#[]⟩,.string ⟨#[]⟩,.bool false,.string ⟨#[]⟩,.bool false,.int .i64 0,.int .i64 0,.slice none 0 0] 263)) (n:=w.heap.size+1) (.cells #[.int .i64 k,.string ⟨#[]⟩,.string ⟨#[]⟩,.string ⟨#[]⟩,.string ⟨#[]⟩,.bool false,.string ⟨#[]⟩,.bool false,.int .i64 0,.int .i64 0,.slice none 0 0] 263) (by simp);have hk1:=hk0.alloc (.cells #[.int .i64 k,.string ⟨#[]⟩,.string ⟨#[]⟩,.string ⟨#[]⟩,.string ⟨#[]⟩,.bool false,.string ⟨#[]⟩,.bool false,.int .i64 0,.int .i64 0,.slice none 0 0] 263);have c1:=h1.c0;have HE:Hid (qAu (qAP s n) s k q=((qBC s q).1,(qBC s q).2.map fun x=>(.mk k noB x qB2 [],0,0))):=by
  subst hk;rfl
 unfold qCi;have e0:((k:Int)==0)=false:=by subst hk;decide
 have e1:((k:Int)==1)=false:=by subst hk;decide
 have e2:((k:Int)==2)=true:=by subst hk;decide
 clear hk
 first
 | skip
   go_enter func233,ntmps233
   go_wp2_with fail
   refine(qIp B xb rb s q a b c _ h1.old hB).mono ?_;rintro e w2⟨y,v,qq,rfl,h2o,hk2,hor⟩;have h2:=h1.step h2o.1 hk2;unfold qSP;have rs2:=hk2.at (k:=w.heap.size) rs1 (by decide);have ns2:=hk2.at (k:=w.heap.size+1) ns1 (by decide);have hk3:=hk1.trans hk2;obtain⟨⟨q0,q1,q2,q3,q4,q5,q6,q7,q8,q9,q10⟩,f0,f1,f2,f3,f4,f5,f6,f7,f8,f9,f10⟩:=qAY rs2;obtain⟨⟨m0,m1,m2,m3,m4,m5,m6,m7,m8,m9,m10⟩,g0,g1,g2,g3,g4,g5,g6,g7,g8,g9,g10⟩:=qAY ns2;have na0:=qAZ (o:=2) ns2 (.string y.name);have ka0:=(Kp.refl 0 [263] w2).setCell (p:=⟨w.heap.size+1,2,none⟩) ns2 (by simp) (Nat.zero_le _) (.string y.name);have ra0:=qAH (a:=⟨w.heap.size+1,2,none⟩) rs2 (by simp) (.string y.name);have ha0:=hk3.setNew (p:=⟨w.heap.size+1,2,none⟩) (by simp) (.string y.name);have na1:=qAZ (o:=3) na0 (.string y.op);have ka1:=ka0.setCell (p:=⟨w.heap.size+1,3,none⟩) na0 (by simp) (Nat.zero_le _) (.string y.op);have ra1:=qAH (a:=⟨w.heap.size+1,3,none⟩) ra0 (by simp) (.string y.op);have ha1:=ha0.setNew (p:=⟨w.heap.size+1,3,none⟩) (by simp) (.string y.op);have na2:=qAZ (o:=4) na1 (.string y.val);have ka2:=ka1.setCell (p:=⟨w.heap.size+1,4,none⟩) na1 (by simp) (Nat.zero_le _) (.string y.val);have ra2:=qAH (a:=⟨w.heap.size+1,4,none⟩) ra1 (by simp) (.string y.val);have ha2:=ha1.setNew (p:=⟨w.heap.size+1,4,none⟩) (by simp) (.string y.val);have na3:=qAZ (o:=5) na2 (.bool y.any);have ka3:=ka2.setCell (p:=⟨w.heap.size+1,5,none⟩) na2 (by simp) (Nat.zero_le _) (.bool y.any);have ra3:=qAH (a:=⟨w.heap.size+1,5,none⟩) ra2 (by simp) (.bool y.any);have ha3:=ha2.setNew (p:=⟨w.heap.size+1,5,none⟩) (by simp) (.bool y.any);have kpo:=ka3;have rs3:=ra3;have hk4:=ha3;clear na0 na1 na2 na3 ka0 ka1 ka2 ka3 ra0 ra1 ra2 ra3 ha0 ha1 ha2 ha3;go_wp2
   obtain⟨rsF,kpF⟩:=qMS rs3 (.int .i64 k) (.string ⟨#[]⟩) (.string y.name) (.string y.op) (.string y.val) (.bool y.any) (.string ⟨#[]⟩) (.bool false) (.int .i64 0) (.int .i64 0) (.slice none 0 0);have hkF:=hk4.set11 (Nat.le_refl _) (.int .i64 k) (.string ⟨#[]⟩) (.string y.name) (.string y.op) (.string y.val) (.bool y.any) (.string ⟨#[]⟩) (.bool false) (.int .i64 0) (.int .i64 0) (.slice none 0 0);refine bodyPost_ret (v:=.tuple #[qIM k noB y qB2 (.slice none 0 0),v]) (by simp[results,Tryz.results233,go_sem,q0,q1,q2,q3,q4,q5,q6,q7,q8,q9,q10,qIM,qB2,noB]) rfl ?_;rw[HE.out];have hF:=(h2.kept kpo (by decide) (by decide)).kept kpF (by decide) (by decide);refine⟨noB,y,qB2,.slice none 0 0,v,rfl,hkF.ts,⟨_,_,_,rfl⟩,?_⟩;rcases hor with⟨ho,hq,hv⟩|⟨ho,hc⟩
   ·subst hq;exact .inl ⟨.mk k noB y qB2 [],0,0,A,by rw[ho];rfl,hv,by rw[show max c (b+0)=c from by omega];exact hF,⟨List.prefix_refl A,.inl rfl⟩,_,rfl,qOU (Nat.le_of_lt_succ (Nat.lt_succ_of_le h.1.max)) ho,RepL.nil _ _ _ _⟩
   ·obtain⟨j,hc⟩:=hc;exact .inr ⟨by rw[ho];rfl,⟨_,_,_,_,_,hF⟩,j,(hc.kept kpo (by decide) (by decide)).kept kpF (by decide) (by decide)⟩
theorem qPq(A:List Cpx)(B xb rb:Nat)(s:ByteArray)(n k q a b c:Nat)(w:World)(h:Sx A w xb rb s q a b c)(hB:B<=rb)(hbc:b<=c)(hk:k=8) :
  Calls prog 233 #[.pointer (some ⟨xb,0,none⟩),.int .i64 k] w (qCi A B xb rb s n k q a b c w):=by
 have h0:=h.alloc (.cells #[.int .i64 0,.string ⟨#[]⟩,.string ⟨#[]⟩,.string ⟨#[]⟩,.string ⟨#[]⟩,.bool false,.string ⟨#[]⟩,.bool false,.int .i64 0,.int .i64 0,.slice none 0 0] 263);have rs0:=qAE w (.cells #[.int .i64 0,.string ⟨#[]⟩,.string ⟨#[]⟩,.string ⟨#[]⟩,.string ⟨#[]⟩,.bool false,.string ⟨#[]⟩,.bool false,.int .i64 0,.int .i64 0,.slice none 0 0] 263);have hk0:=(Kp.refl B [210] w).alloc (.cells #[.int .i64 0,.string ⟨#[]⟩,.string ⟨#[]⟩,.string ⟨#[]⟩,.string ⟨#[]⟩,.bool false,.string ⟨#[]⟩,.bool false,.int .i64 0,.int .i64 0,.slice none 0 0] 263);have h1:=h0.alloc (.cells #[.int .i64 k,.string ⟨#[]⟩,.string ⟨#[]⟩,.string ⟨#[]⟩,.string ⟨#[]⟩,.bool false,.string ⟨#[]⟩,.bool false,.int .i64 0,.int .i64 0,.slice none 0 0] 263);have rs1:=qAG rs0 (.cells #[.int .i64 k,.string ⟨#[]⟩,.string ⟨#[]⟩,.string ⟨#[]⟩,.string ⟨#[]⟩,.bool false,.string ⟨#[]⟩,.bool false,.int .i64 0,.int .i64 0,.slice none 0 0] 263);have ns1:=qAm (w:=w.alloc (.cells #[.int .i64 0,.string ⟨#[]⟩,.string ⟨#[]⟩,.string ⟨#[]⟩,.string ⟨#[]⟩,.bool false,.string ⟨#[]⟩,.bool false,.int .i64 0,.int .i64 0,.slice none 0 0] 263)) (n:=w.heap.size+1) (.cells #[.int .i64 k,.string ⟨#[]⟩,.string ⟨#[]⟩,.string ⟨#[]⟩,.string ⟨#[]⟩,.bool false,.string ⟨#[]⟩,.bool false,.int .i64 0,.int .i64 0,.slice none 0 0] 263) (by simp);have hk1:=hk0.alloc (.cells #[.int .i64 k,.string ⟨#[]⟩,.string ⟨#[]⟩,.string ⟨#[]⟩,.string ⟨#[]⟩,.bool false,.string ⟨#[]⟩,.bool false,.int .i64 0,.int .i64 0,.slice none 0 0] 263);have c1:=h1.c0;have HE:Hid (qAu (qAP s n) s k q=((qJ7 s q).1,(qJ7 s q).2.map fun x=>(.mk k noB qBD x [],0,0))):=by
  subst hk;rfl
 unfold qCi;have e0:((k:Int)==0)=false:=by subst hk;decide
 have e1:((k:Int)==1)=false:=by subst hk;decide
 have e2:((k:Int)==2)=false:=by subst hk;decide
 have e8:((k:Int)==8)=true:=by subst hk;decide
 clear hk
 first
 | skip
   go_enter func233,ntmps233
   go_wp2_with fail
   refine(qUu B xb rb s q a b c _ h1.old hB).mono ?_;rintro e w2⟨y,v,qq,rfl,h2o,hk2,hor⟩;have h2:=h1.step h2o.1 hk2;unfold qVV;have rs2:=hk2.at (k:=w.heap.size) rs1 (by decide);have ns2:=hk2.at (k:=w.heap.size+1) ns1 (by decide);have hk3:=hk1.trans hk2;obtain⟨⟨q0,q1,q2,q3,q4,q5,q6,q7,q8,q9,q10⟩,f0,f1,f2,f3,f4,f5,f6,f7,f8,f9,f10⟩:=qAY rs2;obtain⟨⟨m0,m1,m2,m3,m4,m5,m6,m7,m8,m9,m10⟩,g0,g1,g2,g3,g4,g5,g6,g7,g8,g9,g10⟩:=qAY ns2;have na0:=qAZ (o:=6) ns2 (.string y.word);have ka0:=(Kp.refl 0 [263] w2).setCell (p:=⟨w.heap.size+1,6,none⟩) ns2 (by simp) (Nat.zero_le _) (.string y.word);have ra0:=qAH (a:=⟨w.heap.size+1,6,none⟩) rs2 (by simp) (.string y.word);have ha0:=hk3.setNew (p:=⟨w.heap.size+1,6,none⟩) (by simp) (.string y.word);have na1:=qAZ (o:=7) na0 (.bool y.hasN);have ka1:=ka0.setCell (p:=⟨w.heap.size+1,7,none⟩) na0 (by simp) (Nat.zero_le _) (.bool y.hasN);have ra1:=qAH (a:=⟨w.heap.size+1,7,none⟩) ra0 (by simp) (.bool y.hasN);have ha1:=ha0.setNew (p:=⟨w.heap.size+1,7,none⟩) (by simp) (.bool y.hasN);have na2:=qAZ (o:=8) na1 (.int .i64 y.a);have ka2:=ka1.setCell (p:=⟨w.heap.size+1,8,none⟩) na1 (by simp) (Nat.zero_le _) (.int .i64 y.a);have ra2:=qAH (a:=⟨w.heap.size+1,8,none⟩) ra1 (by simp) (.int .i64 y.a);have ha2:=ha1.setNew (p:=⟨w.heap.size+1,8,none⟩) (by simp) (.int .i64 y.a);have na3:=qAZ (o:=9) na2 (.int .i64 y.b);have ka3:=ka2.setCell (p:=⟨w.heap.size+1,9,none⟩) na2 (by simp) (Nat.zero_le _) (.int .i64 y.b);have ra3:=qAH (a:=⟨w.heap.size+1,9,none⟩) ra2 (by simp) (.int .i64 y.b);have ha3:=ha2.setNew (p:=⟨w.heap.size+1,9,none⟩) (by simp) (.int .i64 y.b);have kpo:=ka3;have rs3:=ra3;have hk4:=ha3;clear na0 na1 na2 na3 ka0 ka1 ka2 ka3 ra0 ra1 ra2 ra3 ha0 ha1 ha2 ha3;go_wp2
   obtain⟨rsF,kpF⟩:=qMS rs3 (.int .i64 k) (.string ⟨#[]⟩) (.string ⟨#[]⟩) (.string ⟨#[]⟩) (.string ⟨#[]⟩) (.bool false) (.string y.word) (.bool y.hasN) (.int .i64 y.a) (.int .i64 y.b) (.slice none 0 0);have hkF:=hk4.set11 (Nat.le_refl _) (.int .i64 k) (.string ⟨#[]⟩) (.string ⟨#[]⟩) (.string ⟨#[]⟩) (.string ⟨#[]⟩) (.bool false) (.string y.word) (.bool y.hasN) (.int .i64 y.a) (.int .i64 y.b) (.slice none 0 0);refine bodyPost_ret (v:=.tuple #[qIM k noB qBD y (.slice none 0 0),v]) (by simp[results,Tryz.results233,go_sem,q0,q1,q2,q3,q4,q5,q6,q7,q8,q9,q10,qIM,qBD,noB]) rfl ?_;rw[HE.out];have hF:=(h2.kept kpo (by decide) (by decide)).kept kpF (by decide) (by decide);refine⟨noB,qBD,y,.slice none 0 0,v,rfl,hkF.ts,⟨_,_,_,rfl⟩,?_⟩;rcases hor with⟨ho,hq,hv⟩|⟨ho,hc⟩
   ·subst hq;exact .inl ⟨.mk k noB qBD y [],0,0,A,by rw[ho];rfl,hv,by rw[show max c (b+0)=c from by omega];exact hF,⟨List.prefix_refl A,.inl rfl⟩,_,rfl,Nat.zero_le _,RepL.nil _ _ _ _⟩
   ·exact .inr ⟨by rw[ho];rfl,⟨_,_,_,_,_,hF⟩,0,(hc.kept kpo (by decide) (by decide)).kept kpF (by decide) (by decide)⟩
theorem qMA(A:List Cpx)(B xb rb:Nat)(s:ByteArray)(n k q a b c:Nat)(w:World)(h:Sx A w xb rb s q a b c)(hbc:b<=c)(hk:3<=k)(hk7:k<=7) :
  Calls prog 233 #[.pointer (some ⟨xb,0,none⟩),.int .i64 k] w (qCi A B xb rb s n k q a b c w):=by
 have h0:=h.alloc (.cells #[.int .i64 0,.string ⟨#[]⟩,.string ⟨#[]⟩,.string ⟨#[]⟩,.string ⟨#[]⟩,.bool false,.string ⟨#[]⟩,.bool false,.int .i64 0,.int .i64 0,.slice none 0 0] 263);have rs0:=qAE w (.cells #[.int .i64 0,.string ⟨#[]⟩,.string ⟨#[]⟩,.string ⟨#[]⟩,.string ⟨#[]⟩,.bool false,.string ⟨#[]⟩,.bool false,.int .i64 0,.int .i64 0,.slice none 0 0] 263);have hk0:=(Kp.refl B [210] w).alloc (.cells #[.int .i64 0,.string ⟨#[]⟩,.string ⟨#[]⟩,.string ⟨#[]⟩,.string ⟨#[]⟩,.bool false,.string ⟨#[]⟩,.bool false,.int .i64 0,.int .i64 0,.slice none 0 0] 263);have h1:=h0.alloc (.cells #[.int .i64 k,.string ⟨#[]⟩,.string ⟨#[]⟩,.string ⟨#[]⟩,.string ⟨#[]⟩,.bool false,.string ⟨#[]⟩,.bool false,.int .i64 0,.int .i64 0,.slice none 0 0] 263);have rs1:=qAG rs0 (.cells #[.int .i64 k,.string ⟨#[]⟩,.string ⟨#[]⟩,.string ⟨#[]⟩,.string ⟨#[]⟩,.bool false,.string ⟨#[]⟩,.bool false,.int .i64 0,.int .i64 0,.slice none 0 0] 263);have ns1:=qAm (w:=w.alloc (.cells #[.int .i64 0,.string ⟨#[]⟩,.string ⟨#[]⟩,.string ⟨#[]⟩,.string ⟨#[]⟩,.bool false,.string ⟨#[]⟩,.bool false,.int .i64 0,.int .i64 0,.slice none 0 0] 263)) (n:=w.heap.size+1) (.cells #[.int .i64 k,.string ⟨#[]⟩,.string ⟨#[]⟩,.string ⟨#[]⟩,.string ⟨#[]⟩,.bool false,.string ⟨#[]⟩,.bool false,.int .i64 0,.int .i64 0,.slice none 0 0] 263) (by simp);have hk1:=hk0.alloc (.cells #[.int .i64 k,.string ⟨#[]⟩,.string ⟨#[]⟩,.string ⟨#[]⟩,.string ⟨#[]⟩,.bool false,.string ⟨#[]⟩,.bool false,.int .i64 0,.int .i64 0,.slice none 0 0] 263);have HE:Hid (qAu (qAP s n) s k q=(q,some (.mk k noB qBD qB2 [],0,0))):=by
  unfold qAu;rw[if_neg (by omega),if_neg (by omega),if_neg (by omega),if_neg (by omega)];rfl
 unfold qCi;have e0:((k:Int)==0)=false:=by simp;omega
 have e1:((k:Int)==1)=false:=by simp;omega
 have e2:((k:Int)==2)=false:=by simp;omega
 have e8:((k:Int)==8)=false:=by simp;omega
 have e9:((k:Int)==9)=false:=by simp;omega
 have e10:((k:Int)==10)=false:=by simp;omega
 clear hk hk7;obtain⟨⟨q0,q1,q2,q3,q4,q5,q6,q7,q8,q9,q10⟩,f0,f1,f2,f3,f4,f5,f6,f7,f8,f9,f10⟩:=qAY rs1;obtain⟨⟨m0,m1,m2,m3,m4,m5,m6,m7,m8,m9,m10⟩,_⟩:=qAY ns1;go_enter func233,ntmps233
 go_wp2
 clear rs0 hk0 h0 ns1 m0 m1 m2 m3 m4 m5 m6 m7 m8 m9 m10 h1 rs1 hk1 q0 q1 q2 q3 q4 q5 q6 q7 q8 q9 q10 f0 f1 f2 f3 f4 f5 f6 f7 f8 f9 f10;have hF:=(h.alloc (.cells #[.int .i64 k,.string ⟨#[]⟩,.string ⟨#[]⟩,.string ⟨#[]⟩,.string ⟨#[]⟩,.bool false,.string ⟨#[]⟩,.bool false,.int .i64 0,.int .i64 0,.slice none 0 0] 263)).alloc (.cells #[.int .i64 k,.string ⟨#[]⟩,.string ⟨#[]⟩,.string ⟨#[]⟩,.string ⟨#[]⟩,.bool false,.string ⟨#[]⟩,.bool false,.int .i64 0,.int .i64 0,.slice none 0 0] 263);have hkF:=((Kp.refl B [210] w).alloc (.cells #[.int .i64 k,.string ⟨#[]⟩,.string ⟨#[]⟩,.string ⟨#[]⟩,.string ⟨#[]⟩,.bool false,.string ⟨#[]⟩,.bool false,.int .i64 0,.int .i64 0,.slice none 0 0] 263)).alloc (.cells #[.int .i64 k,.string ⟨#[]⟩,.string ⟨#[]⟩,.string ⟨#[]⟩,.string ⟨#[]⟩,.bool false,.string ⟨#[]⟩,.bool false,.int .i64 0,.int .i64 0,.slice none 0 0] 263);have rsF:=qAG (qAE w (.cells #[.int .i64 k,.string ⟨#[]⟩,.string ⟨#[]⟩,.string ⟨#[]⟩,.string ⟨#[]⟩,.bool false,.string ⟨#[]⟩,.bool false,.int .i64 0,.int .i64 0,.slice none 0 0] 263)) (.cells #[.int .i64 k,.string ⟨#[]⟩,.string ⟨#[]⟩,.string ⟨#[]⟩,.string ⟨#[]⟩,.bool false,.string ⟨#[]⟩,.bool false,.int .i64 0,.int .i64 0,.slice none 0 0] 263);generalize (w.alloc (.cells #[.int .i64 k,.string ⟨#[]⟩,.string ⟨#[]⟩,.string ⟨#[]⟩,.string ⟨#[]⟩,.bool false,.string ⟨#[]⟩,.bool false,.int .i64 0,.int .i64 0,.slice none 0 0] 263)).alloc (.cells #[.int .i64 k,.string ⟨#[]⟩,.string ⟨#[]⟩,.string ⟨#[]⟩,.string ⟨#[]⟩,.bool false,.string ⟨#[]⟩,.bool false,.int .i64 0,.int .i64 0,.slice none 0 0] 263)=w2 at *;obtain⟨⟨q0,q1,q2,q3,q4,q5,q6,q7,q8,q9,q10⟩,_⟩:=qAY rsF;refine bodyPost_ret (v:=.tuple #[qIM k noB qBD qB2 (.slice none 0 0),.nilIface]) (by simp[results,Tryz.results233,go_sem,q0,q1,q2,q3,q4,q5,q6,q7,q8,q9,q10,qIM,qBD,qB2,noB]) rfl ?_;rw[HE.out];exact⟨noB,qBD,qB2,.slice none 0 0,.nilIface,rfl,hkF.ts,⟨_,_,_,rfl⟩,.inl ⟨.mk k noB qBD qB2 [],0,0,A,rfl,rfl,by rw[show max c (b+0)=c from by omega];exact hF,⟨List.prefix_refl A,.inl rfl⟩,_,rfl,Nat.zero_le _,RepL.nil _ _ _ _⟩⟩
theorem qOQ(A:List Cpx)(B xb rb:Nat)(s:ByteArray)(n k q a b c:Nat)(w:World)(IH:qDu B xb rb s n)(h:Sx A w xb rb s q a b c)(hA:A.length<=q)(ha:a<=q)(hb:b<=q)(hbc:b<=c)(hn:s.size<q+n)(hk:k=9\/k=10) :
  Calls prog 233 #[.pointer (some ⟨xb,0,none⟩),.int .i64 k] w (qCi A B xb rb s n k q a b c w):=by
 have h0:=h.alloc (.cells #[.int .i64 0,.string ⟨#[]⟩,.string ⟨#[]⟩,.string ⟨#[]⟩,.string ⟨#[]⟩,.bool false,.string ⟨#[]⟩,.bool false,.int .i64 0,.int .i64 0,.slice none 0 0] 263);have rs0:=qAE w (.cells #[.int .i64 0,.string ⟨#[]⟩,.string ⟨#[]⟩,.string ⟨#[]⟩,.string ⟨#[]⟩,.bool false,.string ⟨#[]⟩,.bool false,.int .i64 0,.int .i64 0,.slice none 0 0] 263);have hk0:=(Kp.refl B [210] w).alloc (.cells #[.int .i64 0,.string ⟨#[]⟩,.string ⟨#[]⟩,.string ⟨#[]⟩,.string ⟨#[]⟩,.bool false,.string ⟨#[]⟩,.bool false,.int .i64 0,.int .i64 0,.slice none 0 0] 263);have h1:=h0.alloc (.cells #[.int .i64 k,.string ⟨#[]⟩,.string ⟨#[]⟩,.string ⟨#[]⟩,.string ⟨#[]⟩,.bool false,.string ⟨#[]⟩,.bool false,.int .i64 0,.int .i64 0,.slice none 0 0] 263);have rs1:=qAG rs0 (.cells #[.int .i64 k,.string ⟨#[]⟩,.string ⟨#[]⟩,.string ⟨#[]⟩,.string ⟨#[]⟩,.bool false,.string ⟨#[]⟩,.bool false,.int .i64 0,.int .i64 0,.slice none 0 0] 263);have ns1:=qAm (w:=w.alloc (.cells #[.int .i64 0,.string ⟨#[]⟩,.string ⟨#[]⟩,.string ⟨#[]⟩,.string ⟨#[]⟩,.bool false,.string ⟨#[]⟩,.bool false,.int .i64 0,.int .i64 0,.slice none 0 0] 263)) (n:=w.heap.size+1) (.cells #[.int .i64 k,.string ⟨#[]⟩,.string ⟨#[]⟩,.string ⟨#[]⟩,.string ⟨#[]⟩,.bool false,.string ⟨#[]⟩,.bool false,.int .i64 0,.int .i64 0,.slice none 0 0] 263) (by simp);have hk1:=hk0.alloc (.cells #[.int .i64 k,.string ⟨#[]⟩,.string ⟨#[]⟩,.string ⟨#[]⟩,.string ⟨#[]⟩,.bool false,.string ⟨#[]⟩,.bool false,.int .i64 0,.int .i64 0,.slice none 0 0] 263);have HE:Hid (qAu (qAP s n) s k q=((qAP s n q).1,(qAP s n q).2.map fun x=>(.mk k noB qBD qB2 x.1,x.2.1,x.2.2+1))):=by
  unfold qAu;rw[if_neg (by omega),if_neg (by omega),if_neg (by omega),if_pos (by omega)];rfl
 unfold qCi;have e0:((k:Int)==0)=false:=by simp;omega
 have e1:((k:Int)==1)=false:=by simp;omega
 have e2:((k:Int)==2)=false:=by simp;omega
 have e8:((k:Int)==8)=false:=by simp;omega
 have hkk:(((k:Int)==9)=true/\((k:Int)==10)=false)\/(((k:Int)==9)=false/\((k:Int)==10)=true):=by
  rcases hk with rfl|rfl<;>decide
 have HK8:=qAF hk;clear hk;have hsz1:((w.alloc (.cells #[.int .i64 0,.string ⟨#[]⟩,.string ⟨#[]⟩,.string ⟨#[]⟩,.string ⟨#[]⟩,.bool false,.string ⟨#[]⟩,.bool false,.int .i64 0,.int .i64 0,.slice none 0 0] 263)).alloc (.cells #[.int .i64 k,.string ⟨#[]⟩,.string ⟨#[]⟩,.string ⟨#[]⟩,.string ⟨#[]⟩,.bool false,.string ⟨#[]⟩,.bool false,.int .i64 0,.int .i64 0,.slice none 0 0] 263)).heap.size=w.heap.size+2:=by simp
 rcases hkk with⟨e9,e10⟩|⟨e9,e10⟩
 all_goals
  go_enter func233,ntmps233
  go_wp2_with fail
  refine(IH A q a b c _ h1 hA ha hb hbc hn).mono ?_;rintro e w2⟨lv,v,rfl,hk2,hor⟩;rw[hsz1]at hor;have rs2:=hk2.tsR (k:=w.heap.size) rs1 (by decide) (by decide);have ns2:=hk2.tsR (k:=w.heap.size+1) ns1 (by decide) (by decide);have hk3:=hk1.ts.trans hk2;obtain⟨la,lm,lc,hlv⟩:∃la lm lc,lv=.slice la lm lc:=by
   rcases hor with⟨l,cn,d,A1,_,_,_,_,hr⟩|⟨_,hl,_⟩
   ·exact hr.shape
   ·exact⟨_,_,_,hl⟩
  subst hlv;obtain⟨⟨q0,q1,q2,q3,q4,q5,q6,q7,q8,q9,q10⟩,f0,f1,f2,f3,f4,f5,f6,f7,f8,f9,f10⟩:=qAY rs2;obtain⟨⟨m0,m1,m2,m3,m4,m5,m6,m7,m8,m9,m10⟩,g0,g1,g2,g3,g4,g5,g6,g7,g8,g9,g10⟩:=qAY ns2;have kpo:=Kp.setAny (p:=⟨w.heap.size+1,10,none⟩) ns2 (.slice la lm lc);have rs3:=qAH (a:=⟨w.heap.size+1,10,none⟩) rs2 (by simp) (.slice la lm lc);have hk4:=hk3.setNew (p:=⟨w.heap.size+1,10,none⟩) (by simp) (.slice la lm lc);go_wp2
  obtain⟨rsF,kpF⟩:=qMS rs3 (.int .i64 k) (.string ⟨#[]⟩) (.string ⟨#[]⟩) (.string ⟨#[]⟩) (.string ⟨#[]⟩) (.bool false) (.string ⟨#[]⟩) (.bool false) (.int .i64 0) (.int .i64 0) (.slice la lm lc);have hkF:=hk4.set11 (Nat.le_refl _) (.int .i64 k) (.string ⟨#[]⟩) (.string ⟨#[]⟩) (.string ⟨#[]⟩) (.string ⟨#[]⟩) (.bool false) (.string ⟨#[]⟩) (.bool false) (.int .i64 0) (.int .i64 0) (.slice la lm lc);refine bodyPost_ret (v:=.tuple #[qIM k noB qBD qB2 (.slice la lm lc),v]) (by simp[results,Tryz.results233,go_sem,q0,q1,q2,q3,q4,q5,q6,q7,q8,q9,q10,qIM,qBD,qB2,noB]) rfl ?_;rw[HE.out];refine⟨noB,qBD,qB2,.slice la lm lc,v,rfl,hkF,⟨_,_,_,rfl⟩,?_⟩;rcases hor with⟨l,cn,d,A1,ho,hv,h2,hA1,hr⟩|⟨ho,_,⟨A9,q',a',b',c',h2⟩,j,hc⟩
  ·refine .inl ⟨.mk k noB qBD qB2 l,cn,d+1,A1,by rw[ho];rfl,hv,?_,⟨hA1.1,.inr ⟨hA1.2,by rcases HK8.out with h|h<;>omega⟩⟩,_,rfl,Nat.zero_le _,?_⟩
   ·rw[show b+(d+1)=b+1+d from by omega];exact(h2.kept kpo (by decide) (by decide)).kept kpF (by decide) (by decide)
   ·refine hr.map ?_;intro g cc t hg hbk _;refine⟨by omega,?_⟩;exact qIJ (qAH (a:=⟨w.heap.size+1,10,none⟩) hbk (by show g≠w.heap.size+1;omega) _) (by omega) _ _ _ _ _ _ _ _ _ _ _
  ·exact .inr ⟨by rw[ho];rfl,⟨_,_,_,_,_,(h2.kept kpo (by decide) (by decide)).kept kpF (by decide) (by decide)⟩,j,(hc.kept kpo (by decide) (by decide)).kept kpF (by decide) (by decide)⟩
theorem qPp(A:List Cpx)(B xb rb:Nat)(s:ByteArray)(n k q a b c:Nat)(w:World)(IH:qDu B xb rb s n)(h:Sx A w xb rb s q a b c)(hB:B<=rb)(hA:A.length<=q)(ha:a<=q)(hb:b<=q)(hbc:b<=c)(hn:s.size<q+n)(hk:k<11) :
  Calls prog 233 #[.pointer (some ⟨xb,0,none⟩),.int .i64 k] w (qCi A B xb rb s n k q a b c w):=by
 by_cases h1:k<=1
 ·exact qOR A B xb rb s n k q a b c w h hB hbc (by omega)
 by_cases h2:k=2
 ·exact qOP A B xb rb s n k q a b c w h hB hbc h2
 by_cases h8:k=8
 ·exact qPq A B xb rb s n k q a b c w h hB hbc h8
 by_cases h7:k<=7
 ·exact qMA A B xb rb s n k q a b c w h hbc (by omega) h7
 ·exact qOQ A B xb rb s n k q a b c w IH h hA ha hb hbc hn (by omega)
end Go.Proofs.YtclpcnignheijaaGreatDoor.Num
namespace Go.Proofs.YtclpcnignheijaaGreatDoor
open Go.RowKit Go.Proofs.Tryz
theorem qUH{α β:Type}{Q:α->List Value->Prop}{T:β->List Value->Prop}:∀(L:List α)(c:List β){xs:List Value},L.length=c.length->(∀(j:Nat) x y,L[j]? = some x->c[j]? = some y->∀vs,Q x vs->T y vs)->Row Q L xs->Row T c xs
 |[],[],_,_,_,h=>h
 |[],_::_,_,e,_,_=>by cases e
 |_::_,[],_,e,_,_=>by cases e
 |_::L,_::c,_,e,hq,⟨d,r,e1,h1,h2⟩=>⟨d,r,e1,hq 0 _ _ rfl rfl _ h1,qUH L c (by simpa using e) (fun j x y hx hy=>hq (j+1) x y (by simpa using hx) (by simpa using hy)) h2⟩
section
variable{A:List Cpx}{P:Nat->Prop}{w:World}
theorem qXN{RL RL':Value->qAg->Prop}(hr:∀v l,RL v l->RL' v l){m:Sim}{vs:List Value}(h:Num.repS RL m vs):repS qAi RL' m vs:=by
 obtain⟨k,x,a,t,l⟩:=m;obtain⟨v,e,-,h⟩:=h;exact⟨v,e,hr v l h⟩
theorem qXM{RL RL':Value->qAg->Prop}(hr:∀v l,RL v l->RL' v l){v:Value}{ms:List Sim}(h:Num.repM P w RL v ms):repM qAi P w RL' v ms:=by
 obtain⟨xs,h1,h2⟩:=h;exact⟨xs,h1,h2.mono fun _ _ h=>qXN hr h⟩
theorem qXK{RL RL':Value->qAg->Prop}(hr:∀v l,RL v l->RL' v l){v:Value}{c:Cpx}(h:Num.repC A P w RL v c):repC qAi P w RL' v c:=by
 obtain⟨xs,h1,h2⟩:=h;refine⟨xs,h1,qUH _ _ (Num.prefs_len c) (fun j x y hx hy vs hq=>?_) h2⟩;obtain⟨l,st,k,v',e,e2,-,hm⟩:=hq;have hlt:j<c.length:=(List.getElem?_eq_some_iff.1 hy).1;rw[Num.prefs_get hlt]at hx;obtain rfl:=Option.some.inj hx;rw[List.take_add_one,hy]at e;have e3:[y]=[st]:=(List.append_inj' e (by simp)).2;cases e3;exact⟨v',[.int .i64 k],e2,⟨k,rfl⟩,qXM hr hm⟩
theorem qXL{RL RL':Value->qAg->Prop}(hr:∀v l,RL v l->RL' v l){v:Value}{l:qAg}(h:Num.repL A P w RL v l):repL qAi P w RL' v l:=by
 obtain⟨xs,h1,h2⟩:=h;refine⟨xs,h1,h2.mono fun c vs ⟨v',e,h⟩=>⟨v',e,qXK hr h⟩⟩
theorem qNd:∀(n:Nat){v:Value}{l:qAg},Num.RepL A P w n v l->RepL qAi P w n v l
 |0,_,_,h=>h
 |n+1,_,_,h=>qXL (fun _ _ h=>qNd n h) h
end
