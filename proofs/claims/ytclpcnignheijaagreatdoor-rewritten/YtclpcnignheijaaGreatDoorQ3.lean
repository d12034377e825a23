/-
  Parts of the proof: B7, C1.
-/
import Derived.Test.YtclpcnignheijaaGreatDoorQ2
import Derived.Deep.AppendLies
import Derived.Deep.RegionHeldLaw
set_option maxHeartbeats 2000000
set_option maxRecDepth 100000
namespace Go.Proofs.YtclpcnignheijaaGreatDoor
open Go.RowKit Go.Proofs.Tryz
theorem qMF(B rb bb:Nat)(s:ByteArray)(p:Nat)(w:World)(h:Rd w rb s p)(hB:B<=rb) :
  Calls prog 145 #[.agg #[.pointer (some ⟨rb,0,none⟩),.pointer (some ⟨bb,0,none⟩)]] w fun e w'=>∃(v:Value),e=.returned v /\
   Rd w' rb s (qA6 s p).1/\Kp B [210] w w'/\(((qA6 s p).2=true/\v=.nilIface)\/((qA6 s p).2=false/\∃n,Chain w' 2 (qA6 s p).1 n v)):=by
 have h5:=h.max;have h4:=h.le;have hle:=qBi s [33,45,45] p h4;cases h1:(qAo s [33,45,45] p).2
 ·have HE:Hid (qA6 s p=((qAo s [33,45,45] p).1,false)):=by unfold qA6;rw[if_pos h1];rfl
  have H1:=qAF h1;clear h1;go_enter func145,ntmps145
  go_wp2_with fail
  refine(qAw B rb s ⟨#[33,45,45]⟩ p _ (h.alloc _) hB (by decide)).mono ?_;rintro e w1⟨v,rfl,hr1,hk1,hor⟩;rcases hor with⟨ho,_⟩|⟨_,hc⟩
  ·exact absurd (ho.symm.trans H1.out) (by decide)
  obtain⟨ty,kk,hv⟩:=hc.shape;rw[hv]at hc ⊢;go_wp2
  go_ret
  rw[HE.out];exact⟨_,rfl,hr1,((Kp.refl _ _ _).alloc _).trans hk1,.inr ⟨rfl,0,hc⟩⟩
 ·have HE:Hid (qA6 s p=comP s (s.size+1) (qAo s [33,45,45] p).1):=by unfold qA6;rw[if_neg (by rw[h1];exact Bool.noConfusion)];rfl
  have H1:=qAF h1;clear h1;go_enter func145,ntmps145
  go_wp2_with fail
  refine(qAw B rb s ⟨#[33,45,45]⟩ p _ (h.alloc _) hB (by decide)).mono ?_;rintro e w1⟨v,rfl,hr1,hk1,hor⟩;rcases hor with⟨_,rfl⟩|⟨ho,_⟩;rotate_left
  ·exact absurd (ho.symm.trans H1.out) (by decide)
  have bx1:=hk1.at (qAE w _) (by decide);go_wp2
  go_loopw [10] (fun _ wr=>∃(q f:Nat),Rd wr rb s q/\s.size<q+f/\wr.heap[w.heap.size]? = some (.cells #[.pointer (some ⟨rb,0,none⟩),.pointer (some ⟨bb,0,none⟩)] 163 (0,0))/\Hid (comP s f q=qA6 s p)/\Kp B [210] w wr) (fun _ wr=>s.size-placeOf wr rb)
  case atStart=>exact⟨_,s.size+1,hr1,by omega,bx1,qAF HE.out.symm,((Kp.refl _ _ _).alloc _).trans hk1⟩
  case round =>
   clear hr1 hk1 bx1 HE H1 hle h;obtain⟨q,f,hr,hf,hbx,HQ,hk⟩:=hrel;have b0:=qAJ hbx;have g4:=hr.le;obtain⟨f,rfl⟩:∃f',f=f'+1:=⟨f-1,by omega⟩;by_cases hm:qAC s q=45
   ·have hlt:q<s.size:=qAX (by omega);have HM:=qAF hm;by_cases hm2:qAC s (q+1)=45
    ·have hlt2:q+1<s.size:=qAX (by omega);have HE:Hid (qA6 s p=qAo s [62] (q+2)):=by rw[<-HQ.out,comP,if_pos hm,if_pos hm2];rfl
     have HM2:=qAF hm2;clear hm hm2;go_wp2_with fail
     refine(qBU B rb s q 45 _ hr hB (by decide) HM.out).mono ?_;rintro e w2⟨rfl,hr2,hk2⟩;have bx2:=hk2.at hbx (by decide);have c0:=qAJ bx2;go_wp2_with fail
     refine(qBU B rb s (q+1) 45 _ hr2 hB (by decide) HM2.out).mono ?_;rintro e w3⟨rfl,hr3,hk3⟩;have bx3:=hk3.at bx2 (by decide);have d0:=qAJ bx3;go_wp2_with fail
     refine(qAw B rb s ⟨#[62]⟩ (q+1+1) _ hr3 hB (by decide)).mono ?_;rintro e w4⟨v,rfl,hr4,hk4,hor⟩;have KK:=((hk.trans hk2).trans hk3).trans hk4;rcases hor with⟨ho,rfl⟩|⟨ho,hc⟩
     ·have HO:=qAF ho;clear ho;go_wp2
      go_ret
      rw[HE.out];exact⟨_,rfl,hr4,KK,.inl ⟨HO.out,rfl⟩⟩
     ·have HO:=qAF ho;clear ho;obtain⟨ty,kk,hv⟩:=hc.shape;rw[hv]at hc ⊢;go_wp2
      go_ret
      rw[HE.out];exact⟨_,rfl,hr4,KK,.inr ⟨HO.out,0,hc⟩⟩
    ·have HM2:=qAF hm2;by_cases hz:qAC s (q+1)=0
     ·have HE:Hid (qA6 s p=(q+1,false)):=by rw[<-HQ.out,comP,if_pos hm,if_neg hm2,if_pos hz];rfl
      have hz':(qAC s (q+1)==0)=true:=by simp[hz]
      clear hm hm2 hz;go_wp2_with fail
      refine(qBU B rb s q 45 _ hr hB (by decide) HM.out).mono ?_;rintro e w2⟨rfl,hr2,hk2⟩;have bx2:=hk2.at hbx (by decide);have c0:=qAJ bx2;go_wp2_with fail
      refine(qBm B rb s (q+1) 45 _ hr2 (.inr HM2.out)).mono ?_;rintro e w3⟨rfl,hr3,hk3⟩;have bx3:=hk3.at bx2 (by decide);have d0:=qAJ bx3;go_wp2_with fail
      refine(qAL rb s (q+1) _ hr3).mono ?_;rintro e w4⟨rfl,nq,rfl⟩;go_wp2_with fail
      refine(qBB B rb s (q+1) _ (hr3.drewN _)).mono ?_;rintro e w5⟨v,rfl,hc,hr5,hk5⟩;go_wp2
      go_ret
      rw[HE.out];exact⟨_,rfl,hr5,((hk.trans hk2).trans hk3).trans hk5.fromDrewN,.inr ⟨rfl,0,hc⟩⟩
     ·have HE:Hid (qA6 s p=comP s f (q+2)):=by rw[<-HQ.out,comP,if_pos hm,if_neg hm2,if_neg hz];rfl
      have hz':(qAC s (q+1)==0)=false:=by simp[hz]
      have hlt2:=qAX hz;have HSk:Hid (skipP s (q+1)=q+1+1):=by unfold skipP;rw[if_neg hz];rfl
      clear hm hm2 hz;go_wp2_with fail
      refine(qBU B rb s q 45 _ hr hB (by decide) HM.out).mono ?_;rintro e w2⟨rfl,hr2,hk2⟩;have bx2:=hk2.at hbx (by decide);have c0:=qAJ bx2;go_wp2_with fail
      refine(qBm B rb s (q+1) 45 _ hr2 (.inr HM2.out)).mono ?_;rintro e w3⟨rfl,hr3,hk3⟩;have bx3:=hk3.at bx2 (by decide);have d0:=qAJ bx3;go_wp2_with fail
      refine(qAL rb s (q+1) _ hr3).mono ?_;rintro e w4⟨rfl,nq,rfl⟩;go_wp2_with fail
      refine(skip_any B rb s (q+1) _ (hr3.drewN _) hB).mono ?_;rintro e w5⟨rfl,hr5,hk5⟩;rw[HSk.out]at hr5;have bx5:=hk5.at bx3 (by decide);go_wp2
      go_roundw
      case rel=>exact⟨q+2,f,hr5,by omega,bx5,qAF HE.out.symm,((hk.trans hk2).trans hk3).trans hk5.fromDrewN⟩
      case measure=>rw[hr5.placeOf,hr.placeOf];omega
   ·have HM:=qAF hm;by_cases hz:qAC s q=0
    ·have HE:Hid (qA6 s p=(q,false)):=by rw[<-HQ.out,comP,if_neg hm,if_pos hz];rfl
     have hz':(qAC s q==0)=true:=by simp[hz]
     clear hm hz;go_wp2_with fail
     refine(qBm B rb s q 45 _ hr (.inr HM.out)).mono ?_;rintro e w2⟨rfl,hr2,hk2⟩;have bx2:=hk2.at hbx (by decide);have c0:=qAJ bx2;go_wp2_with fail
     refine(qAL rb s q _ hr2).mono ?_;rintro e w4⟨rfl,nq,rfl⟩;go_wp2_with fail
     refine(qBB B rb s q _ (hr2.drewN _)).mono ?_;rintro e w5⟨v,rfl,hc,hr5,hk5⟩;go_wp2
     go_ret
     rw[HE.out];exact⟨_,rfl,hr5,(hk.trans hk2).trans hk5.fromDrewN,.inr ⟨rfl,0,hc⟩⟩
    ·have HE:Hid (qA6 s p=comP s f (q+1)):=by rw[<-HQ.out,comP,if_neg hm,if_neg hz];rfl
     have hz':(qAC s q==0)=false:=by simp[hz]
     have hlt2:=qAX hz;have HSk:Hid (skipP s q=q+1):=by unfold skipP;rw[if_neg hz];rfl
     clear hm hz;go_wp2_with fail
     refine(qBm B rb s q 45 _ hr (.inr HM.out)).mono ?_;rintro e w2⟨rfl,hr2,hk2⟩;have bx2:=hk2.at hbx (by decide);have c0:=qAJ bx2;go_wp2_with fail
     refine(qAL rb s q _ hr2).mono ?_;rintro e w4⟨rfl,nq,rfl⟩;go_wp2_with fail
     refine(skip_any B rb s q _ (hr2.drewN _) hB).mono ?_;rintro e w5⟨rfl,hr5,hk5⟩;rw[HSk.out]at hr5;have bx5:=hk5.at bx2 (by decide);go_wp2
     go_roundw
     case rel=>exact⟨q+1,f,hr5,by omega,bx5,qAF HE.out.symm,(hk.trans hk2).trans hk5.fromDrewN⟩
     case measure=>rw[hr5.placeOf,hr.placeOf];omega
structure El where
 name:ByteArray
 parent:Int
 attrs:List (ByteArray×ByteArray)
 lo:Int
 hi:Int
structure BS where
 els:List El
 txt:List UInt8
 opn:Int
 dep:Int
def BS.begin(b:BS)(n:ByteArray)(l:List (ByteArray×ByteArray)):BS :=
 { els:=b.els++[⟨n,b.opn,l,(b.txt.length:Int),0⟩],txt:=b.txt,opn:=(b.els.length:Int),dep:=b.dep+1 }
def BS.fin(b:BS):BS :=
 match b.els[b.opn.toNat]? with
 |none=>b
 |some x=>if b.opn=-1 then b else { els:=b.els.set b.opn.toNat { x with hi:=(b.txt.length:Int) },txt:=b.txt,opn:=x.parent,dep:=b.dep-1 }
def BS.text(b:BS)(l:List UInt8):BS:={ b with txt:=b.txt++l }
structure BS.Ok(b:BS):Prop where
 opn:-1<=b.opn/\b.opn<b.els.length
 par:∀(i:Nat)(x:El),b.els[i]? = some x->-1<=x.parent/\x.parent<i
 dep:-5000<=b.dep/\b.dep<=b.els.length
 small:b.els.length<=5000/\b.txt.length<=5000
def qBd:List El->List Value->List Value
 |x::r,a::q=>.string x.name::.int .i64 x.parent::a::.int .i64 x.lo::.int .i64 x.hi::qBd r q
 |_,_=>[]
theorem qGg:∀(l:List El)(q:List Value)(x:El)(a:Value),q.length=l.length->qBd (l++[x]) (q++[a])=qBd l q++[.string x.name,.int .i64 x.parent,a,.int .i64 x.lo,.int .i64 x.hi]
 |[],[],x,a,_=>rfl
 |[],_::_,_,_,h=>by simp at h
 |_::_,[],_,_,h=>by simp at h
 |y::r,b::q,x,a,h=>by
  have:=qGg r q x a (by simpa using h);simp[qBd,this]
theorem qCr:∀(l:List El)(q:List Value)(k:Nat)(x:El)(a:Value),l[k]? = some x->q[k]? = some a ->
  (qBd l q)[k*5]? = some (.string x.name)/\(qBd l q)[k*5+1]? = some (.int .i64 x.parent)/\(qBd l q)[k*5+2]? = some a/\(qBd l q)[k*5+3]? = some (.int .i64 x.lo)/\(qBd l q)[k*5+4]? = some (.int .i64 x.hi)
 |[],_,k,x,a,h,_=>by simp at h
 |_::_,[],k,x,a,_,h=>by simp at h
 |y::r,b::q,0,x,a,h,h'=>by simp at h h';subst h;subst h';exact⟨rfl,rfl,rfl,rfl,rfl⟩
 |y::r,b::q,k+1,x,a,h,h'=>by
  have:=qCr r q k x a (by simpa using h) (by simpa using h');rw[show(k+1)*5=k*5+5 from by omega];exact this
theorem qHn:∀(l:List El)(q:List Value)(k:Nat)(x:El)(h:Int),l[k]? = some x->q.length=l.length->qBd (l.set k { x with hi:=h }) q=(qBd l q).set (k*5+4) (.int .i64 h)
 |[],_,k,x,h,hk,_=>by simp at hk
 |_::_,[],k,x,h,_,hl=>by simp at hl
 |y::r,b::q,0,x,h,hk,hl=>by simp at hk;subst hk;rfl
 |y::r,b::q,k+1,x,h,hk,hl=>by
  have:=qHn r q k x h (by simpa using hk) (by simpa using hl);rw[show(k+1)*5+4=(k*5+4)+5 from by omega];simp[qBd,this]
def Bd(w:World)(B bb:Nat)(b:BS):Prop :=
 ∃(ve vt:Value)(avs:List Value),w.heap[bb]? = some (.cells #[ve,vt,.int .i64 b.opn,.int .i64 b.dep] 212 (0,0))/\avs.length=b.els.length /\
  w.ownsRow B 139 5 ve b.els.length (qBd b.els avs)/\w.ownsRow B 5 1 vt b.txt.length (u8s b.txt) /\
  ∀(i:Nat)(x:El)(a:Value),b.els[i]? = some x->avs[i]? = some a->w.ownsRow B 169 2 a x.attrs.length (attrCells x.attrs)
theorem Bd.kept{B B' bb:Nat}{T:List TypeId}{w w':World}{b:BS}(h:Bd w B bb b)(k:Kp B' T w w')(h1:212 ∉ T)(h2:139 ∉ T)(h3:5 ∉ T)(h4:169 ∉ T):Bd w' B bb b:=by
 obtain⟨ve,vt,avs,a1,a2,a3,a4,a5⟩:=h;exact⟨ve,vt,avs,k.at a1 h1,a2,k.owns a3 h2,k.owns a4 h3,fun i x a hx ha=>k.owns (a5 i x a hx ha) h4⟩
theorem Bd.alloc{B bb:Nat}{w:World}{b:BS}(h:Bd w B bb b)(o:Obj):Bd (w.alloc o) B bb b:=h.kept ((Kp.refl 0 [] w).alloc o) (by simp) (by simp) (by simp) (by simp)
theorem Bd.drewN{B bb:Nat}{w:World}{b:BS}(h:Bd w B bb b)(n:Nat):Bd (w.drewN n) B bb b:=h.kept ((Kp.refl 0 [] w).drewN n) (by simp) (by simp) (by simp) (by simp)
theorem qIb{w:World}{b:Nat}{x y z u:Value}{t:TypeId}(h:w.heap[b]? = some (.cells #[x,y,z,u] t (0,0))) :
  w.cell? ⟨b,0,none⟩=some x/\w.cell? ⟨b,1,none⟩=some y/\w.cell? ⟨b,2,none⟩=some z/\w.cell? ⟨b,3,none⟩=some u:=by simp[World.cell?,h]
theorem qJh(B bb:Nat)(b:BS)(w:World)(h:Bd w B bb b) :
  Calls prog 224 #[.pointer (some ⟨bb,0,none⟩)] w fun e w'=>e=.returned (.int .i64 (b.els.length:Int))/\w'=w:=by
 obtain⟨ve,vt,avs,a1,a2,a3,a4,a5⟩:=h;obtain⟨c0,c1,c2,c3⟩:=qIb a1;obtain⟨ao,cp,hv⟩:=qBA a3;subst hv;go_enter func224,ntmps224
 go_wp2
 go_ret
 exact⟨rfl,rfl⟩
theorem qGC(B bb:Nat)(b:BS)(w:World)(h:Bd w B bb b) :
  Calls prog 225 #[.pointer (some ⟨bb,0,none⟩)] w fun e w'=>e=.returned (.int .i64 b.dep)/\w'=w:=by
 obtain⟨ve,vt,avs,a1,a2,a3,a4,a5⟩:=h;obtain⟨c0,c1,c2,c3⟩:=qIb a1;go_enter func225,ntmps225
 go_wp2
 go_ret
 exact⟨rfl,rfl⟩
theorem qJj(B bb:Nat)(b:BS)(w:World)(h:Bd w B bb b)(ho:b.opn=-1) :
  Calls prog 121 #[.pointer (some ⟨bb,0,none⟩)] w fun e w'=>e=.returned (.tuple #[.string ⟨#[]⟩,.bool false])/\w'=w:=by
 obtain⟨ve,vt,avs,a1,a2,a3,a4,a5⟩:=h;obtain⟨c0,c1,c2,c3⟩:=qIb a1;have ho':(b.opn == -1)=true:=by simp[ho]
 clear ho;go_enter func121,ntmps121
 go_wp2
 go_ret2
 exact⟨rfl,rfl⟩
theorem qHU{w:World}{B:Nat}{e:TypeId}{size:Nat}{v:Value}{n:Nat}{xs:List Value}(h:w.ownsRow B e size v n xs)(hn:0<n):∃g cap,v=.slice (some ⟨g,0,none⟩) n cap/\B<=g/\g<w.heap.size:=h.form hn
theorem qKv(B bb:Nat)(b:BS)(k:Nat)(x:El)(w:World)(h:Bd w B bb b)(ho:b.opn=(k:Int))(hx:b.els[k]? = some x)(hs:b.els.length<=5000) :
  Calls prog 121 #[.pointer (some ⟨bb,0,none⟩)] w fun e w'=>e=.returned (.tuple #[.string x.name,.bool true])/\∃n,w'=w.drewN n:=by
 obtain⟨ve,vt,avs,a1,a2,a3,a4,a5⟩:=h;have hlt:k<b.els.length:=(List.getElem?_eq_some_iff.1 hx).1;rw[ho]at a1;obtain⟨c0,c1,c2,c3⟩:=qIb a1;obtain⟨g,cap,hv,hBg,hgs⟩:=qHU a3 (by omega);subst hv;have hav:avs[k]? = some (avs[k]'(by omega)):=List.getElem?_eq_getElem (by omega);obtain⟨e0,e1,e2,e3,e4⟩:=qCr b.els avs k x _ hx hav;have d0:w.cell? ⟨g,k*5,none⟩=some (.string x.name):=by rw[a3.cellAt _ (by omega),e0]
 clear e0 e1 e2 e3 e4 hav a5 a3 a4 a2 a1 hx;have ho':(((k:Nat):Int) == -1)=false:=by simp
 go_enter func121,ntmps121
 go_wp2
 go_quiet (fail)
 go_wp2
 go_ret2
 exact⟨rfl,_,rfl⟩
