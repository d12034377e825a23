/-
  Parts of the proof: K0, A1, A2, A3, A4, A5.
-/
import Derived.WalkSpells
import Derived.WalkLawsBesides
import Derived.Test.YtclpcnignheijaaGreatDoorRows
import Derived.BigQuiet
import Derived.Deep.RegionWith
set_option maxHeartbeats 1000000
namespace Go.Proofs.YtclpcnignheijaaGreatDoor
open Go.RowKit Go.Proofs.Tryz
theorem qAF{p:Prop}(h:p):Hid p:=h
theorem qBT{a b:Bool}(h:a=b):Ending.returned (.bool a)=.returned (.bool b):=by rw[h]
theorem qGR{k:IntKind}{a b:Int}(h:a=b):Ending.returned (.int k a)=.returned (.int k b):=by rw[h]
structure Kp(B:Nat)(T:List TypeId)(w w':World):Prop where
 os:w'.os=w.os
 tape:w'.tape=w.tape
 output:w'.output=w.output
 size:w.heap.size<=w'.heap.size
 block:∀k,k<w.heap.size->(k<B\/∀c t fr,w.heap[k]? = some (.cells c t fr)->t ∉ T)->w'.heap[k]? = w.heap[k]?
theorem Kp.refl(B:Nat)(T:List TypeId)(w:World):Kp B T w w:=⟨rfl,rfl,rfl,Nat.le_refl _,fun _ _ _=>rfl⟩
theorem Kp.trans{B:Nat}{T:List TypeId}{a b c:World}(h:Kp B T a b)(k:Kp B T b c):Kp B T a c:=by
 refine⟨k.os.trans h.os,k.tape.trans h.tape,k.output.trans h.output,Nat.le_trans h.size k.size,fun i hi hc=>?_⟩;have e:=h.block i hi hc;refine(k.block i (Nat.lt_of_lt_of_le hi h.size) ?_).trans e;rcases hc with hc|hc
 ·exact .inl hc
 ·exact .inr fun c t fr he=>hc c t fr (by rw[<-e];exact he)
theorem Kp.mono{B B':Nat}{T T':List TypeId}{a b:World}(h:Kp B T a b)(hB:B'<=B)(hT:∀t,t∈T->t∈T'):Kp B' T' a b :=
 ⟨h.os,h.tape,h.output,h.size,fun i hi hc=>h.block i hi (by
  rcases hc with hc|hc
  ·exact .inl (by omega)
  ·exact .inr fun c t fr he ht=>hc c t fr he (hT t ht))⟩
theorem Kp.drewN{B:Nat}{T:List TypeId}{a w:World}(h:Kp B T a w)(n:Nat):Kp B T a (w.drewN n):=⟨h.os,h.tape,h.output,h.size,h.block⟩
theorem Kp.drew{B:Nat}{T:List TypeId}{a w:World}(h:Kp B T a w):Kp B T a w.drew:=⟨h.os,h.tape,h.output,h.size,h.block⟩
theorem Kp.fromDrewN{B:Nat}{T:List TypeId}{a w:World}{n:Nat}(h:Kp B T (a.drewN n) w):Kp B T a w:=⟨h.os,h.tape,h.output,h.size,h.block⟩
theorem Kp.alloc{B:Nat}{T:List TypeId}{a w:World}(h:Kp B T a w)(o:Obj):Kp B T a (w.alloc o) :=
 h.trans ⟨rfl,rfl,rfl,by simp,fun k hk _=>Below.heap_alloc _ _ _ (by omega)⟩
theorem Kp.setCell{B:Nat}{T:List TypeId}{a w:World}(h:Kp B T a w){p:Addr}{c:Array Value}{t:TypeId}{fr:Nat×Nat}(hp:w.heap[p.block]? = some (.cells c t fr))(ht:t∈T)(hB:B<=p.block)(u:Value):Kp B T a (w.setCell p u):=by
 refine h.trans ⟨rfl,rfl,rfl,by simp[World.setCell],fun k hk hc=>Below.heap_setCell _ _ _ _ ?_⟩;rintro rfl;rcases hc with hc|hc
 ·omega
 ·exact hc _ _ _ hp ht
theorem Kp.grown{B:Nat}{T:List TypeId}{a w w':World}{row:Option Nat}(h:Kp B T a w)(hg:w.grownBy w' row)(hr:∀k,row=some k->B<=k/\∃c t fr,w.heap[k]? = some (.cells c t fr)/\t∈T):Kp B T a w':=by
 refine h.trans ⟨hg.os,hg.tape,hg.output,hg.size,fun k hk hc=>hg.block k hk fun e=>?_⟩;obtain⟨h1,c,t,fr,h2,h3⟩:=hr k e.symm;rcases hc with hc|hc
 ·omega
 ·exact hc _ _ _ h2 h3
theorem Kp.at{B:Nat}{T:List TypeId}{w w':World}(h:Kp B T w w'){k:Nat}{c:Array Value}{t:TypeId}{fr:Nat×Nat}(hk:w.heap[k]? = some (.cells c t fr))(ht:t ∉ T):w'.heap[k]? = some (.cells c t fr):=by
 rw[h.block k (lt_of_block hk) (.inr fun c' t' fr' he=>?_)]
 ·exact hk
 ·rw[hk]at he;simp only[Option.some.injEq,Obj.cells.injEq]at he;obtain⟨_,rfl,_⟩:=he;exact ht
theorem Kp.low{B:Nat}{T:List TypeId}{w w':World}(h:Kp B T w w'){k:Nat}(hk:k<w.heap.size)(hB:k<B):w'.heap[k]? = w.heap[k]?:=h.block k hk (.inl hB)
theorem Kp.below{B:Nat}{T:List TypeId}{w w':World}(h:Kp B T w w')(hB:B<=w.heap.size):Below B w w':=⟨h.os,h.tape,h.output,h.size,fun k hk=>h.block k (by omega) (.inl hk)⟩
theorem Kp.owns{B:Nat}{T:List TypeId}{w w':World}(h:Kp B T w w'){base:Nat}{e:TypeId}{size:Nat}{v:Value}{n:Nat}{xs:List Value}(ho:w.ownsRow base e size v n xs)(ht:e ∉ T):w'.ownsRow base e size v n xs:=by
 obtain⟨h1,h2⟩:=ho;refine⟨h1,?_⟩;rcases h2 with h2|⟨g,cap,cur,hv,hg,hh,r⟩
 ·exact .inl h2
 ·exact .inr ⟨g,cap,cur,hv,hg,h.at hh ht,r⟩
theorem qAJ{w:World}{b:Nat}{x y:Value}{t:TypeId}(h:w.heap[b]? = some (.cells #[x,y] t (0,0))):w.cell? ⟨b,0,none⟩=some x:=by simp[World.cell?,h]
theorem qAS{w:World}{b:Nat}{x y:Value}{t:TypeId}(h:w.heap[b]? = some (.cells #[x,y] t (0,0))):w.cell? ⟨b,1,none⟩=some y:=by simp[World.cell?,h]
theorem qAd{w:World}{b o:Nat}{c:Array Value}{t:TypeId}(h:w.heap[b]? = some (.cells c t (0,0))):w.frozen? ⟨b,o,none⟩=false:=by simp[World.frozen?,h]
theorem qKY{w:World}{b:Nat}{x y u:Value}{t:TypeId}(h:w.heap[b]? = some (.cells #[x,y] t (0,0))):(w.setCell ⟨b,1,none⟩ u).heap[b]? = some (.cells #[x,u] t (0,0)):=by
 simp[World.setCell,Array.getElem?_modify,h]
theorem qAE(w:World)(o:Obj):(w.alloc o).heap[w.heap.size]? = some o:=by
 show(w.heap.push o)[w.heap.size]? = _;simp
theorem qAG{w:World}{k:Nat}{x:Obj}(h:w.heap[k]? = some x)(o:Obj):(w.alloc o).heap[k]? = some x:=by
 rw[Below.heap_alloc _ _ _ (lt_of_block h)];exact h
theorem qFW{w:World}{j k:Nat}{c d:Array Value}{t u:TypeId}{f g:Nat×Nat}(h:w.heap[j]? = some (.cells c t f))(h':w.heap[k]? = some (.cells d u g))(ht:t≠u):j≠k:=by
 rintro rfl;rw[h]at h';simp only[Option.some.injEq,Obj.cells.injEq]at h';exact ht h'.2.1
theorem qAH{w:World}{a:Addr}{k:Nat}{x:Obj}(h:w.heap[k]? = some x)(hne:k≠a.block)(u:Value):(w.setCell a u).heap[k]? = some x:=by
 rw[Below.heap_setCell _ _ _ _ hne];exact h
theorem qAm{w:World}{n:Nat}(o:Obj)(hn:n=w.heap.size):(w.alloc o).heap[n]? = some o:=by rw[hn];exact qAE w o
theorem qAZ{w:World}{b o:Nat}{c:Array Value}{t:TypeId}{fr:Nat×Nat}(h:w.heap[b]? = some (.cells c t fr))(u:Value):(w.setCell ⟨b,o,none⟩ u).heap[b]? = some (.cells (c.setIfInBounds o u) t fr):=by
 simp[World.setCell,Array.getElem?_modify,h]
theorem Kp.setNew{B:Nat}{T:List TypeId}{a w:World}(h:Kp B T a w){p:Addr}(hp:a.heap.size<=p.block)(u:Value):Kp B T a (w.setCell p u) :=
 ⟨h.os,h.tape,h.output,by simpa [World.setCell]using h.size,fun k hk hc=>by rw[Below.heap_setCell _ _ _ _ (by omega)];exact h.block k hk hc⟩
theorem Kp.setAny{w:World}{p:Addr}{c:Array Value}{t:TypeId}{fr:Nat×Nat}(hp:w.heap[p.block]? = some (.cells c t fr))(u:Value):Kp 0 [t] w (w.setCell p u) :=
 (Kp.refl 0 [t] w).setCell hp (by simp) (Nat.zero_le _) u
theorem qSZ{w:World}{a:Addr}{u v:Value}(h:w.cell? a=some u):(w.setCell a v).cell? a=some v:=by
 exact World.cell?_setCell_same _ _ _ h
theorem qMC{w:World}{a b:Addr}{v:Value}(h:a≠b):(w.setCell a v).cell? b=w.cell? b:=by
 exact World.cell?_setCell_other _ _ _ _ h
def qCK(b:Int):Bool:=b==9||b==10||(decide (32<=b)&&decide (b<=126))
def qAV(b:Int):Bool:=b==32||b==9||b==10
def qBY(b:Int):Bool:=(decide (97<=b)&&decide (b<=122))||(decide (65<=b)&&decide (b<=90))
def qCE(b:Int):Bool:=decide (48<=b)&&decide (b<=57)
def qBP(b:Int):Bool:=qBY b||qCE b||b==45
def qE0(b:Int):Int:=if 65<=b/\b<=90 then b+32 else b
theorem qJ2(b:Int)(w:World) :
  Calls prog 187 #[.int .u8 b] w fun e w'=>e=.returned (.bool (qCK b))/\w'=w:=by
 go_enter func187,ntmps187
 go_wp2
 all_goals (go_ret;exact⟨qBT (by simp[qCK, *]<;>omega),rfl⟩)
theorem qMW(b:Int)(w:World) :
  Calls prog 172 #[.int .u8 b] w fun e w'=>e=.returned (.bool (qAV b))/\w'=w:=by
 go_enter func172,ntmps172
 go_wp2
 all_goals (go_ret;exact⟨qBT (by simp[qAV];try omega),rfl⟩)
theorem qGn(b:Int)(w:World) :
  Calls prog 243 #[.int .u8 b] w fun e w'=>e=.returned (.bool (qBY b))/\w'=w:=by
 go_enter func243,ntmps243
 go_wp2
 all_goals (go_ret;exact⟨qBT (by simp[qBY, *];try omega),rfl⟩)
theorem qH0(b:Int)(w:World) :
  Calls prog 244 #[.int .u8 b] w fun e w'=>e=.returned (.bool (qCE b))/\w'=w:=by
 go_enter func244,ntmps244
 go_wp2
 all_goals (go_ret;exact⟨qBT (by simp[qCE, *];try omega),rfl⟩)
theorem qI5(b:Int)(w:World) :
  Calls prog 220 #[.int .u8 b] w fun e w'=>e=.returned (.bool (qBP b))/\w'=w:=by
 go_enter func220,ntmps220
 go_wp2_with (first|(go_at_call 243;refine(qGn _ _).mono ?_;rintro e w' ⟨rfl,rfl⟩)|(go_at_call 244;refine(qH0 _ _).mono ?_;rintro e w' ⟨rfl,rfl⟩))
 all_goals (go_ret;exact⟨qBT (by simp[qBP, *]),rfl⟩)
theorem qGm(b:Int)(w:World)(v:Bool)(h:qCK b=v) :
  Calls prog 187 #[.int .u8 b] w fun e w'=>e=.returned (.bool v)/\w'=w:=by
 subst h;exact qJ2 b w
theorem qI6(b:Int)(w:World)(v:Bool)(h:qAV b=v) :
  Calls prog 172 #[.int .u8 b] w fun e w'=>e=.returned (.bool v)/\w'=w:=by
 subst h;exact qMW b w
theorem qDh(b:Int)(w:World)(v:Bool)(h:qBY b=v) :
  Calls prog 243 #[.int .u8 b] w fun e w'=>e=.returned (.bool v)/\w'=w:=by
 subst h;exact qGn b w
theorem qDU(b:Int)(w:World)(v:Bool)(h:qBP b=v) :
  Calls prog 220 #[.int .u8 b] w fun e w'=>e=.returned (.bool v)/\w'=w:=by
 subst h;exact qI5 b w
theorem qDq(b:Int)(w:World) :
  Calls prog 87 #[.int .u8 b] w fun e w'=>e=.returned (.int .u8 (qE0 b))/\w'=w:=by
 go_enter func87,ntmps87
 go_wp2
 all_goals (go_ret;exact⟨qGR (by unfold qE0;split<;>omega),rfl⟩)
structure Rd(w:World)(rb:Nat)(s:ByteArray)(p:Nat):Prop where
 blk:w.heap[rb]? = some (.cells #[.string s,.int .i64 p] 210 (0,0))
 le:p<=s.size
 max:s.size<=2000
theorem Rd.drewN{w:World}{rb:Nat}{s:ByteArray}{p:Nat}(h:Rd w rb s p)(n:Nat):Rd (w.drewN n) rb s p:=⟨h.1,h.2,h.3⟩
theorem Rd.text{w:World}{rb:Nat}{s:ByteArray}{p:Nat}(h:Rd w rb s p):w.cell? ⟨rb,0,none⟩=some (.string s):=qAJ h.1
theorem Rd.place{w:World}{rb:Nat}{s:ByteArray}{p:Nat}(h:Rd w rb s p):w.cell? ⟨rb,1,none⟩=some (.int .i64 p):=qAS h.1
theorem Rd.free{w:World}{rb:Nat}{s:ByteArray}{p:Nat}(h:Rd w rb s p):w.frozen? ⟨rb,1,none⟩=false:=qAd h.1
theorem Rd.kept{B:Nat}{T:List TypeId}{w w':World}{rb:Nat}{s:ByteArray}{p:Nat}(h:Rd w rb s p)(k:Kp B T w w')(ht:210 ∉ T):Rd w' rb s p:=⟨k.at h.1 ht,h.2,h.3⟩
theorem Rd.alloc{w:World}{rb:Nat}{s:ByteArray}{p:Nat}(h:Rd w rb s p)(o:Obj):Rd (w.alloc o) rb s p:=⟨qAG h.1 o,h.2,h.3⟩
theorem Rd.moved{w:World}{rb:Nat}{s:ByteArray}{p q:Nat}(h:Rd w rb s p)(hq:q<=s.size){v:Int}(hv:v=(q:Int)):Rd (w.setCell ⟨rb,1,none⟩ (.int .i64 v)) rb s q:=⟨by rw[hv];exact qKY h.1,hq,h.3⟩
theorem qNJ(rb:Nat)(s:ByteArray)(p:Nat)(w:World)(h:Rd w rb s p) :
  Calls prog 94 #[.pointer (some ⟨rb,0,none⟩)] w fun e w'=>e=.returned (.bool ((p:Int)==(s.size:Int)))/\∃n,w'=w.drewN n:=by
 have h1:=h.text;have h2:=h.place;have h4:=h.le;have h5:=h.max;clear h;go_enter func94,ntmps94
 go_wp2
 go_quiet (fail)
 go_wp2
 go_ret
 exact⟨rfl,_,rfl⟩
theorem qFb(rb:Nat)(s:ByteArray)(p:Nat)(w:World)(h:Rd w rb s p)(hp:p=s.size) :
  Calls prog 94 #[.pointer (some ⟨rb,0,none⟩)] w fun e w'=>e=.returned (.bool true)/\∃n,w'=w.drewN n :=
 (qNJ rb s p w h).mono fun e w' ⟨he,hw⟩=>⟨he.trans (qBT (by simp[hp])),hw⟩
theorem qHm(rb:Nat)(s:ByteArray)(p:Nat)(w:World)(h:Rd w rb s p)(hp:p<s.size) :
  Calls prog 94 #[.pointer (some ⟨rb,0,none⟩)] w fun e w'=>e=.returned (.bool false)/\∃n,w'=w.drewN n :=
 (qNJ rb s p w h).mono fun e w' ⟨he,hw⟩=>⟨he.trans (qBT (by simp;omega)),hw⟩
def qE7(s:ByteArray)(p:Nat):Int:=((s.data.toList[p]?.getD 0).toNat:Int)
def qAC(s:ByteArray)(p:Nat):Int:=if p<s.size/\qCK (qE7 s p)=true then qE7 s p else 0
theorem qHd(s:ByteArray)(p:Nat)(h:p<s.size):qE7 s p=(s[p].toNat:Int):=by
 unfold qE7;have h':p<s.data.toList.length:=by simpa using h
 rw[List.getElem?_eq_getElem h'];rfl
theorem qAL(rb:Nat)(s:ByteArray)(p:Nat)(w:World)(h:Rd w rb s p) :
  Calls prog 144 #[.pointer (some ⟨rb,0,none⟩)] w fun e w'=>e=.returned (.int .u8 (qAC s p))/\∃n,w'=w.drewN n:=by
 have h':=h;have h1:=h.text;have h2:=h.place;have h4:=h.le;have h5:=h.max;clear h;by_cases hp:p=s.size
 ·have HP:Hid (p=s.size):=hp;clear hp;go_enter func144,ntmps144
  go_wp2
  go_quiet ((go_at_call 94;exact Calls.quiet_of (qFb rb s p _ (h'.drewN _) HP.out)))
  go_wp2
  go_ret
  exact⟨qGR (by unfold qAC;rw[if_neg (by have:=HP.out;omega)]),_,rfl⟩
 ·have hlt:p<s.size:=by omega
  have hb:=qHd s p hlt;have HB:Hid (qE7 s p=(s[p].toNat:Int)):=hb;clear hb;cases ha:qCK (s[p].toNat:Int)
  ·have HA:=qAF ha;clear ha;go_enter func144,ntmps144
   go_wp2
   go_quiet ((first|(go_at_call 94;exact Calls.quiet_of (qHm rb s p _ (h'.drewN _) hlt))|(go_at_call 187;exact Calls.quiet_of_same (qGm _ _ _ HA.out))))
   go_wp2
   go_ret
   exact⟨qGR (by unfold qAC;rw[HB.out,HA.out,if_neg (by simp)]),_,rfl⟩
  ·have HA:=qAF ha;clear ha;go_enter func144,ntmps144
   go_wp2
   go_quiet ((first|(go_at_call 94;exact Calls.quiet_of (qHm rb s p _ (h'.drewN _) hlt))|(go_at_call 187;exact Calls.quiet_of_same (qGm _ _ _ HA.out))))
   go_wp2
   go_quiet (fail)
   go_wp2
   go_ret
   exact⟨qGR (by unfold qAC;rw[HB.out,HA.out,if_pos (by simp[hlt])]),_,World.drewN_drewN ..⟩
def skipP(s:ByteArray)(p:Nat):Nat:=if qAC s p=0 then p else p+1
def qDm(f:Int->Bool)(s:ByteArray):Nat->Nat->Nat
 |0,p=>p
 |n+1,p=>if f (qAC s p)=true then qDm f s n (p+1)else p
def qBM(f:Int->Bool)(s:ByteArray)(p:Nat):Nat:=qDm f s (s.size-p) p
def qAo(s:ByteArray):List UInt8->Nat->Nat×Bool
 |[],p=>(p,true)
 |c::cs,p=>if (c.toNat:Int)≠0/\qAC s p=(c.toNat:Int)then qAo s cs (p+1)else(p,false)
def qEh(s:ByteArray):List UInt8->Nat->Nat×Bool
 |[],p=>(p,!qBP (qAC s p))
 |c::cs,p=>if qE0 (qAC s p)=(c.toNat:Int)then qEh s cs (skipP s p)else(p,false)
theorem qKw(s:ByteArray)(p:Nat):0<=qE7 s p:=Int.natCast_nonneg _
theorem qSY(s:ByteArray)(p:Nat):qE7 s p<256:=by
 unfold qE7;have:=(s.data.toList[p]?.getD 0).toNat_lt;omega
theorem qKE(s:ByteArray)(p:Nat):0<=qAC s p/\qAC s p<256:=by
 unfold qAC;split
 ·exact⟨qKw s p,qSY s p⟩
 ·omega
theorem qAX{s:ByteArray}{p:Nat}(h:qAC s p≠0):p<s.size:=by
 unfold qAC at h;split at h
 ·rename_i h';exact h'.1
 ·exact absurd rfl h
theorem qFx{f:Int->Bool}{s:ByteArray}{p:Nat}(h0:f 0=false)(h:f (qAC s p)=true):qBM f s p=qBM f s (p+1):=by
 have hp:p<s.size:=qAX (fun e=>by rw[e,h0]at h;cases h);unfold qBM;rw[show s.size-p=(s.size-(p+1))+1 from by omega,qDm,if_pos h]
theorem qCO{f:Int->Bool}{s:ByteArray}{p:Nat}(h:f (qAC s p)=false):qBM f s p=p:=by
 unfold qBM;cases s.size-p with
 |zero=>rfl
 |succ n=>rw[qDm,if_neg (by rw[h];exact Bool.false_ne_true)]
theorem qC5(f:Int->Bool)(h0:f 0=false)(s:ByteArray):∀n p,p<=s.size->p<=qDm f s n p/\qDm f s n p<=s.size/\qDm f s n p<=p+n
 |0,p,h=>⟨Nat.le_refl _,h,by simp[qDm]⟩
 | n + 1, p, h => by
  rw[qDm];split
  ·rename_i hf;have hp:p<s.size:=qAX (fun e=>by rw[e,h0]at hf;cases hf);have:=qC5 f h0 s n (p+1) hp;omega
  ·omega
theorem qBi(s:ByteArray):∀l p,p<=s.size->p<=(qAo s l p).1/\(qAo s l p).1<=s.size
 |[],p,h=>⟨Nat.le_refl _,h⟩
 | c :: cs, p, h => by
  rw[qAo];split
  ·rename_i hf;have hp:p<s.size:=qAX (fun e=>by omega);have:=qBi s cs (p+1) hp;omega
  ·exact⟨Nat.le_refl _,h⟩
theorem qTf{s:ByteArray}{p:Nat}(h:p<=s.size):p<=skipP s p/\skipP s p<=s.size:=by
 unfold skipP;split
 ·omega
 ·rename_i hf;have:=qAX hf;omega
theorem qJz(s:ByteArray):∀l p,p<=s.size->p<=(qEh s l p).1/\(qEh s l p).1<=s.size
 |[],p,h=>⟨Nat.le_refl _,h⟩
 | c :: cs, p, h => by
  rw[qEh];split
  ·have h1:=qTf h;have:=qJz s cs (skipP s p) h1.2;omega
  ·exact⟨Nat.le_refl _,h⟩
def Chain(w:World)(c pl:Int):Nat->Value->Prop
 |0,v=>∃k,v=.iface 128 (.pointer (some ⟨k,0,none⟩))/\w.heap[k]? = some (.cells #[.int .i64 c,.int .i64 pl] 134 (0,0))
 |n+1,v=>∃k t u,v=.iface 166 (.pointer (some ⟨k,0,none⟩))/\w.heap[k]? = some (.cells #[.string t,u] 168 (0,0))/\Chain w c pl n u
theorem Chain.kept{B:Nat}{T:List TypeId}{w w':World}{c pl:Int}(k:Kp B T w w')(h1:134 ∉ T)(h2:168 ∉ T):∀{n:Nat}{v:Value},Chain w c pl n v->Chain w' c pl n v
 |0,_,⟨j,hv,hb⟩=>⟨j,hv,k.at hb h1⟩
 |_+1,_,⟨j,t,u,hv,hb,hc⟩=>⟨j,t,u,hv,k.at hb h2,hc.kept k h1 h2⟩
theorem Chain.alloc{w:World}{c pl:Int}(o:Obj){n:Nat}{v:Value}(h:Chain w c pl n v):Chain (w.alloc o) c pl n v:=h.kept ((Kp.refl 0 [] w).alloc o) (by simp) (by simp)
theorem Chain.drewN{w:World}{c pl:Int}(m:Nat){n:Nat}{v:Value}(h:Chain w c pl n v):Chain (w.drewN m) c pl n v:=h.kept ((Kp.refl 0 [] w).drewN m) (by simp) (by simp)
theorem skip_any(B rb:Nat)(s:ByteArray)(p:Nat)(w:World)(h:Rd w rb s p)(hB:B<=rb) :
  Calls prog 189 #[.pointer (some ⟨rb,0,none⟩)] w fun e w'=>e=.returned (.tuple #[])/\Rd w' rb s (skipP s p)/\Kp B [210] w w':=by
 have h':=h;have h1:=h.text;have h2:=h.place;have h3:=h.free;have h4:=h.le;have h5:=h.max;clear h;by_cases hz:qAC s p=0
 ·have HZ:=qAF hz;have hz':(qAC s p != 0)=false:=by simp[hz]
  clear hz;go_enter func189,ntmps189
  go_wp2_with (go_at_call 144;refine(qAL rb s p _ h').mono ?_;rintro e w' ⟨rfl,nq,rfl⟩)
  go_end0
  refine⟨rfl,?_,(Kp.refl _ _ _).drewN _⟩;unfold skipP;rw[if_pos HZ.out];exact h'.drewN _
 ·have HZ:=qAF hz;have hz':(qAC s p != 0)=true:=by simp[hz]
  have hlt:=qAX hz;clear hz;go_enter func189,ntmps189
  go_wp2_with (go_at_call 144;refine(qAL rb s p _ h').mono ?_;rintro e w' ⟨rfl,nq,rfl⟩)
  go_end0
  refine⟨rfl,?_,((Kp.refl _ _ _).drewN _).setCell (h'.drewN _).blk (by simp) hB _⟩;unfold skipP;rw[if_neg HZ.out];exact(h'.drewN _).moved (by omega) (by simp)
theorem qBm(B rb:Nat)(s:ByteArray)(p:Nat)(b:Int)(w:World)(h:Rd w rb s p)(hb:b=0\/qAC s p≠b) :
  Calls prog 129 #[.pointer (some ⟨rb,0,none⟩),.int .u8 b] w fun e w'=>e=.returned (.bool false)/\Rd w' rb s p/\Kp B [210] w w':=by
 by_cases hz:b=0
 ·have hz':(b==0)=true:=by simp[hz]
  clear hz hb;go_enter func129,ntmps129
  go_wp2
  go_ret
  exact⟨rfl,h,Kp.refl _ _ _⟩
 ·have hz':(b==0)=false:=by simp[hz]
  have hn:(qAC s p != b)=true:=by simp;omega
  clear hb hz;go_enter func129,ntmps129
  go_wp2_with (go_at_call 144;refine(qAL rb s p _ h).mono ?_;rintro e w' ⟨rfl,nq,rfl⟩)
  go_ret
  exact⟨rfl,h.drewN _,(Kp.refl _ _ _).drewN _⟩
theorem qBU(B rb:Nat)(s:ByteArray)(p:Nat)(b:Int)(w:World)(h:Rd w rb s p)(hB:B<=rb)(hz:b≠0)(hb:qAC s p=b) :
  Calls prog 129 #[.pointer (some ⟨rb,0,none⟩),.int .u8 b] w fun e w'=>e=.returned (.bool true)/\Rd w' rb s (p+1)/\Kp B [210] w w':=by
 have hlt:p<s.size:=qAX (by omega);have hz':(b==0)=false:=by simp[hz]
 have hn:(qAC s p != b)=false:=by simp[hb]
 have h':=h;have h1:=h.text;have h2:=h.place;have h3:=h.free;have h4:=h.le;have h5:=h.max;clear hz hb h;go_enter func129,ntmps129
 go_wp2_with (go_at_call 144;refine(qAL rb s p _ h').mono ?_;rintro e w' ⟨rfl,nq,rfl⟩)
 go_ret
 exact⟨rfl,(h'.drewN _).moved (by omega) (by simp),((Kp.refl _ _ _).drewN _).setCell (h'.drewN _).blk (by simp) hB _⟩
theorem qBB(B rb:Nat)(s:ByteArray)(p:Nat)(w:World)(h:Rd w rb s p) :
  Calls prog 95 #[.pointer (some ⟨rb,0,none⟩)] w fun e w'=>∃v,e=.returned v/\Chain w' 2 p 0 v/\Rd w' rb s p/\Kp B [210] w w':=by
 have h2:=h.place;go_enter func95,ntmps95
 go_wp2
 go_ret
 exact⟨_,rfl,⟨_,rfl,qAE _ _⟩,h.alloc _,(Kp.refl _ _ _).alloc _⟩
def placeOf(w:World)(rb:Nat):Nat:=match w.cell? ⟨rb,1,none⟩with|some (.int _ x)=>x.toNat|_=>0
theorem Rd.placeOf{w:World}{rb:Nat}{s:ByteArray}{p:Nat}(h:Rd w rb s p):placeOf w rb=p:=by
 unfold Proofs.YtclpcnignheijaaGreatDoor.placeOf;rw[h.place];simp
theorem qAt(B rb:Nat)(s:ByteArray)(p:Nat)(w:World)(h:Rd w rb s p)(hB:B<=rb) :
  Calls prog 127 #[.pointer (some ⟨rb,0,none⟩)] w fun e w'=>e=.returned (.bool (decide (p<qBM qAV s p)))/\Rd w' rb s (qBM qAV s p)/\Kp B [210] w w':=by
 have h2:=h.place;have h4:=h.le;have h5:=h.max;go_enter func127,ntmps127
 go_wp2
 clear h2;go_loopw [8] (fun _ wr=>∃q:Nat,Rd wr rb s q/\Hid (qBM qAV s q=qBM qAV s p)/\Kp B [210] w wr) (fun _ wr=>s.size-placeOf wr rb)
 case atStart=>exact⟨p,h,rfl,Kp.refl _ _ _⟩
 case round =>
  obtain⟨q,hr,HQ,hk⟩:=hrel;have g2:=hr.place;have g3:=hr.free;have g4:=hr.le;cases hs:qAV (qAC s q)
  ·have HS:=qAF hs;clear hs;go_wp2_with (first|(go_at_call 144;refine(qAL rb s q _ hr).mono ?_;rintro e w' ⟨rfl,nq,rfl⟩)|(go_at_call 172;refine(qI6 _ _ _ HS.out).mono ?_;rintro e w' ⟨rfl,rfl⟩))
   go_ret
   have e:qBM qAV s p=q:=HQ.out.symm.trans (qCO HS.out);exact⟨qBT (by rw[e]),by rw[e];exact hr.drewN _,hk.drewN _⟩
  ·have HS:=qAF hs;have hlt:q<s.size:=qAX (fun e=>by rw[e]at hs;revert hs;decide);clear hs;go_wp2_with (first|(go_at_call 144;refine(qAL rb s q _ hr).mono ?_;rintro e w' ⟨rfl,nq,rfl⟩)|(go_at_call 172;refine(qI6 _ _ _ HS.out).mono ?_;rintro e w' ⟨rfl,rfl⟩))
   go_roundw
   case rel=>exact⟨q+1,(hr.drewN _).moved (by omega) (by simp),qAF ((qFx (by decide) HS.out).symm.trans HQ.out),(hk.drewN _).setCell (hr.drewN _).blk (by simp) hB _⟩
   case measure=>rw[((hr.drewN _).moved (q:=q+1) (by omega) (by simp)).placeOf,hr.placeOf];omega
theorem qFc{t:ByteArray}{k:Nat}(h:k<t.size):t.data.toList.drop k=t[k]::t.data.toList.drop (k+1):=by
 have h':k<t.data.toList.length:=by simpa using h
 rw[List.drop_eq_getElem_cons h'];rfl
theorem qNK{t:ByteArray}{k:Nat}(h:¬k<t.size):t.data.toList.drop k=[]:=by
 rw[List.drop_eq_nil_iff];simp;omega
theorem qAw(B rb:Nat)(s t:ByteArray)(p:Nat)(w:World)(h:Rd w rb s p)(hB:B<=rb)(ht:t.size<=2000) :
  Calls prog 188 #[.pointer (some ⟨rb,0,none⟩),.string t] w fun e w'=>∃v,e=.returned v/\Rd w' rb s (qAo s t.data.toList p).1/\Kp B [210] w w' /\
   (((qAo s t.data.toList p).2=true/\v=.nilIface)\/((qAo s t.data.toList p).2=false/\Chain w' 2 (qAo s t.data.toList p).1 0 v)):=by
 have h4:=h.le;have h5:=h.max;go_enter func188,ntmps188
 go_wp2
 go_loopw [8] (fun i wr=>∃k q:Nat,i=.int .i64 k/\k<=t.size/\Rd wr rb s q/\Hid (qAo s (t.data.toList.drop k) q=qAo s t.data.toList p)/\Kp B [210] w wr) (fun i _=>t.size-(intOf i).toNat)
 case atStart=>exact⟨0,p,rfl,Nat.zero_le _,h,rfl,Kp.refl _ _ _⟩
 case round =>
  obtain⟨k,q,rfl,hkt,hr,HQ,hk⟩:=hrel;by_cases hlt:k<t.size
  ·have hc:=qFc hlt;by_cases hy:(t[k].toNat:Int)≠0/\qAC s q=(t[k].toNat:Int)
   ·obtain⟨y1,y2⟩:=hy;have HC:=qAF hc;have Y1:=qAF y1;have Y2:=qAF y2;clear hc y1 y2;go_wp2_with (go_at_call 129;refine(qBU B rb s q _ _ hr hB Y1.out Y2.out).mono ?_;rintro e w' ⟨rfl,hr',hk'⟩)
    have hk2:=hk.trans ‹Kp B [210] wr _›;go_roundw
    case rel =>
     refine⟨k+1,q+1,by go_num,by omega,‹Rd _ rb s (q+1)›,qAF ?_,hk2⟩;rw[<-HQ.out,HC.out,qAo,if_pos ⟨Y1.out,Y2.out⟩]
    case measure=>simp[intOf];omega
   ·have HC:=qAF hc;have HY:=qAF hy;clear hc hy;have e:qAo s t.data.toList p=(q,false):=by rw[<-HQ.out,HC.out,qAo,if_neg HY.out]
    have HE:=qAF e;clear e;go_wp2_with (first|(go_at_call 129;refine(qBm B rb s q _ _ hr (by have:=HY.out;omega)).mono ?_;rintro e w' ⟨rfl,hr',hk'⟩)|(go_at_call 95;refine(qBB B rb s q _ (by assumption)).mono ?_;rintro e w' ⟨v,rfl,hc,hr'',hk''⟩))
    go_ret
    rw[HE.out];exact⟨_,rfl,‹Rd _ rb s q›,(hk.trans hk').trans hk'',.inr ⟨rfl,hc⟩⟩
  ·have e:qAo s t.data.toList p=(q,true):=by rw[<-HQ.out,qNK hlt,qAo]
   have HE:=qAF e;clear e;go_wp2
   go_ret
   rw[HE.out];exact⟨_,rfl,hr,hk,.inl ⟨rfl,rfl⟩⟩
theorem Kp.ofBelow{B:Nat}{T:List TypeId}{w w':World}(h:Below w.heap.size w w'):Kp B T w w':=⟨h.os,h.tape,h.output,h.size,fun k hk _=>h.block k hk⟩
def qCS(b:UInt8):UInt8:=if 65<=b.toNat/\b.toNat<=90 then b+32 else b
def qBV(l:List UInt8):List UInt8:=l.map qCS
theorem qPV(b:UInt8):qE0 (b.toNat:Int)=((qCS b).toNat:Int):=by
 unfold qE0 qCS;by_cases h:65<=b.toNat/\b.toNat<=90
 ·rw[if_pos (by omega),if_pos h,UInt8.toNat_add];have:(32:UInt8).toNat=32:=rfl;omega
 ·rw[if_neg (by omega),if_neg h]
theorem qJZ(b o j:Nat):(⟨b,o,none⟩:Addr).add j=⟨b,o+j,none⟩:=by unfold Addr.add;split<;>simp_all
def part(l:List UInt8)(k:Nat):List UInt8:=(l.take k).map qCS++l.drop k
theorem qU2{l:List UInt8}{k:Nat}(h:k<l.length):(part l k)[k]?.getD 0=l[k]?.getD 0:=by
 unfold part;rw[List.getElem?_append_right (by simp;omega)];simp[Nat.min_eq_left (Nat.le_of_lt h)]
theorem qRE{l:List UInt8}{k:Nat}(h:k<l.length)(j:Nat):(part l (k+1))[j]?.getD 0=if j=k then qCS (l[k]?.getD 0)else(part l k)[j]?.getD 0:=by
 unfold part;have h1:(l.take (k+1)).map qCS=(l.take k).map qCS++[qCS (l[k]?.getD 0)]:=by
  rw[List.take_succ_eq_append_getElem h,List.map_append,List.getElem?_eq_getElem h];rfl
 have h2:l.drop k=l[k]::l.drop (k+1):=List.drop_eq_getElem_cons h;rw[h1,h2,List.append_assoc,List.singleton_append];have hl:((l.take k).map qCS).length=k:=by simp;omega
 by_cases hj:j<k
 ·rw[List.getElem?_append_left (by omega),List.getElem?_append_left (by omega),if_neg (by omega)]
 ·rw[List.getElem?_append_right (by omega),List.getElem?_append_right (by omega),hl];by_cases e:j=k
  ·subst e;simp
  ·rw[if_neg e];obtain⟨m,hm⟩:∃m,j-k=m+1:=⟨j-k-1,by omega⟩;rw[hm];rfl
theorem qTD(l:List UInt8):part l l.length=qBV l:=by unfold part qBV;simp
theorem qJk{wx:World}{b cap:Nat}{s:ByteArray}{e:TypeId}(hx:wx.heap[b]? = some (.cells (bytesRow s cap) e ((bytesRow s cap).size,(bytesRow s cap).size+1))){j:Nat}(hj:j<s.size) :
  wx.cell? ⟨b,j,none⟩=some (.int .u8 ((s.data.toList[j]?.getD 0).toNat:Int))/\wx.frozen? ⟨b,j,none⟩=false:=by
 have hj':j<s.data.size:=hj;have hz:(bytesRow s cap).size=s.data.size+(cap-s.size):=by simp[bytesRow]
 refine⟨?_,?_⟩
 ·simp only[World.cell?,hx];have:(bytesRow s cap)[j]? = some (.int .u8 (s.data[j].toNat:Int)):=by
   unfold bytesRow;rw[Array.getElem?_append_left (by simpa using hj')];rw[Array.getElem?_map,Array.getElem?_eq_getElem hj'];rfl
  rw[this];have e:s.data.toList[j]? = some s.data[j]:=by rw[Array.getElem?_toList];exact Array.getElem?_eq_getElem hj'
  rw[e];rfl
 ·simp only[World.frozen?,hx];simp;omega
theorem qIQ(t:ByteArray)(w:World)(ht:t.size<=140737488351232) :
  Calls prog 56 #[.string t] w fun e w'=>e=.returned (.string ⟨(qBV t.data.toList).toArray⟩)/\Below w.heap.size w w':=by
 have hcv:=fun w s=>run_bytes_of_string (P:=prog) w 9 50 5 s underlying9 underlying50 underlying5;go_enter func56,ntmps56
 go_wp2
 clear hcv;go_loopw [10] (fun i wr=>∃k:Nat,i=.int .i64 k/\k<=t.size/\Below w.heap.size w wr/\w.heap.size<wr.heap.size /\
   (∀j,j<t.size->wr.cell? ⟨w.heap.size,j,none⟩=some (.int .u8 (((part t.data.toList k)[j]?.getD 0).toNat:Int))/\wr.frozen? ⟨w.heap.size,j,none⟩=false)) (fun i _=>t.size-(intOf i).toNat)
 case atStart =>
  refine⟨0,rfl,Nat.zero_le _,?_,by simp,fun j hj=>?_⟩
  ·exact((Below.refl _ _).alloc (Nat.le_refl _) _).drew
  ·exact qJk (qAE _ _) hj
 case round =>
  obtain⟨k,rfl,hkt,hbl,hsz,hcells⟩:=hrel;by_cases hlt:k<t.size
  ·have hc:=(hcells k hlt).1;have hf:=(hcells k hlt).2;have hl:k<t.data.toList.length:=by simpa using hlt
   rw[qU2 hl]at hc;have HC:=qAF hcells;clear hcells;go_wp2_with (go_at_call 87;refine(qDq _ _).mono ?_;rintro e w' ⟨rfl,rfl⟩)
   go_roundw
   case rel =>
    refine⟨k+1,by go_num,by omega,hbl.setCell (Nat.le_refl _) _,by simp[World.setCell];exact hsz,fun j hj=>?_⟩;obtain⟨c1,c2⟩:=HC.out j hj;rw[qRE hl];by_cases e:j=k
    ·subst e;rw[if_pos rfl];refine⟨?_,by simpa using c2⟩;rw[qSZ c1,<-qPV];simp only[List.getElem?_eq_getElem hl,Option.getD_some];rfl
    ·rw[if_neg e];refine⟨?_,by simpa using c2⟩;rw[qMC (by intro h;injection h with _ h2 _;exact e h2.symm)];exact c1
   case measure=>simp[intOf];omega
  ·have e:k=t.size:=by omega
   subst e;have hl:t.data.toList.length=t.size:=by simp
   have hcv:=run_convert_bytes_back (P:=prog) wr 50 9 5 ⟨w.heap.size,0,none⟩ (grownCap w t.size 0 5) (qBV t.data.toList) underlying50 underlying5 underlying9 (fun j hj=>by
    have hj':j<t.size:=by simpa [qBV]using hj
    have:=(hcells j hj').1;rw[<-hl,qTD,List.getElem?_eq_getElem hj]at this;rw[qJZ,Nat.zero_add];simpa using this)
   rw[show(qBV t.data.toList).length=t.size from by simp[qBV]]at hcv;clear hcells;go_wp2
   go_ret
   exact⟨rfl,hbl⟩
theorem qId(B rb:Nat)(s t:ByteArray)(p:Nat)(w:World)(h:Rd w rb s p)(hB:B<=rb)(ht:t.size<=2000) :
  Calls prog 190 #[.pointer (some ⟨rb,0,none⟩),.string t] w fun e w'=>∃v,e=.returned v/\Rd w' rb s (qEh s t.data.toList p).1/\Kp B [210] w w' /\
   (((qEh s t.data.toList p).2=true/\v=.nilIface)\/((qEh s t.data.toList p).2=false/\Chain w' 2 (qEh s t.data.toList p).1 0 v)):=by
 have h4:=h.le;have h5:=h.max;go_enter func190,ntmps190
 go_wp2
 go_loopw [8] (fun i wr=>∃k q:Nat,i=.int .i64 k/\k<=t.size/\Rd wr rb s q/\Hid (qEh s (t.data.toList.drop k) q=qEh s t.data.toList p)/\Kp B [210] w wr) (fun i _=>t.size-(intOf i).toNat)
 case atStart=>exact⟨0,p,rfl,Nat.zero_le _,h,rfl,Kp.refl _ _ _⟩
 case round =>
  obtain⟨k,q,rfl,hkt,hr,HQ,hk⟩:=hrel;by_cases hlt:k<t.size
  ·have hc:=qFc hlt;by_cases hy:qE0 (qAC s q)=(t[k].toNat:Int)
   ·have hn:(qE0 (qAC s q) != (t[k].toNat:Int))=false:=by simp[hy]
    have HC:=qAF hc;have HY:=qAF hy;clear hc hy;go_wp2
    go_quiet ((first|(go_at_call 144;exact Calls.quiet_of (qAL rb s q _ (hr.drewN _)))|(go_at_call 87;exact Calls.quiet_of_same (qDq _ _))))
    go_wp2_with (go_at_call 189;refine(skip_any B rb s q _ (hr.drewN _) hB).mono ?_;rintro e w' ⟨rfl,hr',hk'⟩)
    have hk2:=hk.trans hk'.fromDrewN;go_roundw
    case rel =>
     refine⟨k+1,skipP s q,by go_num,by omega,hr',qAF ?_,hk2⟩;rw[<-HQ.out,HC.out,qEh,if_pos HY.out]
    case measure=>simp[intOf];omega
   ·have hn:(qE0 (qAC s q) != (t[k].toNat:Int))=true:=by simp[hy]
    have HC:=qAF hc;have HY:=qAF hy;clear hc hy;have e:qEh s t.data.toList p=(q,false):=by rw[<-HQ.out,HC.out,qEh,if_neg HY.out]
    have HE:=qAF e;clear e;go_wp2
    go_quiet ((first|(go_at_call 144;exact Calls.quiet_of (qAL rb s q _ (hr.drewN _)))|(go_at_call 87;exact Calls.quiet_of_same (qDq _ _))))
    go_wp2_with (go_at_call 95;refine(qBB B rb s q _ (hr.drewN _)).mono ?_;rintro e w' ⟨v,rfl,hc,hr'',hk''⟩)
    go_ret
    rw[HE.out];exact⟨_,rfl,hr'',hk.trans hk''.fromDrewN,.inr ⟨rfl,hc⟩⟩
  ·have e:qEh s t.data.toList p=(q,!qBP (qAC s q)):=by rw[<-HQ.out,qNK hlt,qEh]
   have HE:=qAF e;clear e;cases hn:qBP (qAC s q)
   ·have HN:=qAF hn;clear hn;go_wp2_with (first|(go_at_call 144;refine(qAL rb s q _ hr).mono ?_;rintro e w' ⟨rfl,nq,rfl⟩)|(go_at_call 220;refine(qDU _ _ _ HN.out).mono ?_;rintro e w' ⟨rfl,rfl⟩))
    go_ret
    rw[HE.out,HN.out];exact⟨_,rfl,hr.drewN _,hk.drewN _,.inl ⟨rfl,rfl⟩⟩
   ·have HN:=qAF hn;clear hn;go_wp2_with (first|(go_at_call 144;refine(qAL rb s q _ hr).mono ?_;rintro e w' ⟨rfl,nq,rfl⟩)|(go_at_call 220;refine(qDU _ _ _ HN.out).mono ?_;rintro e w' ⟨rfl,rfl⟩)|(go_at_call 95;refine(qBB B rb s q _ (hr.drewN _)).mono ?_;rintro e w' ⟨v,rfl,hc,hr'',hk''⟩))
    go_ret
    rw[HE.out,HN.out];exact⟨_,rfl,hr'',hk.trans hk''.fromDrewN,.inr ⟨rfl,hc⟩⟩
def attrCells:List (ByteArray×ByteArray)->List Value
 |[]=>[]
 |x::r=>.string x.1::.string x.2::attrCells r
theorem qDC:∀(l:List (ByteArray×ByteArray))(k:Nat)(x:ByteArray×ByteArray),l[k]? = some x->(attrCells l)[k*2]? = some (.string x.1)/\(attrCells l)[k*2+1]? = some (.string x.2)
 |[],k,x,h=>by simp at h
 |y::r,0,x,h=>by simp at h;subst h;exact⟨rfl,rfl⟩
 |y::r,k+1,x,h=>by
  have:=qDC r k x (by simpa using h);rw[show(k+1)*2=k*2+2 from by omega];exact this
def hasN(l:List (ByteArray×ByteArray))(n:ByteArray):Bool:=l.any fun x=>x.1.toList==n.toList
theorem qMT(B g cap:Nat)(l:List (ByteArray×ByteArray))(n:ByteArray)(w:World)(ho:w.ownsRow B 169 2 (.slice (some ⟨g,0,none⟩) l.length cap) l.length (attrCells l))(hl:l.length<=2000) :
  Calls prog 263 #[.slice (some ⟨g,0,none⟩) l.length cap,.string n] w fun e w'=>e=.returned (.bool (hasN l n))/\Below w.heap.size w w':=by
 go_enter func263,ntmps263
 go_wp2
 go_loopw [9] (fun i wr=>∃k:Nat,i=.int .i64 k/\k<=l.length/\Below w.heap.size w wr/\Hid (hasN l n=hasN (l.drop k) n)) (fun i _=>l.length-(intOf i).toNat)
 case atStart=>exact⟨0,rfl,Nat.zero_le _,Below.refl _ _,rfl⟩
 case round =>
  obtain⟨k,rfl,hkl,hbl,HQ⟩:=hrel;by_cases hlt:k<l.length
  ·obtain⟨x,hx⟩:∃x,l[k]? = some x:=⟨l[k],List.getElem?_eq_getElem hlt⟩;obtain⟨a1,a2⟩:=qDC l k x hx;have hg:g<w.heap.size:=(ho.lt g rfl).2;have c1:wr.cell? ⟨g,k*2,none⟩=some (.string x.1):=by rw[hbl.cell (p:=⟨g,k*2,none⟩) hg,ho.cellAt _ (by omega),a1]
   have c2:wr.cell? ⟨g,k*2+1,none⟩=some (.string x.2):=by rw[hbl.cell (p:=⟨g,k*2+1,none⟩) hg,ho.cellAt _ (by omega),a2]
   clear a1 a2;have HX:=qAF hx;clear hx;go_wp2
   ·go_ret
    have e:(x.1.toList==n.toList)=true:=by assumption
    refine⟨qBT ?_,hbl.alloc hbl.size _⟩;rw[HQ.out,List.drop_eq_getElem_cons hlt];have e2:l[k]=x:=by have:=HX.out;rw[List.getElem?_eq_getElem hlt]at this;exact Option.some.inj this
    simp[hasN,e2,e]
   ·have e:(x.1.toList==n.toList)=false:=by assumption
    go_roundw
    case rel =>
     refine⟨k+1,by go_num,by omega,hbl.alloc hbl.size _,qAF ?_⟩;rw[HQ.out,List.drop_eq_getElem_cons hlt];have e2:l[k]=x:=by have:=HX.out;rw[List.getElem?_eq_getElem hlt]at this;exact Option.some.inj this
     simp[hasN,e2,e]
    case measure=>simp[intOf];omega
  ·go_wp2
   go_ret
   refine⟨qBT ?_,hbl⟩;rw[HQ.out,List.drop_eq_nil_of_le (by omega)];rfl
theorem qMU(n:ByteArray)(w:World) :
  Calls prog 263 #[.slice none 0 0,.string n] w fun e w'=>e=.returned (.bool false)/\Below w.heap.size w w':=by
 go_enter func263,ntmps263
 go_wp2
 refine wp_loop_rounds 1 ?_;rw[rounds_succ];go_wp2
 go_ret
 exact⟨rfl,Below.refl _ _⟩
theorem qMV(B:Nat)(l:List (ByteArray×ByteArray))(v:Value)(n:ByteArray)(w:World)(ho:w.ownsRow B 169 2 v l.length (attrCells l))(hl:l.length<=2000) :
  Calls prog 263 #[v,.string n] w fun e w'=>e=.returned (.bool (hasN l n))/\Below w.heap.size w w':=by
 rcases ho.2 with⟨hv,h0⟩|⟨g,cap,cur,hv,_⟩
 ·have:l=[]:=List.eq_nil_of_length_eq_zero h0;subst this;subst hv;exact qMU n w
 ·subst hv;exact qMT B g cap l n w ho hl
theorem qMD(B cb:Nat)(l:List (ByteArray×ByteArray))(v:Value)(n:ByteArray)(w:World)(hb:w.heap[cb]? = some (.cells #[v] 137 (0,0)))(ho:w.ownsRow B 169 2 v l.length (attrCells l))(hl:l.length<=2000) :
  Calls prog 262 #[.string n,.pointer (some ⟨cb,0,none⟩)] w fun e w'=>e=.returned (.bool (hasN l n))/\Below w.heap.size w w':=by
 have c0:=cell_of_one hb;go_enter func262,ntmps262
 go_wp2_with (go_at_call 263;refine(qMV B l v n _ ho hl).mono ?_;rintro e w' ⟨rfl,hbl⟩)
 go_ret
 exact⟨rfl,hbl⟩
theorem qD3(B cb:Nat)(l:List (ByteArray×ByteArray))(v:Value)(n:ByteArray)(w:World)(b:Bool)(hb:w.heap[cb]? = some (.cells #[v] 137 (0,0)))(ho:w.ownsRow B 169 2 v l.length (attrCells l))(hl:l.length<=2000)(h:hasN l n=b) :
  Calls prog 262 #[.string n,.pointer (some ⟨cb,0,none⟩)] w fun e w'=>e=.returned (.bool b)/\Below w.heap.size w w':=by
 subst h;exact qMD B cb l v n w hb ho hl
theorem qOb(n:ByteArray)(w:World) :
  Calls prog 222 #[.string n] w fun e w'=>e=.returned (.bool false)/\Below w.heap.size w w':=by
 go_enter func222,ntmps222
 go_wp2
 go_ret
 exact⟨rfl,Below.refl _ _⟩
def qAy(s:ByteArray)(p:Nat):Nat:=qDm qBP s 16 p
def qCF(s:ByteArray)(p:Nat):ByteArray:=⟨(qBV ((s.data.toList.drop p).take (qAy s p-p))).toArray⟩
def qBQ(s:ByteArray)(p:Nat)(taken:ByteArray->Bool):Nat×Option ByteArray :=
 if qBY (qAC s p)=false then(p,none)
 else if taken (qCF s p)=true then(if qAy s p-p=16 then qAy s p-1 else qAy s p,none)
 else if qBP (qAC s (qAy s p))=true then(qAy s p,none)
 else(qAy s p,some (qCF s p))
theorem qCW{s:ByteArray}{p:Nat}(h:p<=s.size):p<=qAy s p/\qAy s p<=s.size/\qAy s p<=p+16:=qC5 qBP (by decide) s 16 p h
theorem qCV{s:ByteArray}{p:Nat}(h:p<=s.size):(qCF s p).size=qAy s p-p:=by
 have:=qCW h;show(qBV ((s.data.toList.drop p).take (qAy s p-p))).toArray.size=_;simp[qBV];omega
theorem Rd.belowD{wr wx w':World}{rb N:Nat}{s:ByteArray}{q:Nat}(h:Rd wr rb s q)(hb:Below N wx w')(hx:wx.heap=wr.heap)(hN:N=wr.heap.size):Rd w' rb s q:=by
 refine⟨?_,h.2,h.3⟩;rw[hb.block rb (by rw[hN];exact lt_of_block h.1),hx];exact h.1
theorem Kp.belowD{B:Nat}{T:List TypeId}{w wr wx w':World}{N:Nat}(h:Kp B T w wr)(hb:Below N wx w')(hx:wx.heap=wr.heap)(ho:wx.os=wr.os)(ht:wx.tape=wr.tape)(hp:wx.output=wr.output)(hN:N=wr.heap.size):Kp B T w w' :=
 h.trans ⟨hb.os.trans ho,hb.tape.trans ht,hb.output.trans hp,by rw[<-hx];exact hb.size,fun k hk _=>by rw[hb.block k (by omega),hx]⟩
theorem qEl{f:Int->Bool}{s:ByteArray}{n q:Nat}(h:f (qAC s q)=true):qDm f s (n+1) q=qDm f s n (q+1):=by rw[qDm,if_pos h]
theorem qKH{f:Int->Bool}{s:ByteArray}{n q:Nat}(h:f (qAC s q)=false):qDm f s n q=q:=by
 cases n with
 |zero=>rfl
 |succ n=>rw[qDm,if_neg (by rw[h];exact Bool.false_ne_true)]
theorem qO1{s:ByteArray}{p q:Nat}{taken:ByteArray->Bool}{nm:ByteArray}(hl:qBY (qAC s p)=true)(hn:qCF s p=nm)(hq:qAy s p=q)(ht:taken nm=true):qBQ s p taken=(if q-p=16 then q-1 else q,none):=by
 unfold qBQ;rw[if_neg (by rw[hl];exact Bool.noConfusion),hn,if_pos ht,hq]
theorem qFk{s:ByteArray}{p q:Nat}{taken:ByteArray->Bool}{nm:ByteArray}(hl:qBY (qAC s p)=true)(hn:qCF s p=nm)(hq:qAy s p=q)(ht:taken nm=false):qBQ s p taken=if qBP (qAC s q)=true then(q,none)else(q,some nm):=by
 unfold qBQ;rw[if_neg (by rw[hl];exact Bool.noConfusion),hn,if_neg (by rw[ht];exact Bool.noConfusion),hq]
def qAI:ByteArray->Bool:=fun _=>false
theorem qCX(s:ByteArray)(p:Nat)(taken:ByteArray->Bool)(h:p<=s.size):p<=(qBQ s p taken).1/\(qBQ s p taken).1<=s.size:=by
 have:=qCW h;unfold qBQ;split
 ·exact⟨Nat.le_refl _,h⟩
 ·split
  ·split<;>(constructor<;>dsimp only<;>omega)
  ·split<;>exact⟨this.1,this.2.1⟩
def qBj(b:Int):Bool:=qBP b||b==95
def qCd(s:ByteArray)(p q:Nat):ByteArray:=⟨((s.data.toList.drop p).take (q-p)).toArray⟩
theorem qGX(s:ByteArray)(p q:Nat):s.extract p q=qCd s p q:=by
 apply ByteArray.ext;apply Array.toList_inj.mp;simp[qCd]
theorem qF5(s:ByteArray)(p q:Nat):(qCd s p q).data.toList=(s.data.toList.drop p).take (q-p):=rfl
theorem qEW{s:ByteArray}{p q:Nat}(h:q<=s.size)(hp:p<=q):(qCd s p q).size=q-p:=by
 show((s.data.toList.drop p).take (q-p)).toArray.size=_;simp;omega
theorem qOt(b:Int)(w:World) :
  Calls prog 267 #[.int .u8 b] w fun e w'=>e=.returned (.bool (qBj b))/\w'=w:=by
 go_enter func267,ntmps267
 go_wp2_with (go_at_call 220;refine(qI5 _ _).mono ?_;rintro e w' ⟨rfl,rfl⟩)
 all_goals (go_ret;exact⟨qBT (by simp[qBj, *]),rfl⟩)
theorem qFg(b:Int)(w:World)(v:Bool)(h:qBj b=v) :
  Calls prog 267 #[.int .u8 b] w fun e w'=>e=.returned (.bool v)/\w'=w:=by
 subst h;exact qOt b w
theorem qTN(B rb:Nat)(s:ByteArray)(p:Nat)(w:World)(h:Rd w rb s p)(hB:B<=rb) :
  Calls prog 245 #[.pointer (some ⟨rb,0,none⟩),.func (Fn.func 220) #[] #[]] w fun e w'=>e=.returned (.string (qCd s p (qDm qBP s 16 p)))/\Rd w' rb s (qDm qBP s 16 p)/\Kp B [210] w w':=by
 have h4:=h.le;have h5:=h.max;have h2:=h.place;go_enter func245,ntmps245
 go_wp2
 clear h2;go_loopw [10] (fun _ wr=>∃q:Nat,Rd wr rb s q/\p<=q/\q<=p+16/\Hid (qDm qBP s (16-(q-p)) q=qDm qBP s 16 p)/\Kp B [210] w wr) (fun _ wr=>s.size-placeOf wr rb)
 case atStart=>exact⟨p,h,Nat.le_refl _,by omega,by rw[Nat.sub_self];rfl,Kp.refl _ _ _⟩
 case round =>
  obtain⟨q,hr,hpq,hq16,HQ,hk⟩:=hrel;have g2:=hr.place;have g3:=hr.free;have g4:=hr.le;by_cases hy:qBP (qAC s q)=true/\q<p+16
  ·obtain⟨y1,y2⟩:=hy;have Y1:=qAF y1;have hlt:q<s.size:=qAX (fun e=>by rw[e]at y1;revert y1;decide);clear y1;go_wp2_with (first|(go_at_call 144;refine(qAL rb s q _ hr).mono ?_;rintro e w' ⟨rfl,nq,rfl⟩)|(go_at_call 220;refine(qDU _ _ _ Y1.out).mono ?_;rintro e w' ⟨rfl,rfl⟩))
   go_roundw
   case rel =>
    refine⟨q+1,(hr.drewN _).moved (by omega) (by simp),by omega,by omega,qAF ?_,(hk.drewN _).setCell (hr.drewN _).blk (by simp) hB _⟩;rw[<-HQ.out,show 16-(q-p)=(16-(q+1-p))+1 from by omega,qEl Y1.out]
   case measure=>rw[((hr.drewN _).moved (q:=q+1) (by omega) (by simp)).placeOf,hr.placeOf];omega
  ·have hend:qDm qBP s 16 p=q:=by
    rw[<-HQ.out];cases hn:qBP (qAC s q)
    ·exact qKH hn
    ·rw [show 16 - (q - p) = 0 from by have : ¬ q < p + 16 := fun h => hy ⟨hn, h⟩
                                       omega];rfl
   have HEnd:=qAF hend;have g1:=hr.text;have hor:qBP (qAC s q)=false\/(qBP (qAC s q)=true/\p+16<=q):=by
    cases hn:qBP (qAC s q)
    ·exact .inl rfl
    ·exact .inr ⟨rfl, by have : ¬ q < p + 16 := fun h => hy ⟨hn, h⟩
                         omega⟩
   clear hy hend h;rcases hor with hn|⟨hn,hge⟩
   all_goals
    have HNm:=qAF hn;clear hn;go_wp2_with (first|(go_at_call 144;refine(qAL rb s q _ hr).mono ?_;rintro e w' ⟨rfl,nq,rfl⟩)|(go_at_call 220;refine(qDU _ _ _ HNm.out).mono ?_;rintro e w' ⟨rfl,rfl⟩))
    go_quiet (fail)
    go_wp2
    go_ret
   all_goals (rw[HEnd.out];exact⟨congrArg (fun x=>Ending.returned (.string x)) (qGX s p q),by first|exact hr.drewN _|exact(hr.drewN _).drewN _,by first|exact hk.drewN _|exact(hk.drewN _).drewN _⟩)
theorem qKJ(B rb:Nat)(s:ByteArray)(p:Nat)(w:World)(h:Rd w rb s p)(hB:B<=rb) :
  Calls prog 245 #[.pointer (some ⟨rb,0,none⟩),.func (Fn.func 267) #[] #[]] w fun e w'=>e=.returned (.string (qCd s p (qDm qBj s 16 p)))/\Rd w' rb s (qDm qBj s 16 p)/\Kp B [210] w w':=by
 have h4:=h.le;have h5:=h.max;have h2:=h.place;go_enter func245,ntmps245
 go_wp2
 clear h2;go_loopw [10] (fun _ wr=>∃q:Nat,Rd wr rb s q/\p<=q/\q<=p+16/\Hid (qDm qBj s (16-(q-p)) q=qDm qBj s 16 p)/\Kp B [210] w wr) (fun _ wr=>s.size-placeOf wr rb)
 case atStart=>exact⟨p,h,Nat.le_refl _,by omega,by rw[Nat.sub_self];rfl,Kp.refl _ _ _⟩
 case round =>
  obtain⟨q,hr,hpq,hq16,HQ,hk⟩:=hrel;have g2:=hr.place;have g3:=hr.free;have g4:=hr.le;by_cases hy:qBj (qAC s q)=true/\q<p+16
  ·obtain⟨y1,y2⟩:=hy;have Y1:=qAF y1;have hlt:q<s.size:=qAX (fun e=>by rw[e]at y1;revert y1;decide);clear y1;go_wp2_with (first|(go_at_call 144;refine(qAL rb s q _ hr).mono ?_;rintro e w' ⟨rfl,nq,rfl⟩)|(go_at_call 267;refine(qFg _ _ _ Y1.out).mono ?_;rintro e w' ⟨rfl,rfl⟩))
   go_roundw
   case rel =>
    refine⟨q+1,(hr.drewN _).moved (by omega) (by simp),by omega,by omega,qAF ?_,(hk.drewN _).setCell (hr.drewN _).blk (by simp) hB _⟩;rw[<-HQ.out,show 16-(q-p)=(16-(q+1-p))+1 from by omega,qEl Y1.out]
   case measure=>rw[((hr.drewN _).moved (q:=q+1) (by omega) (by simp)).placeOf,hr.placeOf];omega
  ·have hend:qDm qBj s 16 p=q:=by
    rw[<-HQ.out];cases hn:qBj (qAC s q)
    ·exact qKH hn
    ·rw [show 16 - (q - p) = 0 from by have : ¬ q < p + 16 := fun h => hy ⟨hn, h⟩
                                       omega];rfl
   have HEnd:=qAF hend;have g1:=hr.text;have hor:qBj (qAC s q)=false\/(qBj (qAC s q)=true/\p+16<=q):=by
    cases hn:qBj (qAC s q)
    ·exact .inl rfl
    ·exact .inr ⟨rfl, by have : ¬ q < p + 16 := fun h => hy ⟨hn, h⟩
                         omega⟩
   clear hy hend h;rcases hor with hn|⟨hn,hge⟩
   all_goals
    have HNm:=qAF hn;clear hn;go_wp2_with (first|(go_at_call 144;refine(qAL rb s q _ hr).mono ?_;rintro e w' ⟨rfl,nq,rfl⟩)|(go_at_call 267;refine(qFg _ _ _ HNm.out).mono ?_;rintro e w' ⟨rfl,rfl⟩))
    go_quiet (fail)
    go_wp2
    go_ret
   all_goals (rw[HEnd.out];exact⟨congrArg (fun x=>Ending.returned (.string x)) (qGX s p q),by first|exact hr.drewN _|exact(hr.drewN _).drewN _,by first|exact hk.drewN _|exact(hk.drewN _).drewN _⟩)
theorem qLm(B rb:Nat)(s:ByteArray)(p q:Nat)(w:World)(h:Rd w rb s p)(hB:B<=rb)(hq:qAy s p=q) :
  Calls prog 245 #[.pointer (some ⟨rb,0,none⟩),.func (Fn.func 220) #[] #[]] w fun e w'=>e=.returned (.string (qCd s p q))/\Rd w' rb s q/\Kp B [210] w w':=by
 subst hq;exact qTN B rb s p w h hB
theorem qI8(B rb:Nat)(s:ByteArray)(p:Nat)(w:World)(h:Rd w rb s p)(hB:B<=rb) :
  Calls prog 221 #[.pointer (some ⟨rb,0,none⟩),.func (Fn.func 222) #[] #[]] w fun e w'=>∃n v,e=.returned (.tuple #[.string n,v])/\Rd w' rb s (qBQ s p qAI).1/\Kp B [210] w w' /\
   ((some n=(qBQ s p qAI).2/\v=.nilIface)\/((qBQ s p qAI).2=none/\Chain w' 2 (qBQ s p qAI).1 0 v)):=by
 have h4:=h.le;have h5:=h.max;cases hl:qBY (qAC s p)
 ·have HE:Hid (qBQ s p qAI=(p,none)):=by unfold qBQ;rw[if_pos hl];rfl
  have HL:=qAF hl;clear hl;go_enter func221,ntmps221
  go_wp2_with (first|(go_at_call 144;refine(qAL rb s p _ h).mono ?_;rintro e w' ⟨rfl,nq,rfl⟩)|(go_at_call 243;refine(qDh _ _ _ HL.out).mono ?_;rintro e w' ⟨rfl,rfl⟩)|(go_at_call 95;refine(qBB B rb s p _ (h.drewN _)).mono ?_;rintro e w' ⟨v,rfl,hc,hr'',hk''⟩))
  go_ret2
  rw[HE.out];exact⟨_,_,rfl,hr'',hk''.fromDrewN,.inr ⟨rfl,hc⟩⟩
 ·have HL:=qAF hl;clear hl;obtain⟨q,hq⟩:∃q,qAy s p=q:=⟨_,rfl⟩;have hnl:=qCW h4;have hsz:=qCV h4;rw[hq]at hnl hsz;have HEnd:=qAF hq;have HName:Hid (qCF s p=(⟨(qBV (qCd s p q).data.toList).toArray⟩:ByteArray)):=by unfold qCF;rw[hq];rfl
  rw[HName.out]at hsz;obtain⟨hpq,hqs,hq16⟩:=hnl;have hsb:(qCd s p q).size<=140737488351232:=by rw[qEW hqs hpq];omega
  clear hq;go_enter func221,ntmps221
  go_wp2_with (first|(go_at_call 144;refine(qAL rb s p _ h).mono ?_;rintro e w' ⟨rfl,nq,rfl⟩)|(go_at_call 243;refine(qDh _ _ _ HL.out).mono ?_;rintro e w' ⟨rfl,rfl⟩)|(go_at_call 245;refine(qLm B rb s p q _ (h.drewN _) hB HEnd.out).mono ?_;rintro e wr ⟨rfl,hr,hk0⟩;have hk:=hk0.fromDrewN;clear hk0)|(go_at_call 56;refine(qIQ _ _ hsb).mono ?_;rintro e w' ⟨rfl,hbl⟩))
  have hr2:=hr.belowD hbl rfl rfl;have hk2:=hk.belowD hbl rfl rfl rfl rfl rfl;clear hbl;generalize hnm:({ data:=(qBV (qCd s p q).data.toList).toArray }:ByteArray)=nm at *;clear hnm;have g2:=hr2.place;have g3:=hr2.free;cases hn:qBP (qAC s q)
  all_goals
   have HNm:=qAF hn;clear hn;cases htk:qAI nm
   ·have HT:=qAF htk;clear htk;have HF:Hid (qBQ s p qAI=if qBP (qAC s q)=true then(q,none)else(q,some nm)):=by
     exact qFk HL.out HName.out HEnd.out HT.out
    go_wp2_with (first|(go_at_call 222;refine(qOb _ _).mono ?_;rintro e w3 ⟨rfl,hbl3⟩;have hr3:=hr2.belowD hbl3 rfl rfl;have hk3:=hk2.belowD hbl3 rfl rfl rfl rfl rfl;have g5:=hr3.place;have g6:=hr3.free)|(go_at_call 144;refine(qAL rb s q _ hr3).mono ?_;rintro e w5 ⟨rfl,nq5,rfl⟩)|(go_at_call 220;refine(qDU _ _ _ HNm.out).mono ?_;rintro e w5 ⟨rfl,rfl⟩)|(go_at_call 95;refine(qBB B rb s q _ (hr3.drewN _)).mono ?_;rintro e w4 ⟨v,rfl,hc,hr4,hk4⟩))
    go_ret2
    rw[HF.out,HNm.out]
    first|rw[if_pos rfl]|rw[if_neg Bool.false_ne_true]
    first
     |exact⟨_,_,rfl,hr3.drewN _,hk3.drewN _,.inl ⟨rfl,rfl⟩⟩
     |exact⟨_,_,rfl,hr4,hk3.trans hk4.fromDrewN,.inr ⟨rfl,hc⟩⟩
   ·cases htk
theorem qDi(B rb:Nat)(s:ByteArray)(p:Nat)(cb:Nat)(l:List (ByteArray×ByteArray))(bv:Value)(w:World)(h:Rd w rb s p)(hB:B<=rb)(hcb:w.heap[cb]? = some (.cells #[bv] 137 (0,0)))(ho:w.ownsRow B 169 2 bv l.length (attrCells l))(hll:l.length<=2000) :
  Calls prog 221 #[.pointer (some ⟨rb,0,none⟩),.func (Fn.func 262) #[] #[.pointer (some ⟨cb,0,none⟩)]] w fun e w'=>∃n v,e=.returned (.tuple #[.string n,v])/\Rd w' rb s (qBQ s p (hasN l)).1/\Kp B [210] w w' /\
   ((some n=(qBQ s p (hasN l)).2/\v=.nilIface)\/((qBQ s p (hasN l)).2=none/\Chain w' 2 (qBQ s p (hasN l)).1 0 v)):=by
 have h4:=h.le;have h5:=h.max;cases hl:qBY (qAC s p)
 ·have HE:Hid (qBQ s p (hasN l)=(p,none)):=by unfold qBQ;rw[if_pos hl];rfl
  have HL:=qAF hl;clear hl;go_enter func221,ntmps221
  go_wp2_with (first|(go_at_call 144;refine(qAL rb s p _ h).mono ?_;rintro e w' ⟨rfl,nq,rfl⟩)|(go_at_call 243;refine(qDh _ _ _ HL.out).mono ?_;rintro e w' ⟨rfl,rfl⟩)|(go_at_call 95;refine(qBB B rb s p _ (h.drewN _)).mono ?_;rintro e w' ⟨v,rfl,hc,hr'',hk''⟩))
  go_ret2
  rw[HE.out];exact⟨_,_,rfl,hr'',hk''.fromDrewN,.inr ⟨rfl,hc⟩⟩
 ·have HL:=qAF hl;clear hl;obtain⟨q,hq⟩:∃q,qAy s p=q:=⟨_,rfl⟩;have hnl:=qCW h4;have hsz:=qCV h4;rw[hq]at hnl hsz;have HEnd:=qAF hq;have HName:Hid (qCF s p=(⟨(qBV (qCd s p q).data.toList).toArray⟩:ByteArray)):=by unfold qCF;rw[hq];rfl
  rw[HName.out]at hsz;obtain⟨hpq,hqs,hq16⟩:=hnl;have hsb:(qCd s p q).size<=140737488351232:=by rw[qEW hqs hpq];omega
  clear hq;go_enter func221,ntmps221
  go_wp2_with (first|(go_at_call 144;refine(qAL rb s p _ h).mono ?_;rintro e w' ⟨rfl,nq,rfl⟩)|(go_at_call 243;refine(qDh _ _ _ HL.out).mono ?_;rintro e w' ⟨rfl,rfl⟩)|(go_at_call 245;refine(qLm B rb s p q _ (h.drewN _) hB HEnd.out).mono ?_;rintro e wr ⟨rfl,hr,hk0⟩;have hk:=hk0.fromDrewN;clear hk0)|(go_at_call 56;refine(qIQ _ _ hsb).mono ?_;rintro e w' ⟨rfl,hbl⟩))
  have hr2:=hr.belowD hbl rfl rfl;have hk2:=hk.belowD hbl rfl rfl rfl rfl rfl;clear hbl;generalize hnm:({ data:=(qBV (qCd s p q).data.toList).toArray }:ByteArray)=nm at *;clear hnm;have g2:=hr2.place;have g3:=hr2.free;cases hn:qBP (qAC s q)
  all_goals
   have HNm:=qAF hn;clear hn;cases htk:(hasN l) nm
   ·have HT:=qAF htk;clear htk;have HF:Hid (qBQ s p (hasN l)=if qBP (qAC s q)=true then(q,none)else(q,some nm)):=by
     exact qFk HL.out HName.out HEnd.out HT.out
    go_wp2_with (first|(go_at_call 262;refine(qD3 B cb l bv _ _ _ (by have:=hk2.at hcb (by decide);exact this) (hk2.owns ho (by decide)) hll HT.out).mono ?_;rintro e w3 ⟨rfl,hbl3⟩;have hr3:=hr2.belowD hbl3 rfl rfl;have hk3:=hk2.belowD hbl3 rfl rfl rfl rfl rfl;have g5:=hr3.place;have g6:=hr3.free)|(go_at_call 144;refine(qAL rb s q _ hr3).mono ?_;rintro e w5 ⟨rfl,nq5,rfl⟩)|(go_at_call 220;refine(qDU _ _ _ HNm.out).mono ?_;rintro e w5 ⟨rfl,rfl⟩)|(go_at_call 95;refine(qBB B rb s q _ (hr3.drewN _)).mono ?_;rintro e w4 ⟨v,rfl,hc,hr4,hk4⟩))
    go_ret2
    rw[HF.out,HNm.out]
    first|rw[if_pos rfl]|rw[if_neg Bool.false_ne_true]
    first
     |exact⟨_,_,rfl,hr3.drewN _,hk3.drewN _,.inl ⟨rfl,rfl⟩⟩
     |exact⟨_,_,rfl,hr4,hk3.trans hk4.fromDrewN,.inr ⟨rfl,hc⟩⟩
   ·have HT:=qAF htk;clear htk;have HF:Hid (qBQ s p (hasN l)=(if q-p=16 then q-1 else q,none)):=by
     exact qO1 HL.out HName.out HEnd.out HT.out
    by_cases h16:q=p+16
    ·have e16:((nm.size:Int)==16)=true:=by rw[beq_iff_eq,hsz];omega
     have hq1:16<=q:=by omega
     have H16:=qAF h16;clear h16;go_wp2_with (first|(go_at_call 262;refine(qD3 B cb l bv _ _ _ (by have:=hk2.at hcb (by decide);exact this) (hk2.owns ho (by decide)) hll HT.out).mono ?_;rintro e w3 ⟨rfl,hbl3⟩;have hr3:=hr2.belowD hbl3 rfl rfl;have hk3:=hk2.belowD hbl3 rfl rfl rfl rfl rfl;have g5:=hr3.place;have g6:=hr3.free)|(go_at_call 95;refine(qBB B rb s (q-1) _ (hr3.moved (q:=q-1) (by omega) (by omega))).mono ?_;rintro e w4 ⟨v,rfl,hc,hr4,hk4⟩))
     go_ret2
     rw[HF.out,if_pos (by have:=H16.out;omega)];exact⟨_,_,rfl,hr4,(hk3.setCell hr3.blk (by simp) hB _).trans hk4,.inr ⟨rfl,hc⟩⟩
    ·first
      |(exfalso;omega)
      | (have e16 : ((nm.size : Int) == 16) = false := by rw [beq_eq_false_iff_ne, hsz]; omega
         have H16:=qAF h16;clear h16;go_wp2_with (first|(go_at_call 262;refine(qD3 B cb l bv _ _ _ (by have:=hk2.at hcb (by decide);exact this) (hk2.owns ho (by decide)) hll HT.out).mono ?_;rintro e w3 ⟨rfl,hbl3⟩;have hr3:=hr2.belowD hbl3 rfl rfl;have hk3:=hk2.belowD hbl3 rfl rfl rfl rfl rfl;have g5:=hr3.place;have g6:=hr3.free)|(go_at_call 95;refine(qBB B rb s q _ hr3).mono ?_;rintro e w4 ⟨v,rfl,hc,hr4,hk4⟩))
         go_ret2
         rw[HF.out,if_neg (by have:=H16.out;omega)];exact⟨_,_,rfl,hr4,hk3.trans hk4,.inr ⟨rfl,hc⟩⟩)
