/-
  Parts of the proof: J13, J14, J15, J18.
-/
import Derived.Test.YtclpcnignheijaaGreatDoorQ26
import Derived.Test.YtclpcnignheijaaGreatDoorJ12
set_option maxHeartbeats 4000000
set_option maxRecDepth 100000
namespace Go.Proofs.YtclpcnignheijaaGreatDoor.Num
open Go.RowKit Go.Proofs.YtclpcnignheijaaGreatDoor
section
variable {u0:World} {tb:Nat} {b:BS} {lv:Value} {A:List Cpx}
theorem anyUp_end {nx:Nat→Int} {t:Nat→Bool} {f m:Nat} (h:nx m < 0):anyUp nx t (f+1) m=false:=by unfold anyUp; rw [if_pos h]
theorem anyUp_on {nx:Nat→Int} {t:Nat→Bool} {f m j:Nat} (h:nx m=(j:Int)):anyUp nx t (f+1) m=(t j || anyUp nx t f j):=by
 conv=>lhs; unfold anyUp
 rw [if_neg (by omega),h,Int.toNat_natCast]
theorem someMeant_q (E : Env u0 tb b A) {σ : Nat} (IH : StepsOk u0 tb b lv A σ) {d : Nat} {v : Value} {c : Cpx} (hc : szc c < σ) (hne : c ≠ []) (hw : wfC (wfN d) c) (hs : selC A u0 (SelL A u0 d) v c) (hv : ∃ vo vn vc, v = .slice vo vn vc)
  (fn:FuncId) (hfn:fn=65∨fn=200) (nx:Nat→Int) (hnl:∀ m,nx m=-1∨(0≤nx m∧nx m < (m:Int))) (hnx:∀ m,m < b.els.length→∀ w,TrC w tb b→Calls Tryz.prog fn #[.pointer (some ⟨tb,0,none⟩),.int .i64 (m:Int)] w fun e w'=>e=.returned (.int .i64 (nx m))∧Old w w')
  (fb m:Nat) (rows:List Nat) (M:Nat→Nat→Nat) (w:World) (hm:m < b.els.length) (hF:Fin u0 tb b.els.length lv fb rows M w) (hR:RightTo b A (szc c+1) M) :
  Calls Tryz.prog 235 #[.pointer (some ⟨fb,0,none⟩),v,.int .i64 (m:Int),.func (.func fn) #[.pointer (some ⟨tb,0,none⟩)] #[]] w (Ans u0 tb b lv A fb rows M (anyUp nx (cMean b c) (m+1) m)):=by
 obtain ⟨vo,vn,vc,rfl⟩:=hv
 have hn:=E.ok.n
 rcases hfn with rfl | rfl
 all_goals
  go_enter Tryz.func235,Tryz.ntmps235
  go_wp2_with fail
  refine (hnx m hm _ (hF.old.tr E.tree)).mono ?_
  rintro e w1 ⟨rfl,ho⟩
  have hF1:=hF.go ho
  go_wp2_with fail
  go_loopw [9] (fun mv wr=>∃ (cur f:Nat) (rows1:List Nat) (M1:Nat→Nat→Nat),mv=.int .i64 (nx cur)∧(cur < f∧cur≤m)∧Fin u0 tb b.els.length lv fb rows1 M1 wr∧rows <+: rows1∧UpM b A M M1∧Hid (anyUp nx (cMean b c) f cur=anyUp nx (cMean b c) (m+1) m)) (fun mv _=>(intOf mv+1).toNat)
  case atStart=>exact ⟨m,m+1,rows,M,rfl,⟨by omega,Nat.le_refl _⟩,hF1,List.prefix_refl _,UpM.refl _ _ _,rfl⟩
  case round =>
   obtain ⟨cur,f,rows1,M1,rfl,⟨hf,hcm⟩,hF2,hpre,hup,HA⟩:=hrel
   obtain ⟨f,rfl⟩:∃ f',f=f'+1:=⟨f - 1,by omega⟩
   rcases hnl cur with hq | hq
   ·have HE:Hid (anyUp nx (cMean b c) (m+1) m=false):=hide (by rw [← HA.out]; exact anyUp_end (by omega))
    rw [hq]
    clear hq HA
    go_wp2
    go_ret
    rw [HE.out]
    exact ⟨rfl,rows1,M1,hF2,hpre,hup⟩
   ·obtain ⟨j,hj⟩:∃ j:Nat,nx cur=(j:Int):=⟨(nx cur).toNat,by omega⟩
    have HE:Hid (anyUp nx (cMean b c) (m+1) m=(cMean b c j || anyUp nx (cMean b c) f j)):=hide (by rw [← HA.out]; exact anyUp_on hj)
    rw [hj] at hq ⊢
    have hne':((j:Int) == -1)=false:=by simp
    clear hj HA
    obtain ⟨r,HS⟩:∃ r,Hid (cMean b c j=r):=⟨_,rfl⟩
    have hst:∀ w2:World,w2.heap=wr.heap→Calls Tryz.prog 175 #[.pointer (some ⟨fb,0,none⟩),.slice vo vn vc,.int .i64 (j:Int)] w2 (Ans u0 tb b lv A fb rows1 M1 r):=fun w2 e=>by
     rw [← HS.out]
     exact IH d _ c hc hne hw hs fb j rows1 M1 w2 (by omega) (hF2.go (Old.heap e)) (hR.up hup)
    cases r
    ·go_wp2_with fail
     refine (hst _ (by rfl)).mono ?_
     rintro e w3 ⟨rfl,rows3,M3,hF3,hp3,hu3⟩
     go_wp2_with fail
     refine (hnx j (by omega) _ (hF3.old.tr E.tree)).mono ?_
     rintro e w4 ⟨rfl,ho4⟩
     have hF4:=hF3.go ho4
     go_wp2
     go_roundw
     case rel=>exact ⟨j,f,rows3,M3,rfl,⟨by omega,by omega⟩,hF4,hpre.trans hp3,hup.trans hu3,hide (by rw [HE.out,HS.out]; rfl)⟩
     case measure =>
      rcases hnl j with h | h
      ·rw [h]; simp [intOf]
      ·simp [intOf]; omega
    ·go_wp2_with fail
     refine (hst _ (by rfl)).mono ?_
     rintro e w3 ⟨rfl,rows3,M3,hF3,hp3,hu3⟩
     go_wp2
     go_ret
     rw [HE.out,HS.out]
     exact ⟨rfl,rows3,M3,hF3,hpre.trans hp3,hup.trans hu3⟩
theorem isMeant_q (E:Env u0 tb b A) {σ:Nat} (IH:StepsOk u0 tb b lv A σ) {d:Nat} {v:Value} {c:Cpx} (hc:szc c < σ) (hne:c≠[]) (hw:wfC (wfN d) c) (hs:selC A u0 (SelL A u0 d) v c) (hv:∃ vo vn vc,v=.slice vo vn vc)
  (fb:Nat) (n:Int) (rows:List Nat) (M:Nat→Nat→Nat) (w:World) (hnl:n=-1∨(0≤n∧n < (b.els.length:Int))) (hF:Fin u0 tb b.els.length lv fb rows M w) (hR:RightTo b A (szc c+1) M) :
  Calls Tryz.prog 236 #[.pointer (some ⟨fb,0,none⟩),v,.int .i64 n] w (Ans u0 tb b lv A fb rows M (oneUp (cMean b c) n)):=by
 obtain ⟨vo,vn,vc,rfl⟩:=hv
 have hn:=E.ok.n
 rcases hnl with rfl | hq
 ·go_enter Tryz.func236,Tryz.ntmps236
  go_wp2
  go_ret
  exact Ans.same hF (.refl _)
 ·obtain ⟨j,rfl⟩:∃ j:Nat,n=(j:Int):=⟨n.toNat,by omega⟩
  have hne':((j:Int) == -1)=false:=by simp
  have HE:Hid (oneUp (cMean b c) (j:Int)=cMean b c j):=hide (by unfold oneUp; rw [if_neg (by omega),Int.toNat_natCast])
  go_enter Tryz.func236,Tryz.ntmps236
  go_wp2_with fail
  refine (IH d _ c hc hne hw hs fb j rows M _ (by omega) hF hR).mono ?_
  rintro e w3 ⟨rfl,H3⟩
  go_wp2
  go_ret
  rw [HE.out]
  exact ⟨rfl,H3⟩
end
section
variable {u0:World} {tb:Nat} {b:BS} {lv:Value} {A:List Cpx}
theorem wfC_init {W:SLst→Prop} {l:Cpx} {st:Stp} (h:wfC W (l++[st])):wfC W l:=fun i x hi=>h i x (by rw [List.getElem?_append_left (List.getElem?_eq_some_iff.1 hi).1]; exact hi)
theorem wfC_last {W:SLst→Prop} {l:Cpx} {st:Stp} (h:wfC W (l++[st])):wfT W st∧(l=[]→st.1=0)∧(l≠[]→0 < st.1∧st.1 < 128):=by
 obtain ⟨h1,h2,h3⟩:=h l.length st (by simp)
 exact ⟨h1,fun e=>h2 (by rw [e]; rfl),fun e=>h3 (fun e0=>e (List.length_eq_zero_iff.1 e0))⟩
theorem szc_init (l:Cpx) (st:Stp):szc l < szc (l++[st]):=by
 unfold szc
 induction l with
 | nil=>simp; omega
 | cons x r ih=>simp only [List.cons_append,List.cons.sizeOf_spec]; omega
theorem standsRight_q (E:Env u0 tb b A) {σ:Nat} (IH:StepsOk u0 tb b lv A σ) {d:Nat} {l:Cpx} {st:Stp} (hc:szc l < σ) (hw:wfC (wfN d) (l++[st])) {g cap:Nat} (hcap:l.length+1≤cap∧cap≤maxLen) (c1:u0.cell? ⟨g,l.length * 4+1,none⟩=some (.int .u8 st.1)) (hs:selC A u0 (SelL A u0 d) (.slice (some ⟨g,0,none⟩) l.length cap) l)
  (fb m:Nat) (rows:List Nat) (M:Nat→Nat→Nat) (w:World) (hm:m < b.els.length) (hF:Fin u0 tb b.els.length lv fb rows M w) (hR:RightTo b A (szc l+1) M) :
  Calls Tryz.prog 213 #[.pointer (some ⟨fb,0,none⟩),.slice (some ⟨g,0,none⟩) (l.length+1) cap,.int .i64 (m:Int)] w (Ans u0 tb b lv A fb rows M (standsM b (cMean b l) st.1 m)):=by
 obtain ⟨cb,nm,ms⟩:=st
 dsimp only at c1 ⊢
 obtain ⟨-,h0,hcb⟩:=wfC_last hw
 dsimp only at h0 hcb
 have hn:=E.ok.n
 have hmx:cap≤9223372036854775807:=by have:=hcap.2; unfold maxLen at this; omega
 have k1:=hF.old.cells _ _ c1
 have c0:=hF.c0.1
 have hwl:=wfC_init hw
 by_cases h32:cb=32
 ·subst h32
  have hne:l≠[]:=fun e=>by have:=h0 e; omega
  have HE:Hid (standsM b (cMean b l) 32 m=anyUp (parI b) (cMean b l) (m+1) m):=hide rfl
  clear h0 hcb
  go_enter Tryz.func213,Tryz.ntmps213
  go_wp2_with fail
  refine (someMeant_q E IH hc hne hwl hs ⟨_,_,_,rfl⟩ 65 (.inl rfl) (parI b) (par_lt E.ok) (fun j hj w' ht=>(parent_o E.ok j hj w' ht).mono fun _ _ h=>⟨h.1,h.2 ▸ .refl _⟩) fb m rows M _ hm hF hR).mono ?_
  rintro e w3 ⟨rfl,H3⟩
  go_wp2
  go_ret
  rw [HE.out]
  exact ⟨rfl,H3⟩
 by_cases h62:cb=62
 ·subst h62
  have hne:l≠[]:=fun e=>by have:=h0 e; omega
  have HE:Hid (standsM b (cMean b l) 62 m=oneUp (cMean b l) (parI b m)):=hide rfl
  clear h0 hcb h32
  go_enter Tryz.func213,Tryz.ntmps213
  go_wp2_with fail
  refine (parent_o E.ok m hm _ (hF.old.tr E.tree)).mono ?_
  rintro e w1 ⟨rfl,rfl⟩
  go_wp2_with fail
  refine (isMeant_q E IH hc hne hwl hs ⟨_,_,_,rfl⟩ fb (parI b m) rows M _ (by rcases par_lt E.ok m with h | h <;> omega) hF hR).mono ?_
  rintro e w3 ⟨rfl,H3⟩
  go_wp2
  go_ret
  rw [HE.out]
  exact ⟨rfl,H3⟩
 by_cases h43:cb=43
 ·subst h43
  have hne:l≠[]:=fun e=>by have:=h0 e; omega
  have HE:Hid (standsM b (cMean b l) 43 m=oneUp (cMean b l) (beforeP b m)):=hide rfl
  clear h0 hcb h32 h62
  go_enter Tryz.func213,Tryz.ntmps213
  go_wp2_with fail
  refine (before_o E.ok m hm _ (hF.old.tr E.tree)).mono ?_
  rintro e w1 ⟨rfl,ho⟩
  have hF1:=hF.go ho
  go_wp2_with fail
  refine (isMeant_q E IH hc hne hwl hs ⟨_,_,_,rfl⟩ fb (beforeP b m) rows M _ (by rcases before_lt b m with h | h <;> omega) hF1 hR).mono ?_
  rintro e w3 ⟨rfl,H3⟩
  go_wp2
  go_ret
  rw [HE.out]
  exact ⟨rfl,H3⟩
 by_cases h126:cb=126
 ·subst h126
  have hne:l≠[]:=fun e=>by have:=h0 e; omega
  have HE:Hid (standsM b (cMean b l) 126 m=anyUp (beforeP b) (cMean b l) (m+1) m):=hide rfl
  clear h0 hcb h32 h62 h43
  go_enter Tryz.func213,Tryz.ntmps213
  go_wp2_with fail
  refine (someMeant_q E IH hc hne hwl hs ⟨_,_,_,rfl⟩ 200 (.inr rfl) (beforeP b) (before_lt b) (fun j hj w' ht=>before_o E.ok j hj w' ht) fb m rows M _ hm hF hR).mono ?_
  rintro e w3 ⟨rfl,H3⟩
  go_wp2
  go_ret
  rw [HE.out]
  exact ⟨rfl,H3⟩
 ·have HE:Hid (standsM b (cMean b l) cb m=true):=hide (by unfold standsM; rw [if_neg h32,if_neg h62,if_neg h43,if_neg h126])
  have b1:(cb == 32)=false:=by simp [h32]
  have b2:(cb == 62)=false:=by simp [h62]
  have b3:(cb == 43)=false:=by simp [h43]
  have b4:(cb == 126)=false:=by simp [h126]
  clear h0 hcb h32 h62 h43 h126
  go_enter Tryz.func213,Tryz.ntmps213
  go_wp2
  go_ret
  rw [HE.out]
  exact Ans.same hF (.refl _)
def updM (M:Nat→Nat→Nat) (k m x:Nat):Nat→Nat→Nat:=fun i j=>if i=k∧j=m then x else M i j
theorem updM_at (M:Nat→Nat→Nat) (k m x:Nat):updM M k m x k m=x:=by unfold updM; rw [if_pos ⟨rfl,rfl⟩]
theorem updM_ne {M:Nat→Nat→Nat} {k m x i j:Nat} (h:¬ (i=k∧j=m)):updM M k m x i j=M i j:=by unfold updM; rw [if_neg h]
theorem zRow_size (N:Nat) (f:Nat→Nat):(zRow N f).size=N:=by simp [zRow]
theorem zRow_at {N:Nat} {f:Nat→Nat} {m:Nat} (h:m < N):(zRow N f)[m]? = some (.int .u8 (f m:Int)):=by simp [zRow,h]
theorem zRow_get (N:Nat) (f:Nat→Nat) (i:Nat):(zRow N f)[i]? = if i < N then some (.int .u8 (f i:Int)) else none:=by
 by_cases h:i < N
 ·rw [zRow_at h,if_pos h]
 ·rw [if_neg h,Array.getElem?_eq_none (by rw [zRow_size]; omega)]
theorem zRow_set {N:Nat} {f:Nat→Nat} {m x:Nat} (h:m < N):(zRow N f).setIfInBounds m (.int .u8 (x:Int))=zRow N (fun j=>if j=m then x else f j):=by
 apply Array.ext_getElem?
 intro i
 rw [Array.getElem?_setIfInBounds,zRow_get,zRow_get,zRow_size]
 by_cases e:m=i
 ·subst e; simp [h]
 ·simp [e,Ne.symm e]
theorem Fin.cell {w:World} {N fb:Nat} {rows:List Nat} {M:Nat→Nat→Nat} (h:Fin u0 tb N lv fb rows M w) {k r m:Nat} (hr:rows[k]? = some r) (hm:m < N):w.cell? ⟨r,m,none⟩=some (.int .u8 (M k m:Int))∧w.frozen? ⟨r,m,none⟩=false:=by
 obtain ⟨h0,hge,qb,kv,m1,m2,m3,m4,m5,m6⟩:=h
 have hb:=(m5 k r hr).2
 refine ⟨?_,by simp [World.frozen?,hb]⟩
 unfold World.cell?
 dsimp only
 rw [hb]
 exact zRow_at hm
theorem Fin.set {w : World} {N fb : Nat} {rows : List Nat} {M : Nat → Nat → Nat} (h : Fin u0 tb N lv fb rows M w) {k r m : Nat} (hr : rows[k]? = some r) (hm : m < N) (x : Nat) : Fin u0 tb N lv fb rows (updM M k m x) (w.setCell ⟨r, m, none⟩ (.int .u8 (x : Int))) := by
 obtain ⟨h0,hge,qb,kv,m1,m2,m3,m4,m5,m6⟩:=h
 obtain ⟨hrge,hb⟩:=m5 k r hr
 have kps:=Kp.setAny (p:=⟨r,m,none⟩) hb (.int .u8 (x:Int))
 refine ⟨h0.setCell hrge _,hge,qb,kv,kps.at m1 (by decide),kps.at m2 (by decide),kps.owns m3 (by decide),m4,fun i s hs=>?_,fun i j hi=>?_⟩
 ·refine ⟨(m5 i s hs).1,?_⟩
  by_cases e:i=k
  ·subst e
   obtain rfl:r=s:=by rw [hr] at hs; exact Option.some.inj hs
   rw [set_blk (o:=m) hb,zRow_set hm]
   refine congrArg (fun c=>some (Obj.cells c 309 (0,0))) (zRow_congr fun j=>?_)
   unfold updM
   by_cases e:j=m <;> simp [e]
  ·have hne:s≠r:=fun e'=>by
    subst e'
    have hi:=(List.getElem?_eq_some_iff.1 hs).1
    have hk:=(List.getElem?_eq_some_iff.1 hr).1
    have:=(List.getElem?_inj hi m4).1 (hs.trans hr.symm)
    exact e this
   rw [Below.heap_setCell _ _ _ _ (by exact hne)]
   rw [(m5 i s hs).2]
   exact congrArg (fun c=>some (Obj.cells c 309 (0,0))) (zRow_congr fun j=>(updM_ne (fun h=>e h.1)).symm)
 ·have hk:=(List.getElem?_eq_some_iff.1 hr).1
  rw [updM_ne (fun h=>by omega)]
  exact m6 i j hi
end
section
variable {u0:World} {tb:Nat} {b:BS} {lv:Value} {A:List Cpx}
theorem szl_in {l:Cpx} {st:Stp} {k:Nat} {x:ByteArray} {a:AttrQ} {t:NthQ} {l':SLst} (h:Sim.mk k x a t l'∈st.2.2):szl l' < szc (l++[st]):=by
 have e2:SizeOf.sizeOf st < SizeOf.sizeOf (l++[st]):=List.sizeOf_lt_of_mem (by simp)
 have e3:=List.sizeOf_lt_of_mem h
 obtain ⟨i,y,ms⟩:=st
 simp only [Prod.mk.sizeOf_spec,Sim.mk.sizeOf_spec] at e2 e3
 unfold szl szc
 omega
theorem RightTo.mark {k m:Nat} {c:Cpx} {M:Nat→Nat→Nat} (h:RightTo b A (szc c+1) M) (hk:A[k]? = some c) (x:Nat):RightTo b A (szc c) (updM M k m x):=fun i c' j hc hs hj=>by
 rw [updM_ne (fun e=>by
  obtain ⟨rfl,-⟩:=e
  rw [hk] at hc
  obtain rfl:=Option.some.inj hc
  omega)]
 exact h i c' j hc (by omega) hj
theorem UpM.mark {k m:Nat} {c:Cpx} {M M1:Nat→Nat→Nat} (hk:A[k]? = some c) (h:UpM b A (updM M k m 2) M1) (hr:cMean b c m=false):UpM b A M M1∧M1 k m=2:=by
 have h2:M1 k m=2:=by
  rcases h k m with e | ⟨c',hc',e⟩
  ·rw [e,updM_at]
  ·rw [hk] at hc'
   obtain rfl:=Option.some.inj hc'
   rw [e,hr]; rfl
 refine ⟨fun i j=>?_,h2⟩
 by_cases e:i=k∧j=m
 ·obtain ⟨rfl,rfl⟩:=e
  exact .inr ⟨c,hk,by rw [h2,hr]; rfl⟩
 ·rcases h i j with h' | h'
  ·exact .inl (by rw [h',updM_ne e])
  ·exact .inr h'
theorem UpM.mark1 {k m:Nat} {c:Cpx} {M M1:Nat→Nat→Nat} (hk:A[k]? = some c) (h:UpM b A (updM M k m 2) M1) (hr:cMean b c m=true):UpM b A M (updM M1 k m 1):=fun i j=>by
 by_cases e:i=k∧j=m
 ·obtain ⟨rfl,rfl⟩:=e
  exact .inr ⟨c,hk,by rw [updM_at,hr]; rfl⟩
 ·rw [updM_ne e]
  rcases h i j with h' | h'
  ·exact .inl (by rw [h',updM_ne e])
  ·exact .inr h'
theorem pre_at {rows rows':List Nat} (h:rows <+: rows') {k r:Nat} (hr:rows[k]? = some r):rows'[k]? = some r:=by
 obtain ⟨t,rfl⟩:=h
 rw [List.getElem?_append_left (List.getElem?_eq_some_iff.1 hr).1]; exact hr
theorem stepsMean_q (E : Env u0 tb b A) {σ : Nat} (IS : StepsOk u0 tb b lv A σ) (IL : ListsOk u0 tb b lv A σ) : StepsOk u0 tb b lv A (σ + 1) := by
 intro d v c hc hne hw hs fb m rows M w hm hF hR
 obtain ⟨l,st,rfl⟩:∃ l st,c=l++[st]:=⟨c.dropLast,c.getLast hne,(List.dropLast_concat_getLast hne).symm⟩
 obtain ⟨g,cap,k,mv,rfl,hcap,⟨s0,s1,s2,s3⟩,hA,hsm,hsl⟩:=hs.last
 have hkl:k < A.length:=(List.getElem?_eq_some_iff.1 hA).1
 have han:=E.an
 have hn:=E.ok.n
 have hmx:cap≤9223372036854775807:=by have:=hcap.2; unfold maxLen at this; omega
 have hl1:l.length+1≤cap:=hcap.1
 have hsz:=szc_init l st
 have k0:=hF.old.cells _ _ s0
 obtain ⟨hwt,-,-⟩:=wfC_last hw
 have CM:=cMean_snoc (b:=b) l st m
 rcases hR k _ m hA (by omega) hm with hz | hz
 ·obtain ⟨r1,H1⟩:∃ r,Hid (compM b (simM b (mean b)) st m=r):=⟨_,rfl⟩
  obtain ⟨r2,H2⟩:∃ r,Hid (standsM b (cMean b l) st.1 m=r):=⟨_,rfl⟩
  rw [H1.out,H2.out] at CM
  have HC:=hide CM
  have HZ:=hide hz
  clear CM hz
  have hcq:∀ rows1 w2,Fin u0 tb b.els.length lv fb rows1 (updM M k m 2) w2→Calls Tryz.prog 212 #[.pointer (some ⟨fb,0,none⟩),.pointer (some ⟨g,l.length * 4+2,none⟩),.int .i64 (m:Int)] w2 (Ans u0 tb b lv A fb rows1 (updM M k m 2) r1):=fun rows1 w2 hF2=>by
   rw [← H1.out]
   exact compound_q E (σ:=szc (l++[st])) (fun d v l' hl'=>IL d v l' (by omega)) hwt (fun k x a t l' hm'=>szl_in hm') hsm fb m rows1 _ w2 hm hF2 (hR.mark hA 2) g (l.length * 4+2) s2 s3
  have hst:∀ rows1 M1 w2,Fin u0 tb b.els.length lv fb rows1 M1 w2→UpM b A (updM M k m 2) M1→Calls Tryz.prog 213 #[.pointer (some ⟨fb,0,none⟩),.slice (some ⟨g,0,none⟩) (l.length+1) cap,.int .i64 (m:Int)] w2 (Ans u0 tb b lv A fb rows1 M1 r2):=fun rows1 M1 w2 hF2 hu=>by
   rw [← H2.out]
   exact standsRight_q E (σ:=szc (l++[st])) (fun d v l' hl'=>IS d v l' (by omega)) hsz hw hcap s1 hsl fb m rows1 M1 w2 hm hF2 (((hR.mark hA 2).up hu).mono (by omega))
  go_enter Tryz.func175,Tryz.ntmps175
  go_wp2_with fail
  refine (row_c u0 tb _ lv fb rows M _ b hF E.tree rfl (by omega) k (by omega)).mono ?_
  rintro e w1 ⟨r,rows1,rfl,hF1,hpre,hr⟩
  obtain ⟨q0,q1⟩:=hF1.cell hr hm
  rw [HZ.out] at q0
  have hF2:=hF1.set hr hm 2
  go_wp2_with fail
  refine (hcq rows1 _ hF2).mono ?_
  rintro e w3 ⟨rfl,rows3,M3,hF3,hp3,hu3⟩
  have hr3:=pre_at hp3 hr
  obtain ⟨t0,t1⟩:=hF3.cell hr3 hm
  cases r1
  ·obtain ⟨hu,h2⟩:=hu3.mark hA HC.out
   rw [h2] at t0
   have HU:=hide hu
   clear hu h2
   go_wp2
   go_ret
   rw [HC.out]
   exact ⟨rfl,rows3,M3,hF3,hpre.trans hp3,HU.out⟩
  ·go_wp2_with fail
   refine (hst rows3 M3 _ hF3 hu3).mono ?_
   rintro e w4 ⟨rfl,rows4,M4,hF4,hp4,hu4⟩
   have hr4:=pre_at hp4 hr3
   obtain ⟨t0,t1⟩:=hF4.cell hr4 hm
   cases r2
   ·obtain ⟨hu,h2⟩:=(hu3.trans hu4).mark hA HC.out
    rw [h2] at t0
    have HU:=hide hu
    clear hu h2
    go_wp2
    go_ret
    rw [HC.out]
    exact ⟨rfl,rows4,M4,hF4,hpre.trans (hp3.trans hp4),HU.out⟩
   ·have HU:=hide ((hu3.trans hu4).mark1 hA HC.out)
    have hF5:=hF4.set hr4 hm 1
    go_wp2
    go_ret
    rw [HC.out]
    exact ⟨rfl,rows4,_,hF5,hpre.trans (hp3.trans hp4),HU.out⟩
 ·have HZ:=hide hz
  obtain ⟨r0,H0⟩:∃ r,Hid (cMean b (l++[st]) m=r):=⟨_,rfl⟩
  rw [H0.out]
  clear CM hz
  go_enter Tryz.func175,Tryz.ntmps175
  go_wp2_with fail
  refine (row_c u0 tb _ lv fb rows M _ b hF E.tree rfl (by omega) k (by omega)).mono ?_
  rintro e w1 ⟨r,rows1,rfl,hF1,hpre,hr⟩
  obtain ⟨q0,q1⟩:=hF1.cell hr hm
  rw [HZ.out,H0.out] at q0
  cases r0
  ·rw [show vd false=2 from rfl] at q0
   go_wp2
   go_ret
   exact ⟨rfl,rows1,M,hF1,hpre,UpM.refl _ _ _⟩
  ·rw [show vd true=1 from rfl] at q0
   go_wp2
   go_ret
   exact ⟨rfl,rows1,M,hF1,hpre,UpM.refl _ _ _⟩
theorem listMeans_q (E : Env u0 tb b A) {σ : Nat} (IS : StepsOk u0 tb b lv A σ) : ListsOk u0 tb b lv A (σ + 1) := by
 intro d v l hl hw hs fb m rows M w hm hF hR
 have hmx:l.length≤9223372036854775807:=by have:=hs.len; unfold maxLen at this; omega
 obtain ⟨ao,cp,rfl⟩:=hs.shape
 have hn:=E.ok.n
 have HE:=hide (mean_eq (b:=b) l m)
 rw [HE.out]
 go_enter Tryz.func130,Tryz.ntmps130
 go_wp2_with fail
 go_loopw [11] (fun iv wr=>∃ (i:Nat) (rows1:List Nat) (M1:Nat→Nat→Nat),iv=.int .i64 (i:Int)∧i≤l.length∧Fin u0 tb b.els.length lv fb rows1 M1 wr∧rows <+: rows1∧UpM b A M M1∧Hid (((l.drop i).any fun c=>cMean b c m)=l.any fun c=>cMean b c m)) (fun iv _=>((l.length:Int) - intOf iv).toNat)
 case atStart=>exact ⟨0,rows,M,rfl,Nat.zero_le _,hF,List.prefix_refl _,UpM.refl _ _ _,rfl⟩
 case round =>
  obtain ⟨i,rows1,M1,rfl,hi,hF2,hpre,hup,HA⟩:=hrel
  by_cases hlt:i < l.length
  ·obtain ⟨c,hci⟩:∃ c,l[i]? = some c:=⟨l[i],List.getElem?_eq_getElem hlt⟩
   have hcm:=List.mem_of_getElem? hci
   cases d with
   | zero=>have:l=[]:=hw; rw [this] at hlt; simp at hlt
   | succ d =>
    obtain ⟨g2,cap2,cv,hv2,hcell,hsel⟩:=hs.get hci
    injection hv2 with e1 _ e3
    subst e1; subst e3
    obtain ⟨hwc,hne⟩:=hw c hcm
    have q0:=hF2.old.cells _ _ hcell
    have hsz:szc c < szl l:=List.sizeOf_lt_of_mem hcm
    obtain ⟨r,HS⟩:∃ r,Hid (cMean b c m=r):=⟨_,rfl⟩
    have hst:∀ w2:World,w2.heap=wr.heap→Calls Tryz.prog 175 #[.pointer (some ⟨fb,0,none⟩),cv,.int .i64 (m:Int)] w2 (Ans u0 tb b lv A fb rows1 M1 r):=fun w2 e=>by
     rw [← HS.out]
     exact IS d _ c (by omega) hne hwc hsel fb m rows1 M1 w2 hm (hF2.go (Old.heap e)) ((hR.up hup).mono (by omega))
    have hdrop:l.drop i=c :: l.drop (i+1):=by
     rw [List.drop_eq_getElem_cons hlt]
     congr 1
     rw [List.getElem?_eq_getElem hlt] at hci
     exact Option.some.inj hci
    have HB:Hid ((l.any fun c=>cMean b c m)=(r || (l.drop (i+1)).any fun c=>cMean b c m)):=hide (by rw [← HA.out,hdrop,List.any_cons,HS.out])
    have hlt':(i:Int) < (l.length:Int):=by omega
    obtain ⟨co,cc,rfl⟩:=hsel.shape
    clear hci hdrop hsel hcell hwc hne hcm
    cases r
    ·go_wp2_with fail
     refine (hst _ (by rfl)).mono ?_
     rintro e w3 ⟨rfl,rows3,M3,hF3,hp3,hu3⟩
     go_wp2
     go_roundw
     case rel=>exact ⟨i+1,rows3,M3,by simp,by omega,hF3,hpre.trans hp3,hup.trans hu3,hide (by rw [HB.out]; rfl)⟩
     case measure=>simp [intOf]; omega
    ·go_wp2_with fail
     refine (hst _ (by rfl)).mono ?_
     rintro e w3 ⟨rfl,rows3,M3,hF3,hp3,hu3⟩
     go_wp2
     go_ret
     rw [HB.out]
     exact ⟨rfl,rows3,M3,hF3,hpre.trans hp3,hup.trans hu3⟩
  ·have hlt':¬ (i:Int) < (l.length:Int):=by omega
   have HX:Hid ((l.any fun c=>cMean b c m)=false):=hide (by rw [← HA.out,List.drop_eq_nil_of_le (by omega)]; rfl)
   go_wp2
   go_ret
   rw [HX.out]
   exact ⟨rfl,rows1,M1,hF2,hpre,hup⟩
theorem both_q (E:Env u0 tb b A):∀ σ,StepsOk u0 tb b lv A σ∧ListsOk u0 tb b lv A σ
 | 0=>⟨fun d v c hc=>absurd hc (by omega),fun d v l hl=>absurd hl (by omega)⟩
 | σ+1=>⟨stepsMean_q E (both_q E σ).1 (both_q E σ).2,listMeans_q E (both_q E σ).1⟩
def Right (b:BS) (A:List Cpx) (M:Nat→Nat→Nat):Prop:=∀ σ,RightTo b A σ M
theorem Right.up {M M':Nat→Nat→Nat} (h:Right b A M) (k:UpM b A M M'):Right b A M':=fun σ=>(h σ).up k
theorem Right.zero:Right b A (fun _ _=>0):=fun _ _ _ _ _ _ _=>.inl rfl
theorem means_q (E:Env u0 tb b A) {d:Nat} {l:SLst} (hw:wfN d l) (hs:SelL A u0 d lv l) (fb m:Nat) (rows:List Nat) (M:Nat→Nat→Nat) (w:World) (hm:m < b.els.length) (hF:Fin u0 tb b.els.length lv fb rows M w) (hR:Right b A M) :
  Calls Tryz.prog 97 #[.pointer (some ⟨fb,0,none⟩),.int .i64 (m:Int)] w fun e w'=>e=.returned (.bool (mean b l m))∧∃ rows' M',Fin u0 tb b.els.length lv fb rows' M' w'∧Right b A M':=by
 have c1:=hF.c0.2
 obtain ⟨ao,cp,rfl⟩:=hs.shape
 go_enter Tryz.func97,Tryz.ntmps97
 go_wp2_with fail
 refine ((both_q E (szl l+1)).2 d _ l (by omega) hw hs fb m rows M _ hm hF (hR _)).mono ?_
 rintro e w3 ⟨rfl,rows3,M3,hF3,hp3,hu3⟩
 go_wp2
 go_ret
 exact ⟨rfl,rows3,M3,hF3,hR.up hu3⟩
end
theorem OwnC.same {u u':World} (k:SameCells u u') {size:Nat} {v:Value} {n:Nat} {xs:List Value} (h:OwnC u size v n xs):OwnC u' size v n xs:=by
 obtain ⟨ao,cap,h1,h2,h3,h4,h5⟩:=h
 exact ⟨ao,cap,h1,h2,h3,h4,fun hn=>by
  obtain ⟨g,e,hc⟩:=h5 hn
  exact ⟨g,e,fun i x hx=>k _ _ (hc i x hx)⟩⟩
theorem SelL.same {u u' : World} (k : SameCells u u') {A : List Cpx} : ∀ {d : Nat} {v : Value} {l : SLst}, SelL A u d v l → SelL A u' d v l
 | 0,_,_,h=>h
 | d+1,v,l,⟨xs,h1,h2⟩=>by
  have goM:∀ {v:Value} {ms:List Sim},selM u (SelL A u d) v ms→selM u' (SelL A u' d) v ms:=fun ⟨xs,h1,h2⟩ =>
   ⟨xs,h1.same k,(Row.toC (Q:=fun _=>True) (fun m c h=>⟨by
    obtain ⟨k',x,a,t,l⟩:=m
    obtain ⟨v,e,h0,h⟩:=h
    exact ⟨v,e,h0,SelL.same k h⟩,fun _ _=>trivial⟩) h2).1⟩
  have goC:∀ {v:Value} {c:Cpx},selC A u (SelL A u d) v c→selC A u' (SelL A u' d) v c:=fun ⟨xs,h1,h2⟩ =>
   ⟨xs,h1.same k,(Row.toC (Q:=fun _=>True) (fun m c h=>⟨by
    obtain ⟨l,st,k',v,e,e2,hp,h⟩:=h
    exact ⟨l,st,k',v,e,e2,hp,goM h⟩,fun _ _=>trivial⟩) h2).1⟩
  exact ⟨xs,h1.same k,(Row.toC (Q:=fun _=>True) (fun c vs ⟨v',e,h⟩=>⟨⟨v',e,goC h⟩,fun _ _=>trivial⟩) h2).1⟩
structure Look (w:World) (tb:Nat) (b:BS) (A:List Cpx) (lv:Value) (d:Nat) (l:SLst):Prop where
 env:Env w tb b A
 wf:wfN d l
 sel:SelL A w d lv l
theorem Look.old {w w':World} {tb:Nat} {b:BS} {A:List Cpx} {lv:Value} {d:Nat} {l:SLst} (h:Look w tb b A lv d l) (k:Old w w'):Look w' tb b A lv d l:=⟨⟨k.tr h.env.tree,h.env.glob.old k,h.env.ok,h.env.an⟩,h.wf,SelL.same k.cells h.sel⟩
def firstM (mP:Nat→Bool):Nat→Nat→Int
 | 0,_=>-1
 | f+1,k=>if mP k=true then (k:Int) else firstM mP f (k+1)
section
variable {tb:Nat} {b:BS} {A:List Cpx} {lv:Value} {d:Nat} {l:SLst} {w:World}
theorem means_is (L:Look w tb b A lv d l) (fb m:Nat) (rows:List Nat) (M:Nat→Nat→Nat) (w1:World) (hm:m < b.els.length) (hF:Fin w tb b.els.length lv fb rows M w1) (hR:Right b A M) (r:Bool) (hr:mean b l m=r) :
  Calls Tryz.prog 97 #[.pointer (some ⟨fb,0,none⟩),.int .i64 (m:Int)] w1 fun e w'=>e=.returned (.bool r)∧∃ rows' M',Fin w tb b.els.length lv fb rows' M' w'∧Right b A M':=hr ▸ means_q L.env L.wf L.sel fb m rows M w1 hm hF hR
theorem first_q (L : Look w tb b A lv d l) : Calls Tryz.prog 66 #[.pointer (some ⟨tb, 0, none⟩), lv] w fun e w' => e = .returned (.int .i64 (firstM (mean b l) b.els.length 0)) ∧ Old w w' := by
 have hn:=L.env.ok.n
 obtain ⟨ao,cp,rfl⟩:=L.sel.shape
 obtain ⟨-,ve,av,tc0,⟨eo,ep,rfl,-⟩,-⟩:=L.env.tree
 go_enter Tryz.func66,Tryz.ntmps66
 go_wp2_with fail
 refine (newFinder_c tb b.els.length _ w ⟨_,_,_,rfl⟩).mono ?_
 rintro e w1 ⟨fb,rfl,hF⟩
 have tc1:=hF.old.cells _ _ tc0
 go_wp2_with fail
 go_loopw [15] (fun iv wr=>∃ (i:Nat) (rows:List Nat) (M:Nat→Nat→Nat),iv=.int .i64 (i:Int)∧i≤b.els.length∧Fin w tb b.els.length (.slice ao l.length cp) fb rows M wr∧Right b A M∧Hid (firstM (mean b l) (b.els.length - i) i=firstM (mean b l) b.els.length 0)) (fun iv _=>((b.els.length:Int) - intOf iv).toNat)
 case atStart=>exact ⟨0,[],_,rfl,Nat.zero_le _,hF,Right.zero,rfl⟩
 case round =>
  obtain ⟨i,rows,M,rfl,hi,hF1,hR,HA⟩:=hrel
  by_cases hlt:i < b.els.length
  ·have hlt':(i:Int) < (b.els.length:Int):=by omega
   obtain ⟨f,hf⟩:∃ f,b.els.length - i=f+1:=⟨b.els.length - i - 1,by omega⟩
   have hf2:b.els.length - (i+1)=f:=by omega
   rw [hf] at HA
   cases hr:mean b l i
   ·have HB:Hid (firstM (mean b l) b.els.length 0=firstM (mean b l) (b.els.length - (i+1)) (i+1)):=hide (by rw [← HA.out,hf2,firstM,if_neg (by rw [hr]; exact Bool.false_ne_true)])
    have HR:=hide hr
    clear hr hf hf2 HA
    go_wp2_with fail
    refine (means_is L fb i rows M _ hlt hF1 hR false HR.out).mono ?_
    rintro e w3 ⟨rfl,rows3,M3,hF3,hR3⟩
    go_wp2
    go_roundw
    case rel=>exact ⟨i+1,rows3,M3,by simp,by omega,hF3,hR3,hide HB.out.symm⟩
    case measure=>simp [intOf]; omega
   ·have HB:Hid (firstM (mean b l) b.els.length 0=(i:Int)):=hide (by rw [← HA.out,firstM,if_pos hr])
    have HR:=hide hr
    clear hr hf hf2 HA
    go_wp2_with fail
    refine (means_is L fb i rows M _ hlt hF1 hR true HR.out).mono ?_
    rintro e w3 ⟨rfl,rows3,M3,hF3,hR3⟩
    go_wp2
    go_ret
    rw [HB.out]
    exact ⟨rfl,hF3.old⟩
  ·have hlt':¬ (i:Int) < (b.els.length:Int):=by omega
   have HB:Hid (firstM (mean b l) b.els.length 0=-1):=hide (by rw [← HA.out,show b.els.length - i=0 from by omega]; rfl)
   clear HA
   go_wp2
   go_ret
   rw [HB.out]
   exact ⟨rfl,hF1.old⟩
end
end Go.Proofs.YtclpcnignheijaaGreatDoor.Num
