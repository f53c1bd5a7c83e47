import Derived.Test.YtjoapiafpahihabGreatKernM
import Derived.DeepKeys4
import Derived.Lib.BitFns
import Derived.Lib.Small
import Derived.Lib.Walk
import Derived.Lib.SliceRun
import Derived.Test.YtjoapiafpahihabGreatRef5B
set_option maxHeartbeats 20000000
namespace Go.Proofs.YtjoapiafpahihabGreat
open Go.Proofs.Tryz
open Go.RowKit Go.Joins
open Go.WideMaps (KeyLaw)
set_option linter.unusedVariables false
set_option linter.unusedSimpArgs false
set_option maxRecDepth 8192
variable {b base:Nat} {x w w' w6:World} {v:Value} {K:Kn} {c:Mc} {V:Nat->Value}
theorem laidOut:laidOutB prog=true:=by kernel_rfl
theorem zp6:(218:TypeId)<prog.types.size:=of_decide_eq_true (by kernel_rfl)
theorem zwl:(match prog.underlying 218 with | some (.array _ _) | some (.struct _)=>true | _=>false)=true:=by kernel_rfl
theorem zc9:KeyLaw prog 218:=deep_law_laid laidOut (m:=2) (by omega) zp6 (by kernel_rfl) zwl
theorem zkr (u:World):(zeroValue 3).run prog u=.ok (iV 0) u:=by kernel_rfl
theorem zp5 (a b:Int) (ha:(Lit.int .i64 a).wf=true) (hb:(Lit.int .i64 b).wf=true):∃kl,keyOf prog 218 (.agg #[.int .i64 a,.int .i64 b])=some kl:=by
 have h1:prog.keyType 218=true:=by kernel_rfl
 have h2:prog.cellsOf 218=2:=by kernel_rfl
 have h3:prog.cellsOf 3=1:=by kernel_rfl
 obtain⟨dd,h4⟩:∃dd,prog.types.size=dd+1:=⟨_,(Nat.succ_pred_eq_of_pos (Nat.lt_of_le_of_lt (Nat.zero_le _) zp6)).symm⟩
 have h5:(Value.agg #[.int .i64 a,.int .i64 b]).formed prog 218=true:=by simp [Value.formed,underlying218,h2]
 have h6:∀d (x:Int),(Lit.int .i64 x).wf=true->prog.keyLits (d+1) 3 [.int .i64 x]=some [.int .i64 x]:=fun d x hx=>by
  unfold Program.keyLits
  rw [underlying3]
  simp [hx]
 have h7:prog.keyLits (dd+1+1) 218 [.int .i64 a,.int .i64 b]=some [.int .i64 a,.int .i64 b]:=by
  unfold Program.keyLits
  rw [underlying218]
  simp [h2,h3,h6 dd a ha,h6 dd b hb]
 unfold keyOf
 rw [underlying218]
 simp only [h1,h5,Bool.and_self,if_true]
 rw [h4]
 have h8:(Value.agg #[.int .i64 a,.int .i64 b]).cells.toList=[.int .i64 a,.int .i64 b]:=rfl
 rw [h8,h7]
 exact⟨_,rfl⟩
def Yr (l:List Kop) (k:Nat) (s c:Int):Nat:=cnt (fun j=>decide ((zp l j).sl=s) && decide (zW (zp l j).o=c)) k
theorem zwg (l:List Kop) (k:Nat):Yr l (k+1) (zp l k).sl (zW (zp l k).o)=zdu l k:=rfl
theorem UH (l:List Kop) (k:Nat) (s c:Int):Yr l (k+1) s c=if (zp l k).sl=s/\zW (zp l k).o=c then Yr l k s c+1 else Yr l k s c:=by
 unfold Yr
 show cnt _ k+(if (decide ((zp l k).sl=s) && decide (zW (zp l k).o=c))=true then 1 else 0)=_
 by_cases h:(zp l k).sl=s/\zW (zp l k).o=c
 ·rw [if_pos h,if_pos (by rw [decide_eq_true h.1,decide_eq_true h.2];rfl)]
 ·rw [if_neg h,if_neg (by simpa using h)];rfl
def Xh (l:List Kop) (k b:Nat) (x:World):Prop :=
 ∃D:DataW Unit,x.ownsMap prog 218 (plainElem prog 3) b k D/\Maps.IsMap D/\∀s c kl,keyOf prog 218 (.agg #[.int .i64 s,.int .i64 c])=some kl->D.atKey kl (.lit (.int .i64 0))=.lit (.int .i64 (Yr l k s c))
theorem Xh.gE {l:List Kop} {k:Nat} {y:World} (h:Xh l k b x) (hb:Bw x y):Xh l k b y:=by
 obtain⟨D,h1,h2,h3⟩:=h
 refine⟨D,h1.kept (row:=none) ⟨hb.os,hb.tape,hb.output,hb.size,fun i hi _=>hb.block i hi⟩ (by simp),h2,h3⟩
theorem Xh.look {l:List Kop} {k:Nat} (h:Xh l k b x) (s c:Int) (hs:(Lit.int .i64 s).wf=true) (hc:(Lit.int .i64 c).wf=true):(Instr.lookup 216 (.map (some b)) (.agg #[.int .i64 s,.int .i64 c]) false).run prog x=.ok (.int .i64 (Yr l k s c)) x:=by
 obtain⟨D,h1,h2,h3⟩:=h
 obtain⟨kl,hkl⟩:=zp5 s c hs hc
 obtain⟨q,hr,hat,_⟩:=h1.lookup_int (Maps.Keyed.of_law zc9) underlying216 underlying3 (zkr _) hkl
 rw [h3 s c kl hkl] at hat
 injection hat with e1
 injection e1 with _ e2
 rw [hr,e2]
theorem Xh.step {l:List Kop} {k:Nat} (h:Xh l k b x) (hk:k<l.length) (h16:l.length<=16) (s c:Int) (hs:(zp l k).sl=s) (hc:zW (zp l k).o=c) (ws:(Lit.int .i64 s).wf=true) (wc:(Lit.int .i64 c).wf=true) :
  ∃ v0 st w1,(Instr.mapEntry 216 (.map (some b)) (.agg #[.int .i64 s,.int .i64 c])).run prog x=.ok (.tuple #[v0,goInt st]) w1/\x.grownBy w1 (some b)/\(Instr.lookup 216 (.map (some b)) (.agg #[.int .i64 s,.int .i64 c]) false).run prog w1=.ok (.int .i64 (Yr l k s c)) w1 /\
    ∃w3,(Instr.entryStore 216 (.map (some b)) (goInt st) (.int .i64 ((Yr l k s c:Int)+1))).run prog w1=.ok () w3/\w1.grownBy w3 (some b)/\Xh l (k+1) b w3:=by
 have hl:=h.look s c ws wc
 obtain⟨D,h1,h2,h3⟩:=h
 obtain⟨kl,hkl⟩:=zp5 s c ws wc
 have ht16:Yr l k s c<=16:=Nat.le_trans (Xw _ _) (by omega)
 obtain⟨v0,st,w1,e1,e2,e3,e4⟩:=zf4 zc9 underlying216 underlying3 zkr h1 (by unfold maxLen;omega) hkl hl
 obtain⟨w3,f1,f2,f3⟩:=e4 w1 ((Yr l k s c:Int)+1) rfl (WalkArith.wf_i64 (by omega))
 refine⟨v0,st,w1,e1,e2,e3,w3,f1,f2,D.put kl (.lit (.int .i64 ((Yr l k s c:Int)+1))),f3,h2.put _ _,fun s' c' kl' hkl'=>?_⟩
 by_cases e:kl'=kl
 ·subst e
  have hv:=zc9.inj hkl hkl'
  injection hv with hv
  have hv2:s=s'/\c=c':=by simpa using hv
  obtain⟨rfl,rfl⟩:=hv2
  rw [Maps.atKey_put_same h2 ((Maps.Keyed.of_law zc9).key hkl'),UH,if_pos ⟨hs,hc⟩]
  rfl
 ·rw [Maps.atKey_put_other e,h3 s' c' kl' hkl',UH,if_neg fun h=>e ?_]
  have:s'=s/\c'=c:=⟨h.1.symm.trans hs,h.2.symm.trans hc⟩
  rw [this.1,this.2,hkl] at hkl'
  exact (Option.some.inj hkl').symm
theorem zu7 (n:Int):goInt n=iV n:=rfl
theorem zwm (t:Tg) (c:Nat) (hc:c<3) (w:World) (x:World) (h:x.heap[w.heap.size]?=some (.cells #[iV t.u0,iV t.u1,iV t.u2,iV t.w0,iV t.w1,iV t.w2,iV t.r] 28 (0,0))):x.cell? (ad w.heap.size c)=sI (ye t c):=by
 rw [cell_of_block h]
 obtain rfl | rfl | rfl:c=0\/c=1\/c=2:=by omega
 all_goals rfl
theorem zsu (p0 p1 p2 q0 q1 q2 r pc st:Int) (ops:List Kop) (ka:Option Addr) (kc:Nat) (w:World) (hK:Zf w (.slice ka ops.length kc) ops) (h16:ops.length<=16) (hsl:∀x∈ops,0<=x.sl/\x.sl<=1000) :
  Calls prog 116 #[(tv p0 p1 p2 q0 q1 q2 r),.agg #[iV pc,iV st,.slice ka ops.length kc]] w (Rt w (.bool (VP ⟨p0,p1,p2,q0,q1,q2,r⟩ ops))):=by
 obtain⟨ka',kc',hk1,hk2,hk3,hkc⟩:=hK
 injection hk1 with e1 e2 e3
 subst e1;subst e3
 unfold maxLen at hk3
 have HKC:=z9 hkc
 have HSL:=z9 hsl
 have hmm:=@run_makeMap prog
 have H0:Hid (Xh ops 0 (w.heap.size+1+1) (((w.alloc (.cells #[iV p0,iV p1,iV p2,iV q0,iV q1,iV q2,iV r] 28)).alloc (.cells #[iV pc,iV st,.slice ka ops.length kc] 31)).alloc (.map #[] 0))):=by
  show Xh _ _ _ _
  have h:=World.ownsMap_made (H:=Unit) ((w.alloc (.cells #[iV p0,iV p1,iV p2,iV q0,iV q1,iV q2,iV r] 28)).alloc (.cells #[iV pc,iV st,.slice ka ops.length kc] 31)) prog 218 (plainElem prog 3)
  have e:((w.alloc (.cells #[iV p0,iV p1,iV p2,iV q0,iV q1,iV q2,iV r] 28)).alloc (.cells #[iV pc,iV st,.slice ka ops.length kc] 31)).heap.size=w.heap.size+1+1:=by simp
  rw [e] at h
  exact⟨_,h,Maps.isMap_empty,fun s c kl _=>rfl⟩
 clear hkc hsl e2
 go_enter func116,ntmps116
 go_wp2_with fail
 go_loopw [13] (fun i wr=>∃k:Nat,k<=ops.length/\i=iV k/\zC (fun i=>decide ((zdu ops i:Int)<=ye ⟨p0,p1,p2,q0,q1,q2,r⟩ (zW (zp ops i).o))) k=true/\Below (w.heap.size+1+1) ((w.alloc (.cells #[iV p0,iV p1,iV p2,iV q0,iV q1,iV q2,iV r] 28)).alloc (.cells #[iV pc,iV st,.slice ka ops.length kc] 31)) wr/\Xh ops k (w.heap.size+1+1) wr) (fun i _=>ops.length - (intOf i).toNat)
 case atStart=>exact⟨0,Nat.zero_le _,rfl,rfl,(Below.refl _ _).alloc (by simp) _,H0.out⟩
 case round =>
  clear H0 hmm
  obtain⟨k,hk,rfl,hall,gH,hM⟩:=hrel
  have HA:=z9 hall
  have HB:=z9 gH
  have HM:=z9 hM
  have hbw:Bw w wr:=(below_alloc2 _ _ _).trans (gH.mono (by omega))
  have hsz:w.heap.size+1+1<=wr.heap.size:=by have:=gH.size;simp at this;omega
  clear hall hM
  by_cases hkl:k<ops.length
  ·have hki:(k:Int)<(ops.length:Int):=by omega
   obtain⟨ob,oo,rfl,hob,hocell⟩:=HKC.out (by omega)
   obtain⟨c0,c1,c2,c3,c4,c5,c6,c7,c8,c9⟩:=ten (hocell k hkl)
   rw [<-zf hbw _ _ hob] at c0 c1 c2 c3 c4 c5 c6 c7 c8 c9
   have hobz:ob<wr.heap.size:=by omega
   have HBW:=z9 hbw
   obtain⟨s0,s1⟩:=HSL.out _ (zad hkl)
   obtain⟨cn,hcn,hcn3⟩:∃cn:Nat,zW (zp ops k).o=(cn:Int)/\cn<3:=by
    rcases XG (zp ops k).o with h | h | h
    ·exact⟨0,h,by omega⟩
    ·exact⟨1,h,by omega⟩
    ·exact⟨2,h,by omega⟩
   have HTG:Hid (∀x,Below (w.heap.size+1+1) wr x->x.cell? (ad w.heap.size cn)=sI (ye ⟨p0,p1,p2,q0,q1,q2,r⟩ cn)):=fun x hx=>zwm ⟨p0,p1,p2,q0,q1,q2,r⟩ cn hcn3 w x (by
    rw [hx.block _ (by omega),HB.out.block _ (by omega),Below.heap_alloc _ _ _ (by simp)]
    exact yA _ _ _)
   have HSTEP:=z9 (fun (x:World) (h:Xh ops k (w.heap.size+1+1) x)=>h.step hkl h16 _ cn rfl hcn (WalkArith.wf_i64 (by omega)) (WalkArith.wf_i64 (by omega)))
   have HLOOK:=z9 (fun (x:World) (h:Xh ops k (w.heap.size+1+1) x)=>h.look (zp ops k).sl cn (WalkArith.wf_i64 (by omega)) (WalkArith.wf_i64 (by omega)))
   have HLOOK2:=z9 (fun (x:World) (h:Xh ops (k+1) (w.heap.size+1+1) x)=>h.look (zp ops k).sl cn (WalkArith.wf_i64 (by omega)) (WalkArith.wf_i64 (by omega)))
   have HCL:Hid (∀W,Calls prog 139 #[iV (zp ops k).o] W fun e w'=>e=.returned (iV cn)/\w'=W):=fun W=>by rw [<-hcn];exact VZ _ _
   have hcc:Yr ops (k+1) (zp ops k).sl cn=Yr ops k (zp ops k).sl cn+1:=by rw [UH,if_pos ⟨rfl,hcn⟩]
   have HSO:Hid (zdu ops k=Yr ops k (zp ops k).sl cn+1):=by show _=_;rw [<-hcc,<-hcn,zwg]
   have hcc16:Yr ops k (zp ops k).sl cn<=16:=Nat.le_trans (Xw _ _) (by omega)
   rw [hcc] at HLOOK2
   have HUN:Hid (ye ⟨p0,p1,p2,q0,q1,q2,r⟩ (zW (zp ops k).o)=ye ⟨p0,p1,p2,q0,q1,q2,r⟩ cn):=by show _=_;rw [hcn]
   generalize Yr ops k (zp ops k).sl cn=cc at *
   generalize ye ⟨p0,p1,p2,q0,q1,q2,r⟩ (cn:Int)=un at *
   clear hcn hcc hocell hbw gH
   have HXX:Hid (∃xk,zp ops k=xk):=⟨_,rfl⟩
   generalize hxk:zp ops k=xk at *
   have HXK:=z9 hxk
   clear hxk HXX
   obtain⟨sl,sg,o,d,a,b,ar,sp,pl,nn⟩:=xk
   simp only at c0 c1 c2 c3 c4 c5 c6 c7 c8 c9 s0 s1 HSTEP HLOOK HLOOK2 HCL HSO HUN
   go_wp2_with fail
   clear c0 c1 c2 c3 c4 c5 c6 c7 c8 c9
   go_region_held3 (fun w'=>w'.cell? (ad wr.heap.size 0)=sI sl/\w'.cell? (ad wr.heap.size 2)=sI o) ((go_keep;done)) (first | (go_at_call 139;refine (HCL.out _).mono ?_;rintro e w' ⟨rfl,hw'⟩;have hw':=hw'.symm;subst hw'))
   all_goals
    have HY:=z9 (HM.out.gE ((below_alloc2 wr (.cells #[iV sl,iV sg,iV o,iV d,iV a,iV b,iV ar,iV sp,iV pl,iV nn] 37) (.cells #[iV sl,iV cn] 218)).drew.drew))
    have hblt:w.heap.size+1+1<wr.heap.size:=by obtain⟨D,h1,_⟩:=HM.out;exact h1.lt
    obtain⟨v0,stp,w1,e1,e2,e3,w3,f1,f2,f3⟩:=HSTEP.out _ HY.out
    rw [zu7] at e1 f1
    have hcn3i:(cn:Int)<3:=by omega
    have hwr:IntKind.i64.wrap ((cc:Int)+1)=(cc:Int)+1:=zfb _ (by omega) (by omega)
    have HBY:Hid (((wr.alloc (.cells #[iV sl,iV sg,iV o,iV d,iV a,iV b,iV ar,iV sp,iV pl,iV nn] 37)).alloc (.cells #[iV sl,iV cn] 218)).heap[wr.heap.size+1]?=some (.cells #[iV sl,iV cn] 218 (0,0))):=by
     show _=_
     have e:(wr.alloc (.cells #[iV sl,iV sg,iV o,iV d,iV a,iV b,iV ar,iV sp,iV pl,iV nn] 37)).heap.size=wr.heap.size+1:=by simp
     rw [<-e];exact yA _ _ _
    have HB1:Hid (w1.heap[wr.heap.size+1]?=some (.cells #[iV sl,iV cn] 218 (0,0))):=by show _=_;rw [e2.block _ (by simp) (by intro e;have:=Option.some.inj e;omega)];exact HBY.out
    have HB3:Hid (w3.heap[wr.heap.size+1]?=some (.cells #[iV sl,iV cn] 218 (0,0))):=by show _=_;rw [f2.block _ (Array.getElem?_eq_some_iff.1 HB1.out).1 (by intro e;have:=Option.some.inj e;omega)];exact HB1.out
    have HW3:Hid (Below (w.heap.size+1+1) wr w3):=(((((below_alloc2 wr (.cells #[iV sl,iV sg,iV o,iV d,iV a,iV b,iV ar,iV sp,iV pl,iV nn] 37) (.cells #[iV sl,iV cn] 218)).drew.drew).mono (by omega)).grown e2 (by simp;omega) (fun q hq=>by have:=Option.some.inj hq;omega)).grown f2 (by have:=e2.size;simp at this;omega) (fun q hq=>by have:=Option.some.inj hq;omega))
    have HM3:=z9 f3
    have c60:w1.cell? (ad (wr.heap.size+1) 0)=sI sl/\w1.cell? (ad (wr.heap.size+1) 1)=sI cn/\(Instr.lookup 216 (.map (some (w.heap.size+1+1))) (.agg #[iV sl,iV cn]) false).run prog w1=.ok (iV cc) w1:=⟨by rw [cell_of_block HB1.out];rfl,by rw [cell_of_block HB1.out];rfl,e3⟩
    have H60:=z9 c60
    have H7:Hid (w3.drew.cell? (ad (wr.heap.size+1) 0)=sI sl/\w3.drew.cell? (ad (wr.heap.size+1) 1)=sI cn/\w3.drew.cell? (ad w.heap.size cn)=sI un/\(Instr.lookup 216 (.map (some (w.heap.size+1+1))) (.agg #[iV sl,iV cn]) false).run prog w3.drew=.ok (iV ((cc:Int)+1)) w3.drew):=⟨by show w3.cell? _=_;rw [cell_of_block HB3.out];rfl,by show w3.cell? _=_;rw [cell_of_block HB3.out];rfl,HTG.out _ HW3.out.drew,by have h:=HLOOK2.out _ (HM3.out.gE (Below.refl _ _).drew);rw [Int.natCast_add] at h;exact h⟩
    clear f3 e2 e3 f2 c60
    go_wp2_with fail
    refine wp_region_noPanic ?_
    refine zm 6 (fun w'=>w'.cell? (ad (wr.heap.size+1) 0)=sI sl/\w'.cell? (ad (wr.heap.size+1) 1)=sI cn/\(Instr.lookup 216 (.map (some (w.heap.size+1+1))) (.agg #[iV sl,iV cn]) false).run prog w'=.ok (iV cc) w') (by kernel_rfl) (⟨by rw [cell_of_block (w:=((wr.alloc (.cells #[iV sl,iV sg,iV o,iV d,iV a,iV b,iV ar,iV sp,iV pl,iV nn] 37)).alloc (.cells #[iV sl,iV cn] 218)).drew.drew) HBY.out];rfl,by rw [cell_of_block (w:=((wr.alloc (.cells #[iV sl,iV sg,iV o,iV d,iV a,iV b,iV ar,iV sp,iV pl,iV nn] 37)).alloc (.cells #[iV sl,iV cn] 218)).drew.drew) HBY.out];rfl,HLOOK.out _ HY.out⟩) (fun h9=>?_)
    refine uk 0 h9 ?_
    refine uk 1 h9 ?_
    refine uk 2 h9 ?_
    refine uk 3 h9 ?_
    refine ze (i:=4) rfl (by kernel_rfl) (fun K hK=>?_)
    go_simp
    refine nxt hK.out (.inr H60.out) ?_
    clear hK K h9
    have h9:=H60.out
    refine uk 5 h9 ?_
    refine ze (i:=6) rfl (by kernel_rfl) (fun K hK=>?_)
    go_simp
    refine nxt hK.out (.inl rfl) ?_
    clear hK K h9
    refine zq (by kernel_rfl) ?_ _
    refine NoPanic.normal ?_
    clear e1 f1
    by_cases hgt:un<(cc:Int)+1
    ·have hgt2:decide (un<(cc:Int)+1)=true:=decide_eq_true hgt
     have HF:Hid (VP ⟨p0,p1,p2,q0,q1,q2,r⟩ ops=false):=zZ hkl (decide_eq_false (by rw [HXK.out,HSO.out,HUN.out];omega))
     go_wp2_with fail
     refine wp_region_noPanic ?_
     refine zm 99 (fun w'=>w'.cell? (ad (wr.heap.size+1) 0)=sI sl/\w'.cell? (ad (wr.heap.size+1) 1)=sI cn/\w'.cell? (ad w.heap.size cn)=sI un/\(Instr.lookup 216 (.map (some (w.heap.size+1+1))) (.agg #[iV sl,iV cn]) false).run prog w'=.ok (iV (cc+1)) w') (by kernel_rfl) H7.out (fun h9=>?_)
     refine uk 0 h9 ?_
     refine uk 1 h9 ?_
     refine uk 2 h9 ?_
     refine uk 3 h9 ?_
     refine uk 4 h9 ?_
     refine uk 5 h9 ?_
     refine uk 6 h9 ?_
     refine uk 7 h9 ?_
     refine uk 8 h9 ?_
     refine zq (by kernel_rfl) ?_ _
     refine NoPanic.normal ?_
     go_wp2_with fail
     go_ret
     exact⟨zg HF.out.symm,HBW.out.trans ((HW3.out.drew).mono (by omega))⟩
    ·have hgt2:decide (un<(cc:Int)+1)=false:=decide_eq_false hgt
     have HT:Hid (decide ((zdu ops k:Int)<=ye ⟨p0,p1,p2,q0,q1,q2,r⟩ (zW (zp ops k).o))=true):=decide_eq_true (by rw [HXK.out,HSO.out,HUN.out];omega)
     go_wp2_with fail
     refine wp_region_noPanic ?_
     refine zm 99 (fun w'=>w'.cell? (ad (wr.heap.size+1) 0)=sI sl/\w'.cell? (ad (wr.heap.size+1) 1)=sI cn/\w'.cell? (ad w.heap.size cn)=sI un/\(Instr.lookup 216 (.map (some (w.heap.size+1+1))) (.agg #[iV sl,iV cn]) false).run prog w'=.ok (iV (cc+1)) w') (by kernel_rfl) H7.out (fun h9=>?_)
     refine uk 0 h9 ?_
     refine uk 1 h9 ?_
     refine uk 2 h9 ?_
     refine uk 3 h9 ?_
     refine uk 4 h9 ?_
     refine uk 5 h9 ?_
     refine uk 6 h9 ?_
     refine uk 7 h9 ?_
     refine uk 8 h9 ?_
     refine zq (by kernel_rfl) ?_ _
     refine NoPanic.normal ?_
     go_wp2_with fail
     go_roundw
     case rel=>exact⟨k+1,by omega,by go_num,yl HA.out HT.out,HB.out.trans HW3.out.drew,HM3.out.gE (Below.refl _ _).drew⟩
     case measure=>simp [intOf];omega
  ·have e:k=ops.length:=by omega
   subst e
   have hki:¬(ops.length:Int)<(ops.length:Int):=by omega
   have HBW:=z9 hbw
   clear hbw gH
   go_wp2_with fail
   go_ret
   exact⟨zg HA.out.symm,HBW.out⟩
theorem Tryz.i41:(prog.info? 41).map (fun i=>(i.zero,i.size,i.bytes))=some (some (.agg #[iV 0,iV 0,iV 0,iV 0,iV 0,iV 0,iV 0,iV 0,iV 0]),9,72):=by kernel_rfl
def zd2 (l:List St):List Value:=l.flatMap fun x=>(zP x).toList
theorem zm0 (l:List St) (x:St):zd2 l++(zP x).toList=zd2 (l++[x]):=by unfold zd2;simp
theorem zqe (l:List St):∀i j,i<l.length->j<9->(zd2 l)[i*9+j]?=(zP (zc l i))[j]?:=by
 induction l with
 | nil=>intro i c h;exact absurd h (Nat.not_lt_zero _)
 | cons d l ih =>
   intro i j h hj
   show ((zP d).toList++zd2 l)[i*9+j]?=_
   have h3:(zP d).toList.length=9:=rfl
   cases i with
   | zero =>
     rw [List.getElem?_append_left (by omega),Nat.zero_mul,Nat.zero_add,Array.getElem?_toList]
     rfl
   | succ i =>
     rw [List.getElem?_append_right (by omega),h3,show (i+1)*9+j - 9=i*9+j from by omega,ih i j (by simpa using h) hj]
     rfl
theorem zsl {l:List St} (h:w.ownsRow base 41 9 v l.length (zd2 l)):zev w v l:=by
 obtain⟨hl,h⟩:=h
 rcases h with ⟨rfl,hn⟩ | ⟨g,cap,cur,rfl,hg,hb,hn,hm,hc,ht⟩
 ·exact⟨none,0,by rw [hn],by omega,Nat.zero_le _,fun hp=>by omega⟩
 ·refine⟨_,cap,rfl,hn,hm,fun _=>⟨g,0,rfl,(Array.getElem?_eq_some_iff.1 hb).1,fun i hi j hj=>?_⟩⟩
  rw [cell_of_block hb,<-zqe l i j hi hj,<-ht,List.getElem?_take,if_pos (by omega),Nat.zero_add]
  simp
theorem zmn (w:World) (e:TypeId) (sz:Nat):(w.alloc (.cells #[] e)).ownsRow w.heap.size e sz (.slice (pA w.heap.size) 0 0) 0 []:=by
 refine⟨by simp,.inr ⟨w.heap.size,0,#[],rfl,Nat.le_refl _,?_,Nat.le_refl _,Nat.zero_le _,by simp,by simp⟩⟩
 show (w.heap.push _)[w.heap.size]?=_
 simp
theorem zpd (l:List Kop) (k:Nat) (h:k<l.length):Z6 (l.take (k+1))=Z6 (l.take k)++[stK (zp l k)]:=by
 have h1:l[k]?=some (zp l k):=by unfold zp;rw [List.getD,List.getElem?_eq_getElem h];rfl
 unfold Z6
 rw [List.take_add_one,h1,List.map_append]
 rfl
theorem zy7 (w:World) (x:St) {B:Nat} (hB:w.heap.size=B):∀(j:Nat) (u:Value),(zP x).toList[j]?=some u->(w.alloc (.cells (zP x) 41)).cell? (((ad B 0):Addr).add j)=some u:=by
 subst hB
 intro j u hj
 have ha:((ad w.heap.size 0):Addr).add j=(ad w.heap.size j):=by simp [Addr.add];omega
 rw [ha,cell_of_block (yA _ _ _)]
 simpa using hj
theorem zva {x:St} {u:Value} (h:u∈(zP x).toList):u.oneCell'=true:=by
 unfold zP at h
 simp at h
 rcases h with rfl | rfl | rfl | rfl | rfl | rfl | rfl | rfl | rfl <;> rfl
theorem zqg (p0 p1 p2 q0 q1 q2 r pc st:Int) (ops:List Kop) (ka:Option Addr) (kc:Nat) (la:Option Addr) (lc:Nat) (logs:List Int) (w:World) (hK:Zf w (.slice ka ops.length kc) ops) (hLG:zK w (.slice la logs.length lc) logs) (h:16<ops.length):Calls prog 65 #[(tv p0 p1 p2 q0 q1 q2 r),.agg #[iV pc,iV st,.slice ka ops.length kc],.slice la logs.length lc] w (Rt w (.bool false)):=by
 obtain⟨ka',kc',hk1,hk2,hk3,hkc⟩:=hK
 injection hk1 with e1 e2 e3
 subst e1;subst e3
 unfold maxLen at hk3
 have hi:(16:Int)<(ops.length:Int):=by omega
 clear hkc e2
 go_enter func65,ntmps65
 go_wp2_with fail
 go_ret
 exact⟨rfl,below_alloc2 _ _ _⟩
theorem zj8 (p0 p1 p2 q0 q1 q2 r pc st:Int) (ops:List Kop) (ka:Option Addr) (kc:Nat) (la:Option Addr) (lc:Nat) (logs:List Int) (w:World) (hK:Zf w (.slice ka ops.length kc) ops) (hLG:zK w (.slice la logs.length lc) logs) (h:ops.length<=16) (ht:yj ⟨p0,p1,p2,q0,q1,q2,r⟩=false):Calls prog 65 #[(tv p0 p1 p2 q0 q1 q2 r),.agg #[iV pc,iV st,.slice ka ops.length kc],.slice la logs.length lc] w (Rt w (.bool false)):=by
 obtain⟨ka',kc',hk1,hk2,hk3,hkc⟩:=hK
 injection hk1 with e1 e2 e3
 subst e1;subst e3
 unfold maxLen at hk3
 have hi:¬(16:Int)<(ops.length:Int):=by omega
 have HT:=z9 (fun W=>ht ▸ Y9 p0 p1 p2 q0 q1 q2 r W)
 clear hkc e2 ht
 go_enter func65,ntmps65
 go_wp2_with fail
 refine (HT.out _).mono ?_
 rintro e x1 ⟨rfl,hb⟩
 have HB:=z9 ((below_alloc2 w _ _).trans (hb.mono (by simp;omega)))
 clear hb HT
 go_wp2_with fail
 go_ret
 exact⟨rfl,HB.out⟩
theorem zff (p0 p1 p2 q0 q1 q2 r pc st:Int) (ops:List Kop) (ka:Option Addr) (kc:Nat) (la:Option Addr) (lc:Nat) (logs:List Int) (w:World) (hK:Zf w (.slice ka ops.length kc) ops) (hLG:zK w (.slice la logs.length lc) logs) (h:ops.length<=16) (ht:yj ⟨p0,p1,p2,q0,q1,q2,r⟩=true) (hp:inR pc 1 200=false\/(inR pc 1 200=true/\inR st 1 1001=false)):Calls prog 65 #[(tv p0 p1 p2 q0 q1 q2 r),.agg #[iV pc,iV st,.slice ka ops.length kc],.slice la logs.length lc] w (Rt w (.bool false)):=by
 obtain⟨ka',kc',hk1,hk2,hk3,hkc⟩:=hK
 injection hk1 with e1 e2 e3
 subst e1;subst e3
 unfold maxLen at hk3
 have hi:¬(16:Int)<(ops.length:Int):=by omega
 have HT:=z9 (fun W=>ht ▸ Y9 p0 p1 p2 q0 q1 q2 r W)
 clear hkc e2 ht
 rcases hp with hp | ⟨hp,hs⟩
 all_goals
  go_enter func65,ntmps65
  go_wp2_with fail
  refine (HT.out _).mono ?_
  rintro e x1 ⟨rfl,hb⟩
  have HB:=z9 ((below_alloc2 w (.cells #[iV p0,iV p1,iV p2,iV q0,iV q1,iV q2,iV r] 28) (.cells #[iV pc,iV st,.slice ka ops.length kc] 31)).trans (hb.mono (by simp;omega)))
  have k0:x1.cell? (ad (w.heap.size+1) 0)=sI pc:=by rw [zf hb _ _ (by simp)];go_simp
  have k1:x1.cell? (ad (w.heap.size+1) 1)=sI st:=by rw [zf hb _ _ (by simp)];go_simp
  clear hb HT
  go_wp2_with (go_at_call 66;refine (zH _ _ _ _).mono ?_;rintro e w' ⟨rfl,hw'⟩;have hw':=hw'.symm;subst hw')
  go_ret
  exact⟨rfl,HB.out⟩
theorem zqh (p0 p1 p2 q0 q1 q2 r pc st:Int) (ops:List Kop) (ka:Option Addr) (kc:Nat) (la:Option Addr) (lc:Nat) (logs:List Int) (w:World) (hK:Zf w (.slice ka ops.length kc) ops) (hLG:zK w (.slice la logs.length lc) logs) (h16:ops.length<=16) (ht:yj ⟨p0,p1,p2,q0,q1,q2,r⟩=true) (hp:inR pc 1 200=true) (hs:inR st 1 1001=true):Calls prog 65 #[(tv p0 p1 p2 q0 q1 q2 r),.agg #[iV pc,iV st,.slice ka ops.length kc],.slice la logs.length lc] w (Rt w (.bool (zC (fun i=>xv pc st (zp ops i) && YY r (zp ops i)) ops.length && zY ⟨logs,Z6 ops,[]⟩ && VP ⟨p0,p1,p2,q0,q1,q2,r⟩ ops))):=by
 have HKV:=z9 hK
 have HLV:=z9 hLG
 obtain⟨ka',kc',hk1,hk2,hk3,hkc⟩:=hK
 injection hk1 with e1 e2 e3
 subst e1;subst e3
 unfold maxLen at hk3
 have hi16:¬(16:Int)<(ops.length:Int):=by omega
 obtain⟨hp1,hp2⟩:=zx.1 hp
 obtain⟨hs1,hs2⟩:=zx.1 hs
 have hr12:=(ym ht).2.2.2
 obtain⟨hr1,hr2⟩:=hr12
 simp only at hr1 hr2
 obtain⟨i0,hi,hz0,hz1,hz2⟩:=info_parts Tryz.i41
 have HT:=z9 (fun W=>ht ▸ Y9 p0 p1 p2 q0 q1 q2 r W)
 have HTM:Hid (∀x W,Calls prog 113 #[.agg #[iV pc,iV st,.slice ka ops.length kc],.agg (yS x)] W (Rt W (.bool (xv pc st x)))):=fun x W=>zkp pc st _ x.sl x.sg x.o x.d x.a x.b x.ar x.sp x.pl x.nn W hp1 hp2 hs1 hs2
 have HRM:Hid (∀x W,Calls prog 114 #[(tv p0 p1 p2 q0 q1 q2 r),.agg (yS x)] W (Rt W (.bool (YY r x)))):=fun x W=>zbc p0 p1 p2 q0 q1 q2 r x.sl x.sg x.o x.d x.a x.b x.ar x.sp x.pl x.nn W hr1 hr2
 have HKC:=z9 hkc
 clear hkc e2 ht
 go_enter func65,ntmps65
 go_wp2_with fail
 refine (HT.out _).mono ?_
 rintro e x1 ⟨rfl,hb⟩
 have HB:=z9 ((below_alloc2 w (.cells #[iV p0,iV p1,iV p2,iV q0,iV q1,iV q2,iV r] 28) (.cells #[iV pc,iV st,.slice ka ops.length kc] 31)).trans (hb.mono (by simp;omega)))
 have HBX:Hid (x1.heap[w.heap.size]?=some (.cells #[iV p0,iV p1,iV p2,iV q0,iV q1,iV q2,iV r] 28 (0,0))/\x1.heap[w.heap.size+1]?=some (.cells #[iV pc,iV st,.slice ka ops.length kc] 31 (0,0))):=by
  refine⟨?_,?_⟩
  ·rw [hb.block _ (by simp;omega),Below.heap_alloc _ _ _ (by simp)];exact yA _ _ _
  ·rw [hb.block _ (by simp)]
   have e:(w.alloc (.cells #[iV p0,iV p1,iV p2,iV q0,iV q1,iV q2,iV r] 28)).heap.size=w.heap.size+1:=by simp
   rw [<-e];exact yA _ _ _
 have k0:x1.cell? (ad (w.heap.size+1) 0)=sI pc:=by rw [cell_of_block HBX.out.2];rfl
 have k1:x1.cell? (ad (w.heap.size+1) 1)=sI st:=by rw [cell_of_block HBX.out.2];rfl
 have k2:x1.cell? (ad (w.heap.size+1) 2)=some (.slice ka ops.length kc):=by rw [cell_of_block HBX.out.2];rfl
 have hz:w.heap.size+1<x1.heap.size:=by have:=hb.size;simp at this;omega
 clear hb HT
 go_wp2_with (go_at_call 66;refine (zH _ _ _ _).mono ?_;rintro e w' ⟨rfl,hw'⟩;have hw':=hw'.symm;subst hw')
 go_loopw [7,33] (fun bv i wr=>∃k:Nat,k<=ops.length/\i=iV k/\zC (fun i=>xv pc st (zp ops i) && YY r (zp ops i)) k=true/\Bw x1 wr/\∃ba bc,bv=.slice ba k bc/\wr.ownsRow x1.heap.size 41 9 (.slice ba k bc) k (zd2 (Z6 (ops.take k)))) (fun _ i _=>ops.length - (intOf i).toNat)
 case atStart=>exact⟨0,Nat.zero_le _,rfl,rfl,below_alloc1 _ _,_,0,rfl,zmn x1 41 9⟩
 case round =>
  clear k0 k1 k2
  obtain⟨k,hk,rfl,hall,gH,ba,bc,rfl,gJ⟩:=hrel
  have HA:=z9 hall
  have HBL:=z9 gH
  have HO:=z9 gJ
  have hsz:=gH.size
  have HBW:=z9 (HB.out.trans (gH.mono (by omega)))
  have gT:Hid (wr.heap[w.heap.size]?=some (.cells #[iV p0,iV p1,iV p2,iV q0,iV q1,iV q2,iV r] 28 (0,0))/\wr.heap[w.heap.size+1]?=some (.cells #[iV pc,iV st,.slice ka ops.length kc] 31 (0,0))):=⟨by rw [gH.block _ (by omega)];exact HBX.out.1,by rw [gH.block _ (by omega)];exact HBX.out.2⟩
  clear hall gJ gH
  by_cases hkl:k<ops.length
  ·have hki:(k:Int)<(ops.length:Int):=by omega
   obtain⟨ob,oo,rfl,hob,hocell⟩:=HKC.out (by omega)
   obtain⟨c0,c1,c2,c3,c4,c5,c6,c7,c8,c9⟩:=ten (hocell k hkl)
   rw [<-zf HBW.out _ _ hob] at c0 c1 c2 c3 c4 c5 c6 c7 c8 c9
   have hobz:ob<wr.heap.size:=by have:=HBW.out.size;omega
   have HSN:=z9 (zpd ops k hkl)
   have HSM:=z9 (zeq (zp ops k))
   have HTK:=z9 (HTM.out (zp ops k))
   have HRK:=z9 (HRM.out (zp ops k))
   have HNO:Hid (∀b,(xv pc st (zp ops k) && YY r (zp ops k))=b->b=false->zC (fun i=>xv pc st (zp ops i) && YY r (zp ops i)) ops.length=false):=fun b h1 h2=>zZ hkl (h1.trans h2)
   have HYES:Hid ((xv pc st (zp ops k) && YY r (zp ops k))=true->zC (fun i=>xv pc st (zp ops i) && YY r (zp ops i)) (k+1)=true):=fun h=>yl HA.out h
   clear hocell
   obtain⟨xk,hxk⟩:∃xk,zp ops k=xk:=⟨_,rfl⟩
   rw [hxk] at c0 c1 c2 c3 c4 c5 c6 c7 c8 c9 HSN HSM HTK HRK HNO HYES
   clear hxk
   obtain⟨vT,hvT⟩:∃b,xv pc st xk=b:=⟨_,rfl⟩
   obtain⟨vR,hvR⟩:∃b,YY r xk=b:=⟨_,rfl⟩
   rw [hvT] at HTK HNO HYES
   rw [hvR] at HRK HNO HYES
   have HST:Hid (∃z,stK xk=z):=⟨_,rfl⟩
   obtain⟨zk,hzk⟩:=HST.out
   rw [hzk] at HSM HSN
   clear hvT hvR hzk HST
   obtain⟨sl,sg,o,d,a,b,ar,sp,pl,nn⟩:=xk
   obtain⟨z0,z1,z2,z3,z4,z5,z6,z7,z8⟩:=zk
   simp only at c0 c1 c2 c3 c4 c5 c6 c7 c8 c9
   have HSM2:Hid (∀W,Calls prog 115 #[.agg #[iV sl,iV sg,iV o,iV d,iV a,iV b,iV ar,iV sp,iV pl,iV nn]] W (Rt W (.agg #[iV z0,iV z1,iV z2,iV z3,iV z4,iV z5,iV z6,iV z7,iV z8]))):=HSM.out
   have b0:=cell_of_block gT.out.1
   have b1:=cell_of_block gT.out.2
   have t0:wr.cell? (ad w.heap.size 0)=sI p0:=by rw [b0];rfl
   have t1:wr.cell? (ad w.heap.size 1)=sI p1:=by rw [b0];rfl
   have t2:wr.cell? (ad w.heap.size 2)=sI p2:=by rw [b0];rfl
   have t3:wr.cell? (ad w.heap.size 3)=sI q0:=by rw [b0];rfl
   have t4:wr.cell? (ad w.heap.size 4)=sI q1:=by rw [b0];rfl
   have t5:wr.cell? (ad w.heap.size 5)=sI q2:=by rw [b0];rfl
   have t6:wr.cell? (ad w.heap.size 6)=sI r:=by rw [b0];rfl
   have k0:wr.cell? (ad (w.heap.size+1) 0)=sI pc:=by rw [b1];rfl
   have k1:wr.cell? (ad (w.heap.size+1) 1)=sI st:=by rw [b1];rfl
   have k2:wr.cell? (ad (w.heap.size+1) 2)=some (.slice (some (ad ob oo)) ops.length kc):=by rw [b1];rfl
   have hzw:w.heap.size+1<wr.heap.size:=by omega
   have hzw0:w.heap.size<wr.heap.size:=by omega
   clear b0 b1
   go_wp2_with fail
   refine (HTK.out _).mono ?_
   rintro e x2 ⟨rfl,hb2⟩
   have hc2:=zf hb2
   have HX2:=z9 ((below_alloc1 wr (.cells #[iV sl,iV sg,iV o,iV d,iV a,iV b,iV ar,iV sp,iV pl,iV nn] 37)).trans (hb2.mono (by simp)))
   have hx2:=UA (show x2.heap[wr.heap.size]?=some (.cells #[iV sl,iV sg,iV o,iV d,iV a,iV b,iV ar,iV sp,iV pl,iV nn] 37 (0,0)) by rw [hb2.block _ (by simp)];exact yA _ _ _)
   have hzx2:wr.heap.size<x2.heap.size:=by have:=hb2.size;simp at this;omega
   have hc3:=zf HX2.out
   rw [<-hc3 _ _ hzw0] at t0 t1 t2 t3 t4 t5 t6
   clear hb2 hc2 hc3 c0 c1 c2 c3 c4 c5 c6 c7 c8 c9 k0 k1 k2
   cases vT with
   | false =>
     have HF:=z9 (HNO.out _ rfl rfl)
     go_wp2_with fail
     go_ret
     refine⟨zg ?_,HBW.out.trans (HX2.out.mono HBW.out.size)⟩
     rw [HF.out];rfl
   | true =>
     obtain⟨x20,x21,x22,x23,x24,x25,x26,x27,x28,x29⟩:=hx2
     go_wp2_with fail
     refine (HRK.out _).mono ?_
     rintro e x3 ⟨rfl,hb3⟩
     have HX3:=z9 (HX2.out.trans (hb3.mono HX2.out.size))
     have hc3:=zf hb3
     rw [<-hc3 _ _ hzx2] at x20 x21 x22 x23 x24 x25 x26 x27 x28 x29
     have hz3:wr.heap.size<x3.heap.size:=by have:=hb3.size;omega
     clear hb3 hc3 t0 t1 t2 t3 t4 t5 t6
     cases vR with
     | false =>
       have HF:=z9 (HNO.out _ rfl rfl)
       go_wp2_with fail
       go_ret
       refine⟨zg ?_,HBW.out.trans (HX3.out.mono HBW.out.size)⟩
       rw [HF.out];rfl
     | true =>
       have HY:=z9 (HYES.out rfl)
       go_wp2_with fail
       refine (HSM2.out _).mono ?_
       rintro e x4 ⟨rfl,hb4⟩
       have HX4:=z9 (HX3.out.trans (hb4.mono HX3.out.size))
       have HO4:=z9 (zA HO.out (HX4.out.alloc HX4.out.size (.cells #[iV z0,iV z1,iV z2,iV z3,iV z4,iV z5,iV z6,iV z7,iV z8] 41)))
       have hz4:x1.heap.size<=x4.heap.size:=by have:=HX4.out.size;omega
       clear hb4
       go_wp2_with (at_builtin;refine wpList_append_own _ rfl (.tmp 47) (.tmp 50) 23 rfl x1.heap.size 41 i0 (.agg #[iV 0,iV 0,iV 0,iV 0,iV 0,iV 0,iV 0,iV 0,iV 0]) 9 72 underlying23 hi hz0 hz1 hz2 rfl (by decide) _ _ _ rfl HO4.out (ad x4.heap.size 0) 1 1 (zP ⟨z0,z1,z2,z3,z4,z5,z6,z7,z8⟩).toList rfl rfl (by exact zy7 x4 ⟨z0,z1,z2,z3,z4,z5,z6,z7,z8⟩ rfl) (by intro u hu;exact zva hu) (by unfold maxLen;omega) (by omega) (by simp;omega) ?_;intro v1 w5 gM gL hnil1;obtain⟨ba2,bc2,rfl,-,-⟩:=zS gM;have HO5:=z9 gM;have HG5:=z9 gL;clear gM gL hnil1)
       go_roundw
       case rel =>
        refine⟨k+1,by omega,by go_num,HY.out,?_,ba2,bc2,rfl,?_⟩
        ·exact ((HBL.out.trans (HX4.out.mono hsz)).alloc (by omega) _).grown HG5.out (by simp;omega) (zG HO.out)
        ·rw [HSN.out,<-zm0];exact HO5.out
       case measure=>simp [intOf];omega
  ·have e:k=ops.length:=by omega
   subst e
   rw [List.take_length] at HO
   have hki:¬(ops.length:Int)<(ops.length:Int):=by omega
   have HLW:Hid (zE wr (.agg #[.slice la logs.length lc,.slice ba ops.length bc,.slice none 0 0]) ⟨logs,Z6 ops,[]⟩):=by
    refine⟨_,_,_,rfl,HLV.out.gE HBW.out,?_,none,0,rfl,Nat.le_refl _,Nat.zero_le _,fun i hi=>absurd hi (Nat.not_lt_zero _),fun hp=>absurd hp (Nat.not_lt_zero _)⟩
    have h:=HO.out
    rw [<-VY ops] at h ⊢
    exact zsl h
   have HSLO:Hid (∀x∈ops,0<=x.sl/\x.sl<=1000):=fun x hx=>by
    obtain⟨i,hi,rfl⟩:=List.mem_iff_getElem.1 hx
    have h:=zo HA.out i hi
    have e:zp ops i=ops[i]:=by unfold zp;rw [List.getD,List.getElem?_eq_getElem hi];rfl
    rw [e] at h
    simp only [Bool.and_eq_true] at h
    have h1:=h.1
    unfold xv at h1
    simp only [Bool.and_eq_true] at h1
    have h2:=zx.1 h1.1.1
    omega
   have b0:=cell_of_block gT.out.1
   have b1:=cell_of_block gT.out.2
   have t0:wr.cell? (ad w.heap.size 0)=sI p0:=by rw [b0];rfl
   have t1:wr.cell? (ad w.heap.size 1)=sI p1:=by rw [b0];rfl
   have t2:wr.cell? (ad w.heap.size 2)=sI p2:=by rw [b0];rfl
   have t3:wr.cell? (ad w.heap.size 3)=sI q0:=by rw [b0];rfl
   have t4:wr.cell? (ad w.heap.size 4)=sI q1:=by rw [b0];rfl
   have t5:wr.cell? (ad w.heap.size 5)=sI q2:=by rw [b0];rfl
   have t6:wr.cell? (ad w.heap.size 6)=sI r:=by rw [b0];rfl
   have k0:wr.cell? (ad (w.heap.size+1) 0)=sI pc:=by rw [b1];rfl
   have k1:wr.cell? (ad (w.heap.size+1) 1)=sI st:=by rw [b1];rfl
   have k2:wr.cell? (ad (w.heap.size+1) 2)=some (.slice ka ops.length kc):=by rw [b1];rfl
   have hzw:w.heap.size+1<wr.heap.size:=by omega
   have hzw0:w.heap.size<wr.heap.size:=by omega
   obtain⟨vM,hvM⟩:∃b,zY ⟨logs,Z6 ops,[]⟩=b:=⟨_,rfl⟩
   obtain⟨vU,hvU⟩:∃b,VP ⟨p0,p1,p2,q0,q1,q2,r⟩ ops=b:=⟨_,rfl⟩
   have HLM:Hid (Calls prog 52 #[.agg #[.slice la logs.length lc,.slice ba ops.length bc,.slice none 0 0]] wr (Rt wr (.bool vM))):=by
    show Calls _ _ _ _ _
    rw [<-hvM]
    exact Yh _ _ wr HLW.out
   have HUM:Hid (∀x,Bw wr x->Calls prog 116 #[(tv p0 p1 p2 q0 q1 q2 r),.agg #[iV pc,iV st,.slice ka ops.length kc]] x (Rt x (.bool vU))):=fun x hx=>by
    rw [<-hvU]
    exact zsu p0 p1 p2 q0 q1 q2 r pc st ops ka kc x (HKV.out.gE (HBW.out.trans (hx.mono HBW.out.size))) h16 HSLO.out
   have HFIN:Hid ((zC (fun i=>xv pc st (zp ops i) && YY r (zp ops i)) ops.length && zY ⟨logs,Z6 ops,[]⟩ && VP ⟨p0,p1,p2,q0,q1,q2,r⟩ ops)=(vM && vU)):=by show _=_;rw [HA.out,hvM,hvU];rfl
   clear b0 b1 hvM hvU
   cases vM with
   | false =>
     go_wp2_with fail
     refine HLM.out.mono ?_
     rintro e x2 ⟨rfl,hb2⟩
     have HX2:=z9 (HBW.out.trans (hb2.mono HBW.out.size))
     clear hb2
     go_wp2_with fail
     go_ret
     exact⟨zg (by rw [HFIN.out];rfl),HX2.out⟩
   | true =>
     go_wp2_with fail
     refine HLM.out.mono ?_
     rintro e x2 ⟨rfl,hb2⟩
     have HX2:=z9 (HBW.out.trans (hb2.mono HBW.out.size))
     have HU2:=z9 (HUM.out x2 hb2)
     have hc2:=zf hb2
     rw [<-hc2 _ _ hzw0] at t0 t1 t2 t3 t4 t5 t6
     rw [<-hc2 _ _ hzw] at k0 k1 k2
     clear hb2 hc2
     go_wp2_with fail
     refine HU2.out.mono ?_
     rintro e x3 ⟨rfl,hb3⟩
     have HX3:=z9 (HX2.out.trans (hb3.mono HX2.out.size))
     clear hb3
     go_wp2_with fail
     go_ret
     exact⟨zg (by rw [HFIN.out];rfl),HX3.out⟩
theorem zfe (t:Tg) (kv:Value) (K:Kn) (la:Option Addr) (lc:Nat) (logs:List Int) (w:World) (hK:xF w kv K) (hL:zK w (.slice la logs.length lc) logs) :
  Calls prog 65 #[.agg t.cells,kv,.slice la logs.length lc] w (Rt w (.bool (Yv t K logs))):=by
 obtain⟨p0,p1,p2,q0,q1,q2,r⟩:=t
 obtain⟨pc,st,ops⟩:=K
 obtain⟨ov,rfl,hO⟩:=hK
 have hO2:=hO
 obtain⟨ka,kc,rfl,-⟩:=hO
 rw [<-zqw]
 by_cases h16:ops.length<=16
 ·cases ht:yj ⟨p0,p1,p2,q0,q1,q2,r⟩ with
  | false =>
    have e:zby ⟨p0,p1,p2,q0,q1,q2,r⟩ ⟨pc,st,ops⟩ logs=false:=by unfold zby;rw [ht];simp
    rw [e]
    exact zj8 p0 p1 p2 q0 q1 q2 r pc st ops ka kc la lc logs w hO2 hL h16 ht
  | true =>
    cases hp:inR pc 1 200 with
    | false =>
      have e:zby ⟨p0,p1,p2,q0,q1,q2,r⟩ ⟨pc,st,ops⟩ logs=false:=by unfold zby;rw [show inR (Kn.pc ⟨pc,st,ops⟩) 1 200=false from hp];simp
      rw [e]
      exact zff p0 p1 p2 q0 q1 q2 r pc st ops ka kc la lc logs w hO2 hL h16 ht (.inl hp)
    | true =>
      cases hs:inR st 1 1001 with
      | false =>
        have e:zby ⟨p0,p1,p2,q0,q1,q2,r⟩ ⟨pc,st,ops⟩ logs=false:=by unfold zby;rw [show inR (Kn.st ⟨pc,st,ops⟩) 1 1001=false from hs];simp
        rw [e]
        exact zff p0 p1 p2 q0 q1 q2 r pc st ops ka kc la lc logs w hO2 hL h16 ht (.inr ⟨hp,hs⟩)
      | true =>
        have e:zby ⟨p0,p1,p2,q0,q1,q2,r⟩ ⟨pc,st,ops⟩ logs=(zC (fun i=>xv pc st (zp ops i) && YY r (zp ops i)) ops.length && zY ⟨logs,Z6 ops,[]⟩ && VP ⟨p0,p1,p2,q0,q1,q2,r⟩ ops):=by
         unfold zby
         rw [ht,show inR (Kn.pc ⟨pc,st,ops⟩) 1 200=true from hp,show inR (Kn.st ⟨pc,st,ops⟩) 1 1001=true from hs,show decide ((Kn.ops ⟨pc,st,ops⟩).length<=16)=true from decide_eq_true h16]
         rfl
        rw [e]
        exact zqh p0 p1 p2 q0 q1 q2 r pc st ops ka kc la lc logs w hO2 hL h16 ht hp hs
 ·have e:zby ⟨p0,p1,p2,q0,q1,q2,r⟩ ⟨pc,st,ops⟩ logs=false:=by unfold zby;rw [show decide ((Kn.ops ⟨pc,st,ops⟩).length<=16)=false from decide_eq_false h16];simp
  rw [e]
  exact zqg p0 p1 p2 q0 q1 q2 r pc st ops ka kc la lc logs w hO2 hL (by omega)
section
set_option maxRecDepth 100000
theorem X6:Lib.len8tab.size=256:=by kernel_rfl
theorem zm6 (n:Int) (w:World) (h0:0<=n) (hn:n<=18446744073709551615):Calls prog 153 #[.int .u64 n] w fun e w'=>∃r,e=.returned (iV r)/\w'=w:=by
 have hsz:=X6
 go_enter func153,ntmps153
 go_wp2
 all_goals first
  | (go_ret;exact⟨_,rfl,rfl⟩)
  | (exfalso;omega)
theorem zus (n:Nat) (w:World) (hn:n<=9223372036854775807):Calls prog 112 #[.int .u64 n] w fun e w'=>∃r,e=.returned (iV r)/\w'=w:=by
 have H:=z9 (zm6 n w (by omega) (by omega))
 go_enter func112,ntmps112
 go_wp2_with fail
 refine H.out.mono ?_
 rintro e w' ⟨r,rfl,rfl⟩
 go_wp2_with fail
 go_ret
 exact⟨_,rfl,rfl⟩
theorem zxy (w:World):Calls prog 153 #[.int .u64 1] w fun e w'=>e=.returned (iV 1)/\w'=w:=by
 have hsz:=X6
 have htb:Lib.len8 1=1:=by rw [Lib.len8_of _ (by omega) (by omega)];decide
 go_enter func153,ntmps153
 go_wp2_with fail
 go_ret
 exact⟨rfl,rfl⟩
theorem yb9 (w:World):Calls prog 112 #[.int .u64 1] w fun e w'=>e=.returned (iV 1)/\w'=w:=by
 have H:=z9 (zxy w)
 go_enter func112,ntmps112
 go_wp2_with fail
 refine H.out.mono ?_
 rintro e w' ⟨rfl,rfl⟩
 go_wp2_with fail
 go_ret
 exact⟨rfl,rfl⟩
theorem zxz (w:World):Calls prog 153 #[.int .u64 2] w fun e w'=>e=.returned (iV 2)/\w'=w:=by
 have hsz:=X6
 have htb:Lib.len8 2=2:=by rw [Lib.len8_of _ (by omega) (by omega)];decide
 go_enter func153,ntmps153
 go_wp2_with fail
 go_ret
 exact⟨rfl,rfl⟩
theorem yba (w:World):Calls prog 112 #[.int .u64 2] w fun e w'=>e=.returned (iV 2)/\w'=w:=by
 have H:=z9 (zxz w)
 go_enter func112,ntmps112
 go_wp2_with fail
 refine H.out.mono ?_
 rintro e w' ⟨rfl,rfl⟩
 go_wp2_with fail
 go_ret
 exact⟨rfl,rfl⟩
theorem zy0 (w:World):Calls prog 153 #[.int .u64 4] w fun e w'=>e=.returned (iV 3)/\w'=w:=by
 have hsz:=X6
 have htb:Lib.len8 4=3:=by rw [Lib.len8_of _ (by omega) (by omega)];decide
 go_enter func153,ntmps153
 go_wp2_with fail
 go_ret
 exact⟨rfl,rfl⟩
theorem ybb (w:World):Calls prog 112 #[.int .u64 4] w fun e w'=>e=.returned (iV 3)/\w'=w:=by
 have H:=z9 (zy0 w)
 go_enter func112,ntmps112
 go_wp2_with fail
 refine H.out.mono ?_
 rintro e w' ⟨rfl,rfl⟩
 go_wp2_with fail
 go_ret
 exact⟨rfl,rfl⟩
theorem zy1 (w:World):Calls prog 153 #[.int .u64 8] w fun e w'=>e=.returned (iV 4)/\w'=w:=by
 have hsz:=X6
 have htb:Lib.len8 8=4:=by rw [Lib.len8_of _ (by omega) (by omega)];decide
 go_enter func153,ntmps153
 go_wp2_with fail
 go_ret
 exact⟨rfl,rfl⟩
theorem ybc (w:World):Calls prog 112 #[.int .u64 8] w fun e w'=>e=.returned (iV 4)/\w'=w:=by
 have H:=z9 (zy1 w)
 go_enter func112,ntmps112
 go_wp2_with fail
 refine H.out.mono ?_
 rintro e w' ⟨rfl,rfl⟩
 go_wp2_with fail
 go_ret
 exact⟨rfl,rfl⟩
theorem zuq (w:World):Calls prog 153 #[.int .u64 16] w fun e w'=>e=.returned (iV 5)/\w'=w:=by
 have hsz:=X6
 have htb:Lib.len8 16=5:=by rw [Lib.len8_of _ (by omega) (by omega)];decide
 go_enter func153,ntmps153
 go_wp2_with fail
 go_ret
 exact⟨rfl,rfl⟩
theorem ya6 (w:World):Calls prog 112 #[.int .u64 16] w fun e w'=>e=.returned (iV 5)/\w'=w:=by
 have H:=z9 (zuq w)
 go_enter func112,ntmps112
 go_wp2_with fail
 refine H.out.mono ?_
 rintro e w' ⟨rfl,rfl⟩
 go_wp2_with fail
 go_ret
 exact⟨rfl,rfl⟩
theorem zur (w:World):Calls prog 153 #[.int .u64 32] w fun e w'=>e=.returned (iV 6)/\w'=w:=by
 have hsz:=X6
 have htb:Lib.len8 32=6:=by rw [Lib.len8_of _ (by omega) (by omega)];decide
 go_enter func153,ntmps153
 go_wp2_with fail
 go_ret
 exact⟨rfl,rfl⟩
theorem ya7 (w:World):Calls prog 112 #[.int .u64 32] w fun e w'=>e=.returned (iV 6)/\w'=w:=by
 have H:=z9 (zur w)
 go_enter func112,ntmps112
 go_wp2_with fail
 refine H.out.mono ?_
 rintro e w' ⟨rfl,rfl⟩
 go_wp2_with fail
 go_ret
 exact⟨rfl,rfl⟩
theorem zjd (n:Nat):(n=1/\xQ n=0)\/(n=2/\xQ n=1)\/(n=4/\xQ n=2)\/(n=8/\xQ n=3)\/(n=16/\xQ n=4)\/(n=32/\xQ n=5)\/(xQ n=6/\n≠1/\n≠2/\n≠4/\n≠8/\n≠16/\n≠32):=by
 by_cases h1:n=1
 ·subst h1;exact .inl ⟨rfl,rfl⟩
 by_cases h2:n=2
 ·subst h2;exact .inr (.inl ⟨rfl,rfl⟩)
 by_cases h3:n=4
 ·subst h3;exact .inr (.inr (.inl ⟨rfl,rfl⟩))
 by_cases h4:n=8
 ·subst h4;exact .inr (.inr (.inr (.inl ⟨rfl,rfl⟩)))
 by_cases h5:n=16
 ·subst h5;exact .inr (.inr (.inr (.inr (.inl ⟨rfl,rfl⟩))))
 by_cases h6:n=32
 ·subst h6;exact .inr (.inr (.inr (.inr (.inr (.inl ⟨rfl,rfl⟩)))))
 refine .inr (.inr (.inr (.inr (.inr (.inr ⟨?_,h1,h2,h3,h4,h5,h6⟩)))))
 unfold xQ
 rw [if_neg h1,if_neg h2,if_neg h3,if_neg h4,if_neg h5,if_neg h6]
def zcd (w:World) (M:List (List Int)) (e:Ending) (w':World):Prop :=
 ∃lv,e=.returned (.tuple #[lv,.bool (Zx M && decide (M.length<=3))])/\(Zx M=true->M.length<=3->w'.ownsRow w.heap.size 3 1 lv (zN M).length ((zN M).map (Value.int .i64)))/\(∃la ll lc,lv=.slice la ll lc)/\Bw w w'
theorem zcd.no {M:List (List Int)} (h:Zx M=false\/¬M.length<=3) (hb:Bw w w'):zcd w M (.returned (.tuple #[.slice none 0 0,.bool false])) w':=by
 refine⟨.slice none 0 0,?_,fun e1 e2=>?_,⟨_,_,_,rfl⟩,hb⟩
 ·rcases h with h | h
  ·rw [h];rfl
  ·rw [decide_eq_false h,Bool.and_false]
 ·rcases h with h | h
  ·rw [h] at e1;cases e1
  ·exact absurd e2 h
theorem zrn (v:Value) (M:List (List Int)) (w:World) (h:yo w v M) :
  Calls prog 64 #[v] w fun e w'=>zcd w M e w':=by
 obtain⟨ma,mcap,rfl,ml,mm,mc⟩:=h
 unfold maxLen at mm
 obtain⟨i0,hi,hz0,hz1,hz2⟩:=info_parts Tryz.i3
 have HMC:=z9 mc
 clear mc
 by_cases h3:M.length<=3
 ·have h3i:¬(3:Int)<(M.length:Int):=by omega
  have HD:Hid (decide (M.length<=3)=true):=decide_eq_true h3
  go_enter func64,ntmps64
  go_wp2_with fail
  go_loopw [4,14] (fun l i wr=>∃k:Nat,k<=M.length/\i=.int .i64 k/\zC (fun i=>zd4 (zv M i)) k=true/\Bw w wr/\∃la lc,l=.slice la k lc/\wr.ownsRow w.heap.size 3 1 (.slice la k lc) k (((zN M).take k).map (Value.int .i64))) (fun _ i _=>M.length - (intOf i).toNat)
  case atStart=>exact⟨0,Nat.zero_le _,rfl,rfl,below_alloc1 _ _,_,0,rfl,U8 w 3⟩
  case round =>
   obtain⟨k,hk,rfl,hall,gH,la,lc,rfl,gJ⟩:=hrel
   have HA:=z9 hall
   have HB:=z9 gH
   have HO:=z9 gJ
   have hsz:=gH.size
   clear hall gJ
   by_cases hlt:k<M.length
   ·have hki:(k:Int)<(M.length:Int):=by omega
    obtain⟨b,off,rfl,hb,gI⟩:=HMC.out (by omega)
    obtain⟨u,hu,⟨ra,rc,rfl,rl,rm,rr,rcell⟩⟩:=gI k hlt
    rw [<-zf gH _ _ hb] at hu
    have hbz:b<wr.heap.size:=by omega
    unfold maxLen at rm
    clear rr rcell gI gH
    have HTK:=z9 (zqq M k hlt)
    have HLG:Hid (∀b,zd4 (zv M k)=b->decide (xQ (zv M k).length<6)=b):=fun b h=>h
    have HNO:Hid (xQ (zv M k).length=6->Zx M=false):=fun h=>zZ hlt (by show decide (xQ _<6)=false;rw [h];rfl)
    have HYES:Hid (xQ (zv M k).length<6->zd4 (zv M k)=true):=fun h=>decide_eq_true h
    obtain⟨n,hn⟩:∃n,(zv M k).length=n:=⟨_,rfl⟩
    rw [hn] at hu HTK HNO HYES rl
    clear hn HLG
    rename World=>wo
    rcases zjd n with ⟨rfl,hg⟩ | ⟨rfl,hg⟩ | ⟨rfl,hg⟩ | ⟨rfl,hg⟩ | ⟨rfl,hg⟩ | ⟨rfl,hg⟩ | ⟨hg,n1,n2,n4,n8,n16,n32⟩
    ·have hin:inR 0 0 5=true:=rfl
     have HG:=z9 hg
     clear hg
     go_wp2_with (first
      | (go_at_call 112;refine (yb9 _).mono ?_;rintro e w' ⟨rfl,hw'⟩;have hw':=hw'.symm;subst hw')
      | (go_at_call 66;refine (zH _ _ _ _).mono ?_;rintro e w' ⟨rfl,hw'⟩;have hw':=hw'.symm;subst hw')
      | (at_builtin;refine wpList_append_own _ rfl (.tmp 33) (.tmp 35) 22 rfl w.heap.size 3 i0 (.int .i64 0) 1 8 underlying22 hi hz0 hz1 hz2 rfl (by decide) _ _ _ rfl (zA HO.out (below_alloc1 _ _)) (ad wo.heap.size 0) 1 1 [.int .i64 0] rfl rfl (by exact xU _ _ _) (by intro u hu;simp at hu;subst hu;rfl) (by unfold maxLen;omega) (by omega) (by simp;omega) ?_;intro v1 w1 gM gL hnil1;obtain⟨g1,gB,rfl,-,-,-,-⟩:=yx gM (.inr (by omega));have HO2:=z9 gM;have HG2:=z9 gL;clear gM gL hnil1))
     go_roundw
     case rel =>
      refine⟨k+1,by omega,by go_num,yl HA.out (HYES.out (by rw [HG.out];omega)),?_,_,_,rfl,?_⟩
      ·exact (HB.out.alloc (by omega) _).grown HG2.out (by simp;omega) (yc HO.out)
      ·rw [<-HTK.out,HG.out];exact HO2.out
     case measure=>simp [intOf];omega
    ·have hin:inR 1 0 5=true:=rfl
     have HG:=z9 hg
     clear hg
     go_wp2_with (first
      | (go_at_call 112;refine (yba _).mono ?_;rintro e w' ⟨rfl,hw'⟩;have hw':=hw'.symm;subst hw')
      | (go_at_call 66;refine (zH _ _ _ _).mono ?_;rintro e w' ⟨rfl,hw'⟩;have hw':=hw'.symm;subst hw')
      | (at_builtin;refine wpList_append_own _ rfl (.tmp 33) (.tmp 35) 22 rfl w.heap.size 3 i0 (.int .i64 0) 1 8 underlying22 hi hz0 hz1 hz2 rfl (by decide) _ _ _ rfl (zA HO.out (below_alloc1 _ _)) (ad wo.heap.size 0) 1 1 [.int .i64 1] rfl rfl (by exact xU _ _ _) (by intro u hu;simp at hu;subst hu;rfl) (by unfold maxLen;omega) (by omega) (by simp;omega) ?_;intro v1 w1 gM gL hnil1;obtain⟨g1,gB,rfl,-,-,-,-⟩:=yx gM (.inr (by omega));have HO2:=z9 gM;have HG2:=z9 gL;clear gM gL hnil1))
     go_roundw
     case rel =>
      refine⟨k+1,by omega,by go_num,yl HA.out (HYES.out (by rw [HG.out];omega)),?_,_,_,rfl,?_⟩
      ·exact (HB.out.alloc (by omega) _).grown HG2.out (by simp;omega) (yc HO.out)
      ·rw [<-HTK.out,HG.out];exact HO2.out
     case measure=>simp [intOf];omega
    ·have hin:inR 2 0 5=true:=rfl
     have HG:=z9 hg
     clear hg
     go_wp2_with (first
      | (go_at_call 112;refine (ybb _).mono ?_;rintro e w' ⟨rfl,hw'⟩;have hw':=hw'.symm;subst hw')
      | (go_at_call 66;refine (zH _ _ _ _).mono ?_;rintro e w' ⟨rfl,hw'⟩;have hw':=hw'.symm;subst hw')
      | (at_builtin;refine wpList_append_own _ rfl (.tmp 33) (.tmp 35) 22 rfl w.heap.size 3 i0 (.int .i64 0) 1 8 underlying22 hi hz0 hz1 hz2 rfl (by decide) _ _ _ rfl (zA HO.out (below_alloc1 _ _)) (ad wo.heap.size 0) 1 1 [.int .i64 2] rfl rfl (by exact xU _ _ _) (by intro u hu;simp at hu;subst hu;rfl) (by unfold maxLen;omega) (by omega) (by simp;omega) ?_;intro v1 w1 gM gL hnil1;obtain⟨g1,gB,rfl,-,-,-,-⟩:=yx gM (.inr (by omega));have HO2:=z9 gM;have HG2:=z9 gL;clear gM gL hnil1))
     go_roundw
     case rel =>
      refine⟨k+1,by omega,by go_num,yl HA.out (HYES.out (by rw [HG.out];omega)),?_,_,_,rfl,?_⟩
      ·exact (HB.out.alloc (by omega) _).grown HG2.out (by simp;omega) (yc HO.out)
      ·rw [<-HTK.out,HG.out];exact HO2.out
     case measure=>simp [intOf];omega
    ·have hin:inR 3 0 5=true:=rfl
     have HG:=z9 hg
     clear hg
     go_wp2_with (first
      | (go_at_call 112;refine (ybc _).mono ?_;rintro e w' ⟨rfl,hw'⟩;have hw':=hw'.symm;subst hw')
      | (go_at_call 66;refine (zH _ _ _ _).mono ?_;rintro e w' ⟨rfl,hw'⟩;have hw':=hw'.symm;subst hw')
      | (at_builtin;refine wpList_append_own _ rfl (.tmp 33) (.tmp 35) 22 rfl w.heap.size 3 i0 (.int .i64 0) 1 8 underlying22 hi hz0 hz1 hz2 rfl (by decide) _ _ _ rfl (zA HO.out (below_alloc1 _ _)) (ad wo.heap.size 0) 1 1 [.int .i64 3] rfl rfl (by exact xU _ _ _) (by intro u hu;simp at hu;subst hu;rfl) (by unfold maxLen;omega) (by omega) (by simp;omega) ?_;intro v1 w1 gM gL hnil1;obtain⟨g1,gB,rfl,-,-,-,-⟩:=yx gM (.inr (by omega));have HO2:=z9 gM;have HG2:=z9 gL;clear gM gL hnil1))
     go_roundw
     case rel =>
      refine⟨k+1,by omega,by go_num,yl HA.out (HYES.out (by rw [HG.out];omega)),?_,_,_,rfl,?_⟩
      ·exact (HB.out.alloc (by omega) _).grown HG2.out (by simp;omega) (yc HO.out)
      ·rw [<-HTK.out,HG.out];exact HO2.out
     case measure=>simp [intOf];omega
    ·have hin:inR 4 0 5=true:=rfl
     have HG:=z9 hg
     clear hg
     go_wp2_with (first
      | (go_at_call 112;refine (ya6 _).mono ?_;rintro e w' ⟨rfl,hw'⟩;have hw':=hw'.symm;subst hw')
      | (go_at_call 66;refine (zH _ _ _ _).mono ?_;rintro e w' ⟨rfl,hw'⟩;have hw':=hw'.symm;subst hw')
      | (at_builtin;refine wpList_append_own _ rfl (.tmp 33) (.tmp 35) 22 rfl w.heap.size 3 i0 (.int .i64 0) 1 8 underlying22 hi hz0 hz1 hz2 rfl (by decide) _ _ _ rfl (zA HO.out (below_alloc1 _ _)) (ad wo.heap.size 0) 1 1 [.int .i64 4] rfl rfl (by exact xU _ _ _) (by intro u hu;simp at hu;subst hu;rfl) (by unfold maxLen;omega) (by omega) (by simp;omega) ?_;intro v1 w1 gM gL hnil1;obtain⟨g1,gB,rfl,-,-,-,-⟩:=yx gM (.inr (by omega));have HO2:=z9 gM;have HG2:=z9 gL;clear gM gL hnil1))
     go_roundw
     case rel =>
      refine⟨k+1,by omega,by go_num,yl HA.out (HYES.out (by rw [HG.out];omega)),?_,_,_,rfl,?_⟩
      ·exact (HB.out.alloc (by omega) _).grown HG2.out (by simp;omega) (yc HO.out)
      ·rw [<-HTK.out,HG.out];exact HO2.out
     case measure=>simp [intOf];omega
    ·have hin:inR 5 0 5=true:=rfl
     have HG:=z9 hg
     clear hg
     go_wp2_with (first
      | (go_at_call 112;refine (ya7 _).mono ?_;rintro e w' ⟨rfl,hw'⟩;have hw':=hw'.symm;subst hw')
      | (go_at_call 66;refine (zH _ _ _ _).mono ?_;rintro e w' ⟨rfl,hw'⟩;have hw':=hw'.symm;subst hw')
      | (at_builtin;refine wpList_append_own _ rfl (.tmp 33) (.tmp 35) 22 rfl w.heap.size 3 i0 (.int .i64 0) 1 8 underlying22 hi hz0 hz1 hz2 rfl (by decide) _ _ _ rfl (zA HO.out (below_alloc1 _ _)) (ad wo.heap.size 0) 1 1 [.int .i64 5] rfl rfl (by exact xU _ _ _) (by intro u hu;simp at hu;subst hu;rfl) (by unfold maxLen;omega) (by omega) (by simp;omega) ?_;intro v1 w1 gM gL hnil1;obtain⟨g1,gB,rfl,-,-,-,-⟩:=yx gM (.inr (by omega));have HO2:=z9 gM;have HG2:=z9 gL;clear gM gL hnil1))
     go_roundw
     case rel =>
      refine⟨k+1,by omega,by go_num,yl HA.out (HYES.out (by rw [HG.out];omega)),?_,_,_,rfl,?_⟩
      ·exact (HB.out.alloc (by omega) _).grown HG2.out (by simp;omega) (yc HO.out)
      ·rw [<-HTK.out,HG.out];exact HO2.out
     case measure=>simp [intOf];omega
    ·have HL:Hid (Zx M=false):=HNO.out hg
     have b1:((n:Int) == 1)=false:=beq_eq_false_iff_ne.2 (by omega)
     have b2:((n:Int) == 2)=false:=beq_eq_false_iff_ne.2 (by omega)
     have b4:((n:Int) == 4)=false:=beq_eq_false_iff_ne.2 (by omega)
     have b8:((n:Int) == 8)=false:=beq_eq_false_iff_ne.2 (by omega)
     have b16:((n:Int) == 16)=false:=beq_eq_false_iff_ne.2 (by omega)
     have b32:((n:Int) == 32)=false:=beq_eq_false_iff_ne.2 (by omega)
     clear hg n1 n2 n4 n8 n16 n32 HTK HYES HNO
     go_wp2_with fail
     refine (zus n _ (by omega)).mono ?_
     rintro e w' ⟨r,rfl,rfl⟩
     obtain⟨lg,hlg⟩:∃lg,wrap64 (r - 1)=lg:=⟨_,rfl⟩
     cases hin:inR lg 0 5 with
     | false =>
       go_wp2_with (go_at_call 66;refine (zH _ _ _ _).mono ?_;rintro e w' ⟨rfl,rfl⟩)
       exact bodyPost_ret (v:=.tuple #[.slice none 0 0,.bool false]) (by simp [results,results64,go_sem]) rfl (zcd.no (.inl HL.out) HB.out)
     | true =>
       have hlr:=zx.1 hin
       obtain rfl | rfl | rfl | rfl | rfl | rfl:lg=0\/lg=1\/lg=2\/lg=3\/lg=4\/lg=5:=by omega
       all_goals
        clear hlr
        go_wp2_with (go_at_call 66;refine (zH _ _ _ _).mono ?_;rintro e w' ⟨rfl,rfl⟩)
        exact bodyPost_ret (v:=.tuple #[.slice none 0 0,.bool false]) (by simp [results,results64,go_sem]) rfl (zcd.no (.inl HL.out) HB.out)
   ·have e:k=M.length:=by omega
    subst e
    have hki:¬(M.length:Int)<(M.length:Int):=by omega
    have HL:Hid (Zx M=true):=HA.out
    have HO2:Hid (wr.ownsRow w.heap.size 3 1 (.slice la M.length lc) (zN M).length ((zN M).map (Value.int .i64))):=by
     have h:=HO.out
     rw [List.take_of_length_le (by rw [xZ];omega)] at h
     show wr.ownsRow _ _ _ _ (zN M).length _
     rw [xZ];exact h
    clear gH
    go_wp2_with fail
    exact bodyPost_ret (v:=.tuple #[.slice la M.length lc,.bool true]) (by simp [results,results64,go_sem]) rfl ⟨_,by rw [HL.out,HD.out];rfl,fun _ _=>HO2.out,⟨_,_,_,rfl⟩,HB.out⟩
 ·have h3i:(3:Int)<(M.length:Int):=by omega
  have HN3:=z9 h3
  go_enter func64,ntmps64
  go_wp2_with fail
  exact bodyPost_ret (v:=.tuple #[.slice none 0 0,.bool false]) (by simp [results,results64,go_sem]) rfl (zcd.no (.inr HN3.out) (Below.refl _ _))
end
section
theorem zez (v:Value) (zs:List Int) (w:World) (h:zK w v zs) (h0:0<zs.length) (h128:zs.length<=128) :
  Calls prog 67 #[v] w fun e w'=>∃g cap,e=.returned (.slice (pA g) zs.length cap)/\w.heap.size<=g/\cap<=maxLen /\
   xX w' g 2 cap zs.length (fun j=>iV (nth zs j))/\Bw w w':=by
 obtain⟨a,rc,rfl,hl,hm,hr,hc⟩:=h
 unfold maxLen at hm
 obtain⟨b2,o2,rfl,hb2,hcell2⟩:=hc h0
 obtain⟨i0,hi,hz0,hz1,hz2⟩:=info_parts Tryz.i2
 have hq:∀(w:World) (a:Option Addr) (n c n' c':Nat),(binOp .eql 63 (.slice a n c) (.slice none n' c')).run prog w=.ok (.bool a.isNone) w:=fun w a n c n' c'=>Lib.run_eql_slice_nil w _ _ a n c n' c' underlying63
 have hbe:Bw w (w.alloc (.cells #[] 2)):=below_alloc1 _ _
 have N1:Hid ((zs.map (Value.int .i64)).length=zs.length*1):=by show _=_;simp
 have N2:Hid (∀j u,(zs.map (Value.int .i64))[j]?=some u->(w.alloc (.cells #[] 2)).cell? (((ad b2 o2):Addr).add j)=some u):=zg4 (fun i hi=>by
  rw [zf hbe _ _ hb2];exact hcell2 i hi)
 have N3:=z9 (zj6 zs)
 clear hc hcell2 hr
 go_enter func67,ntmps67
 go_wp2_with (at_builtin;refine wpList_append_own _ rfl (.tmp 5) (.tmp 6) 63 rfl w.heap.size 2 i0 (iV 0) 1 8 underlying63 hi hz0 hz1 hz2 rfl (by decide) _ _ _ rfl (U8 w 2) (ad b2 o2) _ rc _ rfl N1.out N2.out N3.out (by unfold maxLen;omega) (by omega) (by simp) ?_;intro v1 w1 gM gL hnil1;obtain⟨g1,gB,rfl,-,-,-,-⟩:=yx gM (.inr (by omega));have HB1:=zbh gL;have HO1:=z9 gM)
 go_ret
 simp only [Nat.zero_add] at HO1 ⊢
 obtain⟨h1,h2,h3⟩:=zvq HO1.out
 refine⟨g1,gB,rfl,h1,h2,h3.congr fun j hj=>?_,HB1⟩
 rw [List.nil_append]
 exact XI zs j hj
def Ul (M:List (List Int)) (i:Nat):Nat:=(zv M i).length
structure Xt (w0:World) (A gr cr:Nat) (R:List Int) (t:Tg) (pc st:Int) (kv lv:Value) (logs:List Int) (gD:Int) (M:List (List Int)) (k:Nat) (mv:Value) (G C:Nat->Nat) (wr:World):Prop where
 bel:Bw w0 wr
 hA:wr.heap[A]?=some (.cells #[iV t.u0,iV t.u1,iV t.u2,iV t.w0,iV t.w1,iV t.w2,iV t.r,iV pc,iV st,kv,lv,.slice (pA gr) R.length cr,mv,iV gD,.slice none 0 0,.slice none 0 0,.slice none 0 0,.slice none 0 0,.slice none 0 0,.slice none 0 0] 128 (0,0))
 hAb:w0.heap.size<=A
 regs:zu wr gr 2 R.length (fun i=>iV (nth R i))
 hr:w0.heap.size<=gr/\R.length<=cr/\cr<=maxLen
 out:wr.ownsRow w0.heap.size 63 1 mv k ((List.range k).map (ZT G C (Ul M)))
 inn:ZY wr w0.heap.size G C k (Ul M) (fun i j=>nth (zv M i) j)
 rM:∀i,i<k->gr≠G i
 lgs:wr.ownsRow w0.heap.size 3 1 lv logs.length (logs.map (Value.int .i64))
variable {w0:World} {A gr cr:Nat} {R:List Int} {t:Tg} {pc st:Int} {kv lv:Value} {logs:List Int} {gD:Int} {M:List (List Int)} {k:Nat} {mv:Value} {G C:Nat->Nat} {wr:World}
theorem Xt.A_lt (h:Xt w0 A gr cr R t pc st kv lv logs gD M k mv G C wr):A<wr.heap.size:=(Array.getElem?_eq_some_iff.1 h.hA).1
theorem Xt.gE (h:Xt w0 A gr cr R t pc st kv lv logs gD M k mv G C wr) (hb:Bw wr x):Xt w0 A gr cr R t pc st kv lv logs gD M k mv G C x where
 bel:=h.bel.trans (hb.mono h.bel.size)
 hA:=by rw [hb.block _ h.A_lt];exact h.hA
 hAb:=h.hAb
 regs:=h.regs.gE hb h.regs.lt
 hr:=h.hr
 out:=yB h.out fun g hg=>hb.block g (zB h.out g hg)
 inn:=h.inn.gE hb
 rM:=h.rM
 lgs:=yB h.lgs fun g hg=>hb.block g (zB h.lgs g hg)
theorem Xt.cell (h:Xt w0 A gr cr R t pc st kv lv logs gD M k mv G C wr):wr.cell? (ad A 12)=some mv:=by rw [cell_of_block h.hA];rfl
theorem Xt.ends (h:Xt w0 A gr cr R t pc st kv lv logs gD M k mv G C wr):wr.cell? (ad A 11)=some (.slice (pA gr) R.length cr)/\wr.cell? (ad A 12)=some mv:=⟨by rw [cell_of_block h.hA];rfl,h.cell⟩
theorem Xt.grown (h:Xt w0 A gr cr R t pc st kv lv logs gD M k mv G C wr) (hg:wr.grownBy w6 mv.ownBlock):w6.cell? (ad A 12)=some mv/\w6.frozen? (ad A 12)=false:=by
 have b:=zai h.out hg h.hA (by decide)
 exact⟨by rw [World.cell?_of_block (a:=(ad A 12)) b];exact h.cell,by simp [World.frozen?,b,h.hA]⟩
theorem Xt.step {g cap g2 gC B0:Nat} (h:Xt w0 A gr cr R t pc st kv lv logs gD M k mv G C wr) (gI:xX wr g 2 cap (Ul M k) (fun j=>iV (nth (zv M k) j))) (hge:w0.heap.size<=g) (hcm:cap<=maxLen) (hgr:gr≠g) (hG:∀i,i<k->G i≠g)
  (gJ:w6.ownsRow w0.heap.size 63 1 (.slice (pA g2) (k+1) gC) (k+1) (((List.range k).map (ZT G C (Ul M)))++[.slice (pA g) (Ul M k) cap])) (hg:wr.grownBy w6 mv.ownBlock) :
  Xt w0 A gr cr R t pc st kv lv logs gD M (k+1) (.slice (pA g2) (k+1) gC) (fun i=>if i=k then g else G i) (fun i=>if i=k then cap else C i) (w6.setCell (ad A 12) (.slice (pA g2) (k+1) gC)):=by
 have bA:=zai h.out hg h.hA (by decide)
 have hfar:∀{q:Nat} {e:TypeId} {n:Nat} {f:Nat->Value},zu wr q e n f->e≠63->w6.heap[q]?=wr.heap[q]?:=fun {q e n f} hr he=>by
  obtain⟨c,hb,_,_⟩:=hr
  exact zai h.out hg hb he
 have hAr:A≠gr:=xC h.hA h.regs (by decide)
 have hAg:A≠g:=xC h.hA gI.row (by decide)
 have hAG:∀i,i<k->A≠G i:=fun i hi=>xC h.hA (h.inn.1 i hi).2.2.2 (by decide)
 refine { bel:=(h.bel.grown hg h.bel.size (zG h.out)).setCell (by show w0.heap.size<=A;exact h.hAb) _,hA:=?_,hAb:=h.hAb,regs:=?_,hr:=h.hr,out:=?_,inn:=?_,rM:=?_,lgs:=?_ }
 ·have hb:w6.heap[A]?=_:=bA.trans h.hA
  simp [World.setCell,Array.getElem?_modify,hb]
 ·exact (h.regs.gG (hfar h.regs (by decide))).gF (by show gr≠A;exact hAr.symm) _
 ·rw [<-zbd]
  exact yB gJ fun q hq=>Below.heap_setCell _ _ _ _ (by
   show q≠A
   intro e
   subst e
   obtain⟨-,hd⟩:=gJ
   rcases hd with ⟨e3,_⟩ | ⟨g',cap',cur,e3,_,hb3,_⟩
   ·cases e3
   ·have e4:g'=q:=by rw [e3] at hq;simpa [Value.ownBlock] using hq
    subst e4
    exact xK (bA.trans h.hA) hb3 (by decide) rfl)
 ·have h1:ZY w6 w0.heap.size G C k (Ul M) (fun i j=>nth (zv M i) j):=h.inn.keep fun i hi=>hfar (h.inn.1 i hi).2.2.2 (by decide)
  have h2:zu w6 g 2 (Ul M k) (fun j=>iV (nth (zv M k) j)):=gI.row.gG (hfar gI.row (by decide))
  have h3:=h1.snoc g cap hge gI.le hcm h2 hG
  refine h3.keep fun i hi=>Below.heap_setCell _ _ _ _ ?_
  show (if i=k then g else G i)≠A
  by_cases e:i=k
  ·rw [if_pos e];exact hAg.symm
  ·rw [if_neg e];exact (hAG i (by omega)).symm
 ·intro i hi
  by_cases e:i=k
  ·simp only [if_pos e];exact hgr
  ·simp only [if_neg e];exact h.rM i (by omega)
 ·have h1:=yB h.lgs fun q hq=>hg.block q (zB h.lgs q hq) (zjs h.lgs h.out (by decide) q hq)
  exact yB h1 fun q hq=>Below.heap_setCell _ _ _ _ (by
   show q≠A
   intro e
   subst e
   obtain⟨-,hd⟩:=h1
   rcases hd with ⟨e3,_⟩ | ⟨g',cap',cur,e3,_,hb3,_⟩
   ·rw [e3] at hq;cases hq
   ·have e4:g'=q:=by rw [e3] at hq;simpa [Value.ownBlock] using hq
    subst e4
    exact xK (bA.trans h.hA) hb3 (by decide) rfl)
def zji (w0 wr:World) (A gr cr:Nat) (R:List Int) (t:Tg) (pc st:Int) (kv lv:Value) (gD:Int) (M:List (List Int)) (mv:Value) (G:Nat->Nat):Mc:=⟨w0,wr,A,t,pc,st,kv,lv,mv,gD,R.length,gr,cr,M.length,Ul M,G⟩
theorem Xt.mach (h:Xt w0 A gr cr R t pc st kv lv logs gD M M.length mv G C wr):yr (zji w0 wr A gr cr R t pc st kv lv gD M mv G) (fun _=>.slice none 0 0) [] (fun i=>nth R i) (fun i j=>nth (zv M i) j) wr where
 bel:=h.bel
 keep:=⟨Nat.le_refl _,fun _ _ _ _ _=>rfl⟩
 hA:=h.hA
 hA1:=⟨h.hAb,h.A_lt⟩
 regs:=h.regs
 hr:=⟨h.hr.1,h.regs.lt,h.hr.2⟩
 min:=fun i hi=>⟨(h.inn.1 i hi).1,(h.inn.1 i hi).2.2.2.lt,(h.inn.1 i hi).2.2.2⟩
 minj:=h.inn.2
 rM:=h.rM
 due:=fun j hj=>World.ownsRow_nil _ _ _ _
 dinj:=fun i j _ _ _ g hg=>by cases hg
 w01:=h.bel.size
theorem Xt.stat (h:Xt w0 A gr cr R t pc st kv lv logs gD M M.length mv G C wr) (hlg:∀i,i<logs.length->-9223372036854775808<=nth logs i/\nth logs i<=9223372036854775807):∃gm cm,∀x,ZZ (zji w0 wr A gr cr R t pc st kv lv gD M mv G) x->zcg (zji w0 wr A gr cr R t pc st kv lv gD M mv G) logs gm cm C x/\(0<M.length->zu x gm 63 M.length (ZT G C (Ul M))/\w0.heap.size<=gm)/\∃am,mv=.slice am M.length cm/\M.length<=cm/\cm<=maxLen:=by
 obtain⟨gm,cm,hMR⟩:=MR.of_copy h.out h.inn
 have far:∀(x:World),ZZ (zji w0 wr A gr cr R t pc st kv lv gD M mv G) x->∀(g:Nat) (cs:Array Value) (e:TypeId),wr.heap[g]?=some (.cells cs e (0,0))->e≠128->e≠2->x.heap[g]?=wr.heap[g]?:=fun x hx g cs e hb h1 h2 =>
  hx.2 g (Array.getElem?_eq_some_iff.1 hb).1 (xK hb h.hA h1) (xC hb h.regs h2) (fun i hi=>xC hb (h.inn.1 i hi).2.2.2 h2)
 refine⟨gm,cm,fun x hx=>?_⟩
 have hlog:x.ownsRow w0.heap.size 3 1 lv logs.length (logs.map (Value.int .i64)):=yB h.lgs fun q hq=>by
  obtain⟨-,hd⟩:=h.lgs
  rcases hd with ⟨e3,_⟩ | ⟨g',cap',cur,e3,_,hb3,_⟩
  ·rw [e3] at hq;cases hq
  ·have e4:g'=q:=by rw [e3] at hq;simpa [Value.ownBlock] using hq
   subst e4
   exact far x hx _ _ _ hb3 (by decide) (by decide)
 have hout:0<M.length->mv=.slice (pA gm) M.length cm/\zu x gm 63 M.length (ZT G C (Ul M))/\w0.heap.size<=gm:=fun hp=>by
  rcases hMR.out with e | ⟨e1,e2,e3⟩
  ·omega
  ·refine⟨e1,?_,e3⟩
   have e4:=e2
   obtain⟨c,hb,_,_⟩:=e2
   exact e4.gG (far x hx _ _ _ hb (by decide) (by decide))
 obtain⟨am,hm1,hm2,hm3⟩:=hMR.shape
 exact⟨⟨za3 hlog hlg,fun hp=>⟨(hout hp).1,hm2,hm3,(hout hp).2.1.lt⟩,fun i hi=>⟨(hout (by show 0<M.length;have:i<M.length:=hi;omega)).2.1.cell hi,(h.inn.1 i hi).2.1,(h.inn.1 i hi).2.2.1⟩⟩,fun hp=>(hout hp).2,am,hm1,hm2,hm3⟩
end
theorem Uk:zbv:=fun t kv K la lc logs w h1 h2=>zfe t kv K la lc logs w h1 h2
def yb5 (w:World) (t:Tg) (K:Kn) (R:List Int) (M:List (List Int)) (gD:Int) (e:Ending) (w':World):Prop :=
 ∃ ra rc ma mc rl ml,e=.returned (.tuple #[.slice ra rl rc,.slice ma ml mc,iV (XD t K R.length M gD)])/\Bw w w' /\
   (XD t K R.length M gD=0->zK w' (.slice ra rl rc) (XA R.length (Zm t K (zN M) gD R M))/\yo w' (.slice ma ml mc) (zap M (Zm t K (zN M) gD R M)))/\(XD t K R.length M gD≠0->rl=0/\ml=0)
theorem zqf {M:List (List Int)} (h:w.ownsRow base 3 1 v (zN M).length ((zN M).map (Value.int .i64))):zK w v (zN M) :=
 za3 h fun i hi=>by
  rw [Y6 M i (by rw [xZ] at hi;exact hi)]
  have:=zd6 (zv M i).length
  omega
theorem XW {p0 p1 p2 q0 q1 q2 r pc st:Int} {ops:List Kop} {ka:Option Addr} {kc:Nat} (h:((x).heap[w.heap.size]?=some (.cells #[iV p0,iV p1,iV p2,iV q0,iV q1,iV q2,iV r] 28 (0,0))/\(x).heap[w.heap.size+1]?=some (.cells #[iV pc,iV st,.slice ka ops.length kc] 31 (0,0)))):(x.cell? (ad w.heap.size 0)=sI p0/\x.cell? (ad w.heap.size 1)=sI p1/\x.cell? (ad w.heap.size 2)=sI p2/\x.cell? (ad w.heap.size 3)=sI q0/\x.cell? (ad w.heap.size 4)=sI q1/\x.cell? (ad w.heap.size 5)=sI q2/\x.cell? (ad w.heap.size 6)=sI r)/\x.cell? (ad (w.heap.size+1) 0)=sI pc/\x.cell? (ad (w.heap.size+1) 1)=sI st/\x.cell? (ad (w.heap.size+1) 2)=some (.slice ka ops.length kc):=by
 have e1:=cell_of_block h.1
 have e2:=cell_of_block h.2
 refine⟨⟨?_,?_,?_,?_,?_,?_,?_⟩,?_,?_,?_⟩
 all_goals first
  | (rw [e1];rfl)
  | (rw [e2];rfl)
theorem zw7 {t:Tg} {R:List Int} {M:List (List Int)} {gD:Int} (hmay:Yv t K (zN M)=true) (hnn:∀x∈K.ops,I64 x.nn) (hR:∀i,I64 (nth R i)) (hM:∀i j,I64 (nth (zv M i) j)) (T:Nat) (hT:T<=30000):(zJ t K (zN M) gD (ZE R M) T).fine t.r:=by
 obtain⟨hmt,hp1,hp2,hs1,hs2,ho1,ho2,hall⟩:=ZC hmay
 refine zq7 (N:=30000) (ym hmt).2.2.2.1 (zbm hR hM) (fun T' hT' k hk=>⟨hnn _ (zad hk),?_⟩) T hT
 obtain⟨-,hsg,-⟩:=zft (hall k hk)
 have h1:0<=(T':Int) / K.pc:=Int.ediv_nonneg (by omega) (by omega)
 have h2:(T':Int) / K.pc<=T':=Int.ediv_le_self _ (by omega)
 unfold I64
 omega
theorem zqt {D:List Du} {f:Nat->Int} {m:Nat->Nat->Int} (hI:yr c V D f m w') (hf:∀i,I64 (f i)):zK w' (.slice (pA c.gr) c.R c.cr) ((List.range c.R).map f):=by
 have hl:((List.range c.R).map f).length=c.R:=by simp
 have hn:∀i,i<c.R->nth ((List.range c.R).map f) i=f i:=fun i hi=>by unfold nth;simp [List.getD,hi]
 refine⟨some (ad c.gr 0),c.cr,by rw [hl],by rw [hl];exact hI.hr.2.2.1,hI.hr.2.2.2,fun i hi=>?_,fun _=>⟨c.gr,0,rfl,hI.regs.lt,fun i hi=>?_⟩⟩
 ·rw [hl] at hi;rw [hn i hi];exact hf i
 ·rw [hl] at hi;rw [hn i hi,Nat.zero_add];exact hI.regs.cell hi
theorem zm8 {D:List Du} {f:Nat->Int} {m:Nat->Nat->Int} {gm cm:Nat} {C:Nat->Nat} {am:Option Addr} (hI:yr c V D f m w') (hm:∀i j,I64 (m i j)) (h1:c.mv=.slice am c.n cm) (h2:c.n<=cm) (h3:cm<=maxLen) (h4:0<c.n->c.mv=.slice (pA gm) c.n cm/\zu w' gm 63 c.n (ZT c.GM C c.lenM)/\c.w0.heap.size<=gm) (hC:∀i,i<c.n->c.lenM i<=C i/\C i<=maxLen) :
  yo w' c.mv ((List.range c.n).map fun i=>(List.range (c.lenM i)).map fun j=>m i j):=by
 have hMR:MR w' c.w0.heap.size c.mv c.n c.lenM m gm cm c.GM C:=⟨⟨am,h1,h2,h3⟩,by
  by_cases e:c.n=0
  ·exact .inl e
  ·exact .inr (h4 (by omega)),fun i hi=>⟨(hI.min i hi).1,(hC i hi).1,(hC i hi).2,(hI.min i hi).2.2⟩,hI.minj⟩
 exact hMR.rows hm
theorem zk8 {wr:World} {A gr cr:Nat} {R:List Int} {t:Tg} {kv lv mv:Value} {gD:Int} {M:List (List Int)} {G C:Nat->Nat} {D:List Du} {s:Kst} (hB:Xt w A gr cr R t K.pc K.st kv lv (zN M) gD M M.length mv G C wr) (hbx:Bw wr x) (hI:yr ((zji w wr A gr cr R t K.pc K.st kv lv gD M mv G).at x) V D s.f s.m w') (hs:Zm t K (zN M) gD R M=s) (hf:s.fine t.r) (hw:XD t K R.length M gD=0)
  {am:Option Addr} {cm:Nat} (hmv:mv=.slice am M.length cm) :
  yb5 w t K R M gD (.returned (.tuple #[.slice (pA gr) R.length cr,.slice am M.length cm,iV 0])) w':=by
 have hlg:∀i,i<(zN M).length->-9223372036854775808<=nth (zN M) i/\nth (zN M) i<=9223372036854775807:=fun i hi=>by
  rw [Y6 M i (by rw [xZ] at hi;exact hi)]
  have:=zd6 (zv M i).length
  omega
 obtain⟨gm,cm',hst⟩:=hB.stat hlg
 obtain⟨hS,gI,am',h1,h2,h3⟩:=hst w' (zoc (c:=zji w wr A gr cr R t K.pc K.st kv lv gD M mv G) hbx hI.keep)
 have e:am'=am/\cm'=cm:=by rw [hmv] at h1;injection h1 with e1 _ e3;exact⟨e1.symm,e3.symm⟩
 obtain⟨rfl,rfl⟩:=e
 refine⟨some (ad gr 0),cr,am',cm',R.length,M.length,by rw [hw],hI.bel,fun _=>?_,fun h=>absurd hw h⟩
 rw [hs]
 refine⟨zqt hI hf.f,?_⟩
 have h:=zm8 hI hf.m h1 h2 h3 (gm:=gm) (C:=C) (fun hp=>⟨(hS.2.1 hp).1,(gI hp).1,(gI hp).2⟩) (fun i hi=>(hS.2.2 i hi).2)
 have hh:yo w' mv (zap M s):=h
 rw [hmv] at hh
 exact hh
theorem zxw (p0 p1 p2 q0 q1 q2 r pc st:Int) (ops:List Kop) (ka:Option Addr) (kc:Nat) (ra:Option Addr) (rc:Nat) (R:List Int) (ma:Option Addr) (mc:Nat) (M:List (List Int)) (gD:Int) (w:World) (hK:xF w (.agg #[iV pc,iV st,.slice ka ops.length kc]) ⟨pc,st,ops⟩) (hR:zK w (.slice ra R.length rc) R) (hM:yo w (.slice ma M.length mc) M) (hf:(Zx M && decide (M.length<=3))=true) (hmay:Yv ⟨p0,p1,p2,q0,q1,q2,r⟩ ⟨pc,st,ops⟩ (zN M)=true) (hr:(R.length:Int)=r) (ht:inR gD 0 200=true) (hnn:∀x∈ops,I64 x.nn) (hlim:gD=0\/(gD+st)*pc<=20000):Calls prog 27 #[(tv p0 p1 p2 q0 q1 q2 r),.agg #[iV pc,iV st,.slice ka ops.length kc],.slice ra R.length rc,.slice ma M.length mc,iV gD] w fun e w'=>yb5 w ⟨p0,p1,p2,q0,q1,q2,r⟩ ⟨pc,st,ops⟩ R M gD e w':=by
 have HKV:=z9 hK
 have HMV:=z9 hM
 have HRV:=z9 hR
 have HB0:Hid (Bw w ((w.alloc (.cells #[iV p0,iV p1,iV p2,iV q0,iV q1,iV q2,iV r] 28)).alloc (.cells #[iV pc,iV st,.slice ka ops.length kc] 31))):=below_alloc2 _ _ _
 have HL:=z9 (zrn (.slice ma M.length mc) M ((w.alloc (.cells #[iV p0,iV p1,iV p2,iV q0,iV q1,iV q2,iV r] 28)).alloc (.cells #[iV pc,iV st,.slice ka ops.length kc] 31)) (hM.gE (below_alloc2 _ _ _)))
 have HBX0:Hid ((((w.alloc (.cells #[iV p0,iV p1,iV p2,iV q0,iV q1,iV q2,iV r] 28)).alloc (.cells #[iV pc,iV st,.slice ka ops.length kc] 31))).heap[w.heap.size]?=some (.cells #[iV p0,iV p1,iV p2,iV q0,iV q1,iV q2,iV r] 28 (0,0))/\(((w.alloc (.cells #[iV p0,iV p1,iV p2,iV q0,iV q1,iV q2,iV r] 28)).alloc (.cells #[iV pc,iV st,.slice ka ops.length kc] 31))).heap[w.heap.size+1]?=some (.cells #[iV pc,iV st,.slice ka ops.length kc] 31 (0,0))):=by
  refine⟨?_,?_⟩
  ·rw [Below.heap_alloc _ _ _ (by simp)];exact yA _ _ _
  ·have e:(w.alloc (.cells #[iV p0,iV p1,iV p2,iV q0,iV q1,iV q2,iV r] 28)).heap.size=w.heap.size+1:=by simp
   rw [<-e];exact yA _ _ _
 have hz0:w.heap.size+1<((w.alloc (.cells #[iV p0,iV p1,iV p2,iV q0,iV q1,iV q2,iV r] 28)).alloc (.cells #[iV pc,iV st,.slice ka ops.length kc] 31)).heap.size:=by simp
 unfold zcd at HL
 rw [hf] at HL
 have hf2:Zx M=true/\M.length<=3:=by simpa using hf
 have hrl:R.length<=9223372036854775807:=by obtain⟨a,c,e,h1,h2,_⟩:=hR;unfold maxLen at h2;omega
 have HMAY:Hid (∀(la:Option Addr) (lc:Nat) W,xF W (.agg #[iV pc,iV st,.slice ka ops.length kc]) ⟨pc,st,ops⟩->zK W (.slice la (zN M).length lc) (zN M)->Calls prog 65 #[(tv p0 p1 p2 q0 q1 q2 r),.agg #[iV pc,iV st,.slice ka ops.length kc],.slice la (zN M).length lc] W (Rt W (.bool true))):=fun la lc W h1 h2=>by
  have h:=zfe ⟨p0,p1,p2,q0,q1,q2,r⟩ _ ⟨pc,st,ops⟩ la lc (zN M) W h1 h2
  rw [hmay] at h
  exact h
 have HF2:=z9 hf2
 have HW:Hid (XD ⟨p0,p1,p2,q0,q1,q2,r⟩ ⟨pc,st,ops⟩ R.length M gD=0):=by
  show _=_
  unfold XD
  rw [if_pos ⟨hf2.1,hmay,hr⟩,if_pos (zx.1 ht)]
 have hrb:((R.length:Int) == r)=true:=by simpa using hr
 have hrn:((R.length:Int) != r)=false:=by simpa using hr
 have HTI:=z9 (fun W=>ht ▸ zH gD 0 200 W)
 obtain⟨ht0,ht2⟩:=zx.1 ht
 have hr12:=(ym (ZC hmay).1).2.2.2
 simp only at hr12
 have hR0:0<R.length:=by omega
 have hR128:R.length<=128:=by omega
 obtain⟨i0,hi,hz0',hz1,hz2⟩:=info_parts Tryz.i63
 have HCL:Hid (∀W,Bw w W->Calls prog 67 #[.slice ra R.length rc] W fun e w'=>∃g cap,e=.returned (.slice (pA g) R.length cap)/\W.heap.size<=g/\cap<=maxLen/\xX w' g 2 cap R.length (fun j=>iV (nth R j))/\Bw W w'):=fun W h=>zez _ R W (HRV.out.gE h) hR0 hR128
 have HROWS:=z9 (zk5 hf2.1)
 have HMAYK:=z9 hmay
 have HNN:=z9 hnn
 have HLIM:=z9 hlim
 have HR1:=z9 hr
 have HM3:Hid (M.length<=3):=hf2.2
 have hM3:M.length<=3:=hf2.2
 have HI64:Hid ((∀i,I64 (nth R i))/\∀i j,I64 (nth (zv M i) j)):=⟨zhk (by obtain⟨a,c,e,h1,h2,h3,_⟩:=hR;exact h3),zt1 hM⟩
 obtain⟨ma',mc',hme,hml,hmm,-⟩:=hM
 injection hme with e1 e2 e3
 subst e1;subst e3
 unfold maxLen at hmm
 clear hK hR hf hmay hf2 hr ht hnn hlim e2 hr12
 go_enter func27,ntmps27
 go_wp2_with fail
 refine HL.out.mono ?_
 rintro e x1 ⟨lv,rfl,hlv,⟨la,ll,lc,rfl⟩,hb⟩
 have HX1:=z9 (HB0.out.trans (hb.mono (by simp;omega)))
 have HBX:Hid ((x1).heap[w.heap.size]?=some (.cells #[iV p0,iV p1,iV p2,iV q0,iV q1,iV q2,iV r] 28 (0,0))/\(x1).heap[w.heap.size+1]?=some (.cells #[iV pc,iV st,.slice ka ops.length kc] 31 (0,0))):=⟨by rw [hb.block _ (by omega)];exact HBX0.out.1,by rw [hb.block _ (by omega)];exact HBX0.out.2⟩
 have hzx:w.heap.size+1<x1.heap.size:=by have:=hb.size;omega
 have HLV:=z9 hlv
 have HZ1:=z9 hb.size
 have HI:=zqf (hlv HF2.out.1 HF2.out.2)
 have hll:ll=(zN M).length:=by
  obtain⟨a,c,e,_⟩:=zS (hlv HF2.out.1 HF2.out.2)
  injection e
 subst hll
 have HLO:Hid (x1.ownsRow w.heap.size 3 1 (.slice la (zN M).length lc) (zN M).length ((zN M).map (Value.int .i64))):=zrg (hlv HF2.out.1 HF2.out.2) (by simp;omega)
 have HC:=z9 (HMAY.out la lc x1 (HKV.out.gE HX1.out) HI)
 have t0:x1.cell? (ad w.heap.size 0)=sI p0:=by rw [cell_of_block HBX.out.1];rfl
 have t1:x1.cell? (ad w.heap.size 1)=sI p1:=by rw [cell_of_block HBX.out.1];rfl
 have t2:x1.cell? (ad w.heap.size 2)=sI p2:=by rw [cell_of_block HBX.out.1];rfl
 have t3:x1.cell? (ad w.heap.size 3)=sI q0:=by rw [cell_of_block HBX.out.1];rfl
 have t4:x1.cell? (ad w.heap.size 4)=sI q1:=by rw [cell_of_block HBX.out.1];rfl
 have t5:x1.cell? (ad w.heap.size 5)=sI q2:=by rw [cell_of_block HBX.out.1];rfl
 have t6:x1.cell? (ad w.heap.size 6)=sI r:=by rw [cell_of_block HBX.out.1];rfl
 have k0:x1.cell? (ad (w.heap.size+1) 0)=sI pc:=by rw [cell_of_block HBX.out.2];rfl
 have k1:x1.cell? (ad (w.heap.size+1) 1)=sI st:=by rw [cell_of_block HBX.out.2];rfl
 have k2:x1.cell? (ad (w.heap.size+1) 2)=some (.slice ka ops.length kc):=by rw [cell_of_block HBX.out.2];rfl
 clear hlv hb HL HI HMAY
 go_wp2_with fail
 refine HC.out.mono ?_
 rintro e x2 ⟨rfl,hb2⟩
 have HX2:=z9 (HX1.out.trans (hb2.mono HX1.out.size))
 have gT:Hid ((x2).heap[w.heap.size]?=some (.cells #[iV p0,iV p1,iV p2,iV q0,iV q1,iV q2,iV r] 28 (0,0))/\(x2).heap[w.heap.size+1]?=some (.cells #[iV pc,iV st,.slice ka ops.length kc] 31 (0,0))):=⟨by rw [hb2.block _ (by omega)];exact HBX.out.1,by rw [hb2.block _ (by omega)];exact HBX.out.2⟩
 have HLO2:=z9 (zA HLO.out hb2)
 have hzx2:w.heap.size+1<x2.heap.size:=by have:=hb2.size;omega
 clear hb2 t0 t1 t2 t3 t4 t5 t6 k0 k1 k2 HC
 have t6:x2.cell? (ad w.heap.size 6)=sI r:=by rw [cell_of_block gT.out.1];rfl
 go_wp2_with (go_at_call 66;refine (HTI.out _).mono ?_;rintro e w' ⟨rfl,hw'⟩;have hw':=hw'.symm;subst hw')
 clear t6
 refine wp_region_noPanic ?_
 refine zm 99 (fun w'=>(w'.cell? (ad w.heap.size 0)=sI p0/\w'.cell? (ad w.heap.size 1)=sI p1/\w'.cell? (ad w.heap.size 2)=sI p2/\w'.cell? (ad w.heap.size 3)=sI q0/\w'.cell? (ad w.heap.size 4)=sI q1/\w'.cell? (ad w.heap.size 5)=sI q2/\w'.cell? (ad w.heap.size 6)=sI r)/\w'.cell? (ad (w.heap.size+1) 0)=sI pc/\w'.cell? (ad (w.heap.size+1) 1)=sI st/\w'.cell? (ad (w.heap.size+1) 2)=some (.slice ka ops.length kc)) (by kernel_rfl) (XW gT.out) (fun h9=>?_)
 refine uk 0 h9 ?_
 refine uk 1 h9 ?_
 refine uk 2 h9 ?_
 refine uk 3 h9 ?_
 refine uk 5 h9 ?_
 refine ze (i:=4) rfl (by kernel_rfl) (fun K hK=>?_)
 go_simp
 refine (HCL.out _ HX2.out.drew).mono ?_
 rintro e x3 ⟨gr,cr,rfl,hge,hcm,hrx,hb3⟩
 have HB3:Hid (Bw x2 x3):=(Below.refl _ _).drew.trans hb3
 have HX3:=z9 (HX2.out.trans (HB3.out.mono HX2.out.size))
 have HBX3:Hid ((x3).heap[w.heap.size]?=some (.cells #[iV p0,iV p1,iV p2,iV q0,iV q1,iV q2,iV r] 28 (0,0))/\(x3).heap[w.heap.size+1]?=some (.cells #[iV pc,iV st,.slice ka ops.length kc] 31 (0,0))):=⟨by rw [HB3.out.block _ (by omega)];exact gT.out.1,by rw [HB3.out.block _ (by omega)];exact gT.out.2⟩
 have HGE:Hid (w.heap.size<=gr/\gr<x3.heap.size/\R.length<=cr/\cr<=maxLen):=⟨Nat.le_trans HX2.out.size hge,hrx.lt,hrx.le,hcm⟩
 have HRX:=z9 hrx
 have HLO3:=z9 (zA HLO2.out HB3.out)
 clear hge hcm hrx hb3 h9
 have h9:=XW HBX3.out
 refine nxt hK.out (.inr h9) ?_
 clear hK K
 refine uk 6 h9 ?_
 refine ze (i:=7) rfl (by kernel_rfl) (fun K hK=>?_)
 go_simp
 have HBX4:Hid ((x3.alloc (.cells #[iV p0,iV p1,iV p2,iV q0,iV q1,iV q2,iV r,iV pc,iV st,.slice ka ops.length kc,.slice la (zN M).length lc,.slice (pA gr) R.length cr,.slice none 0 0,iV gD,.slice none 0 0,.slice none 0 0,.slice none 0 0,.slice none 0 0,.slice none 0 0,.slice none 0 0] 128)).heap[w.heap.size]?=some (.cells #[iV p0,iV p1,iV p2,iV q0,iV q1,iV q2,iV r] 28 (0,0))/\(x3.alloc (.cells #[iV p0,iV p1,iV p2,iV q0,iV q1,iV q2,iV r,iV pc,iV st,.slice ka ops.length kc,.slice la (zN M).length lc,.slice (pA gr) R.length cr,.slice none 0 0,iV gD,.slice none 0 0,.slice none 0 0,.slice none 0 0,.slice none 0 0,.slice none 0 0,.slice none 0 0] 128)).heap[w.heap.size+1]?=some (.cells #[iV pc,iV st,.slice ka ops.length kc] 31 (0,0))):=⟨by rw [Below.heap_alloc _ _ _ (by have:=HX3.out.size;have:=(Array.getElem?_eq_some_iff.1 HBX3.out.1).1;omega)];exact HBX3.out.1,by rw [Below.heap_alloc _ _ _ (Array.getElem?_eq_some_iff.1 HBX3.out.2).1];exact HBX3.out.2⟩
 refine nxt hK.out (.inr (XW HBX4.out)) ?_
 clear hK K h9
 have h9:=XW HBX4.out
 refine ze (i:=8) rfl (by kernel_rfl) (fun K hK=>?_)
 go_simp
 refine nxt hK.out (.inr h9) ?_
 clear hK K
 refine zq (by kernel_rfl) ?_ _
 refine NoPanic.normal ?_
 clear h9
 obtain⟨A,hA⟩:∃A,x3.heap.size=A:=⟨_,rfl⟩
 have H0:Hid (Xt w A gr cr R ⟨p0,p1,p2,q0,q1,q2,r⟩ pc st (.slice ka ops.length kc) (.slice la (zN M).length lc) (zN M) gD M 0 (.slice none 0 0) (fun _=>0) (fun _=>0) (x3.alloc (.cells #[iV p0,iV p1,iV p2,iV q0,iV q1,iV q2,iV r,iV pc,iV st,.slice ka ops.length kc,.slice la (zN M).length lc,.slice (pA gr) R.length cr,.slice none 0 0,iV gD,.slice none 0 0,.slice none 0 0,.slice none 0 0,.slice none 0 0,.slice none 0 0,.slice none 0 0] 128))) :=
  { bel:=HX3.out.alloc HX3.out.size _,hA:=by rw [<-hA];exact yA _ _ _,hAb:=by rw [<-hA];exact HX3.out.size,regs:=HRX.out.row.alloc _,hr:=⟨HGE.out.1,HGE.out.2.2⟩,out:=World.ownsRow_nil _ _ _ _,inn:=⟨fun i hi=>absurd hi (Nat.not_lt_zero _),fun i j hi=>absurd hi (Nat.not_lt_zero _)⟩,rM:=fun i hi=>absurd hi (Nat.not_lt_zero _),lgs:=zA HLO3.out (below_alloc1 _ _) }
 have HAE:=z9 hA
 go_wp2_with fail
 clear hA
 go_loopw [52] (fun i wr=>∃k:Nat,k<=M.length/\i=iV k/\∃mv G C,Xt w A gr cr R ⟨p0,p1,p2,q0,q1,q2,r⟩ pc st (.slice ka ops.length kc) (.slice la (zN M).length lc) (zN M) gD M k mv G C wr) (fun i _=>M.length - (intOf i).toNat)
 case atStart=>exact⟨0,Nat.zero_le _,rfl,_,_,_,H0.out⟩
 case round =>
  clear H0
  obtain⟨k,hk,rfl,mv,G,C,hQ⟩:=hrel
  by_cases hkl:k<M.length
  ·have hki:(k:Int)<(M.length:Int):=by omega
   obtain⟨am,cm,hmv,hm1,hm2⟩:=zS hQ.out
   subst hmv
   have HMW:=HMV.out.gE hQ.bel
   obtain⟨ma2,mc2,hme2,-,-,hmc2⟩:=HMW
   injection hme2 with e1 e2 e3
   subst e1;subst e3
   obtain⟨mb,mo,rfl,hmbz,hmrow⟩:=hmc2 (by omega)
   obtain⟨u,hu,hui⟩:=hmrow k hkl
   have HUI:=z9 hui
   obtain⟨ua,uc,rfl,-⟩:=hui
   have HQ:=z9 hQ
   have hc12:=hQ.cell
   have hAz:=hQ.A_lt
   obtain⟨r0,r32,-⟩:=HROWS.out k hkl
   have HCK:Hid (∀W,Bw wr W->Calls prog 67 #[.slice ua (zv M k).length uc] W fun e w'=>∃g cap,e=.returned (.slice (pA g) (zv M k).length cap)/\W.heap.size<=g/\cap<=maxLen/\xX w' g 2 cap (zv M k).length (fun j=>iV (nth (zv M k) j))/\Bw W w'):=fun W h=>zez _ (zv M k) W (HUI.out.gE h) r0 (by omega)
   obtain⟨ln,hln⟩:∃ln,(zv M k).length=ln:=⟨_,rfl⟩
   rw [hln] at hu HCK
   have HLN:=z9 hln
   clear hmrow hmc2 hQ hln
   go_wp2_with fail
   refine wp_region_noPanic ?_
   refine zm 11 (fun w'=>w'.cell? (ad A 12)=some (.slice am k cm)) (by kernel_rfl) hc12 (fun h9=>?_)
   refine uk 0 h9 ?_
   refine uk 1 h9 ?_
   refine uk 2 h9 ?_
   refine uk 3 h9 ?_
   refine uk 4 h9 ?_
   refine uk 5 h9 ?_
   refine ze (i:=6) rfl (by kernel_rfl) (fun K hK=>?_)
   go_simp
   refine (HCK.out _ (Below.refl _ _).drew).mono ?_
   rintro e x5 ⟨g,cap,rfl,hge5,hcm5,hrx5,hb5⟩
   have HB5:Hid (Bw wr x5):=(Below.refl _ _).drew.trans hb5
   have HG5:Hid (wr.heap.size<=g/\cap<=maxLen):=⟨hge5,hcm5⟩
   have HRX5:=z9 hrx5
   have HQ5:=z9 (HQ.out.gE HB5.out)
   clear hge5 hcm5 hrx5 hb5 h9
   refine nxt hK.out (.inr HQ5.out.cell) ?_
   clear hK K
   refine ze (i:=7) rfl (by kernel_rfl) (fun K hK=>?_)
   go_simp
   have HQ6:=z9 (HQ5.out.gE (below_alloc1 x5 (.cells #[.slice (pA g) ln cap] 63)))
   refine nxt hK.out (.inr HQ6.out.cell) ?_
   clear hK K
   refine ze (i:=8) rfl (by kernel_rfl) (fun K hK=>?_)
   refine step_append_lies _ (by rfl) (.tmp 60) (.tmp 63) 32 (by rfl) w.heap.size 63 i0 (.slice none 0 0) 1 24 underlying32 hi hz0' hz1 hz2 rfl (by decide) _ k _ (by rfl) HQ6.out.out (ad x5.heap.size 0) 1 1 [.slice (pA g) ln cap] (by rfl) rfl (xU _ _ _) (by intro u hu;simp at hu;subst hu;rfl) (by decide) (by unfold maxLen;omega) (by omega) HQ6.out.bel.size (x5.heap.size+1) (by simp) ?_
   intro g2 gC w6 hown6 hgrow6 hat6 hlt6
   have hk6:=HQ6.out.grown hgrow6
   have HO6:=z9 hown6
   have HG6:=z9 hgrow6
   clear hown6 hgrow6 hat6
   refine nxt hK.out (.inr hk6.1) ?_
   clear hK K
   have h9:=hk6.1
   have hf6:=hk6.2
   refine uk 9 h9 ?_
   refine uk 10 h9 ?_
   refine ze (i:=11) rfl (by kernel_rfl) (fun K hK=>?_)
   go_simp
   refine nxt hK.out (.inl rfl) ?_
   clear hK K
   refine zq (by kernel_rfl) ?_ _
   refine NoPanic.normal ?_
   clear hk6 h9
   go_wp2_with fail
   go_roundw
   case rel =>
    refine⟨k+1,by omega,by go_num,_,_,_,HQ6.out.step (g:=g) (cap:=cap) (B0:=0) ?_ (by have:=HG5.out.1;have:=HQ.out.bel.size;omega) HG5.out.2 ?_ ?_ (by show w6.ownsRow _ _ _ _ _ (_++[.slice _ (zv M k).length _]);rw [HLN.out];exact HO6.out) HG6.out⟩
    ·have h:=HRX5.out.gE (below_alloc1 x5 (.cells #[.slice (pA g) ln cap] 63)) HRX5.out.lt
     rw [<-HLN.out] at h ⊢
     exact h
    ·have:=HQ.out.regs.lt;have:=HG5.out.1;omega
    ·intro i hi;have:=(HQ.out.inn.1 i hi).2.2.2.lt;have:=HG5.out.1;omega
   case measure=>simp [intOf];omega
  ·have e:k=M.length:=by omega
   subst e
   have hki:¬(M.length:Int)<(M.length:Int):=by omega
   obtain⟨am,cm,hmv,hm1,hm2⟩:=zS hQ.out
   subst hmv
   have HQ:=z9 hQ
   have HMC:=z9 hQ.mach
   by_cases ht:gD=0
   ·obtain⟨e11,e12⟩:=hQ.ends
    have htd:decide (0<gD)=false:=decide_eq_false (by omega)
    have htn:¬0<gD:=by omega
    have HPL:Hid (Zm ⟨p0,p1,p2,q0,q1,q2,r⟩ ⟨pc,st,ops⟩ (zN M) gD R M=ZE R M):=by show _=_;unfold Zm;rw [if_pos ht]
    have hAz:=hQ.A_lt
    clear hQ ht
    go_wp2_with fail
    go_big_quiet ((fail))
    go_wp2_with fail
    have hI:yr ((zji w wr A gr cr R ⟨p0,p1,p2,q0,q1,q2,r⟩ pc st (.slice ka ops.length kc) (.slice la (zN M).length lc) gD M (.slice am M.length cm) G).at wr) (fun _=>.slice none 0 0) [] (ZE R M).f (ZE R M).m (wr.drewN nq):=HMC.out.gE (below_draws _ _ _)
    exact bodyPost_ret (v:=.tuple #[.slice (pA gr) R.length cr,.slice am M.length cm,iV 0]) (by simp [results,results27,go_sem]) rfl (zk8 (K:=⟨pc,st,ops⟩) HQ.out (Below.refl _ _) hI HPL.out (zbm HI64.out.1 HI64.out.2) HW.out rfl)
   ·have htd:decide (0<gD)=true:=decide_eq_true (by omega)
    have htn:0<gD:=by omega
    have hlg:∀i,i<(zN M).length->-9223372036854775808<=nth (zN M) i/\nth (zN M) i<=9223372036854775807:=fun i hi=>by
     rw [Y6 M i (by rw [xZ] at hi;exact hi)]
     have:=zd6 (zv M i).length
     omega
    obtain⟨gm,cm',hst⟩:=hQ.stat hlg
    obtain⟨hmt,hp1,hp2,hs1,hs2,ho1,ho2,-⟩:=ZC HMAYK.out
    simp only at hp1 hp2 hs1 hs2
    obtain⟨PC,hPC⟩:∃PC:Nat,pc=(PC:Int):=⟨pc.toNat,by omega⟩
    obtain⟨ST,hST⟩:∃ST:Nat,st=(ST:Int):=⟨st.toNat,by omega⟩
    obtain⟨N,hN⟩:∃N:Nat,gD+st - 1=(N:Int):=⟨(gD+st - 1).toNat,by omega⟩
    have hNP:N*PC<=20000:=by
     have h1:(gD+st)*pc<=20000:=HLIM.out.resolve_left ht
     have h2:((N*PC:Nat):Int)<=(gD+st)*pc:=by
      rw [Int.natCast_mul,<-hPC,<-hN]
      exact Int.mul_le_mul_of_nonneg_right (by omega) (by omega)
     omega
    have hlast:Zr ⟨pc,st,ops⟩ gD=((N*PC:Nat):Int):=by unfold Zr;show (gD+st - 1)*pc=_;rw [hN,hPC,Int.natCast_mul]
    have HPL:Hid (Zm ⟨p0,p1,p2,q0,q1,q2,r⟩ ⟨pc,st,ops⟩ (zN M) gD R M=zJ ⟨p0,p1,p2,q0,q1,q2,r⟩ ⟨pc,st,ops⟩ (zN M) gD (ZE R M) (N*PC+6)):=by
     show _=_
     unfold Zm
     rw [if_neg ht,hlast,show (((N*PC:Nat):Int)+7).toNat=N*PC+7 by omega]
     exact zyp hmt rfl hlast
    have HFI:=z9 (zw7 (t:=⟨p0,p1,p2,q0,q1,q2,r⟩) (gD:=gD) HMAYK.out HNN.out HI64.out.1 HI64.out.2 (N*PC+6) (by omega))
    have HRUN:=z9 (zv7 (zji w wr A gr cr R ⟨p0,p1,p2,q0,q1,q2,r⟩ pc st (.slice ka ops.length kc) (.slice la (zN M).length lc) gD M (.slice am M.length cm) G) (zN M) gm cm' C ⟨pc,st,ops⟩ ka kc PC ST N (fun i=>nth R i) (fun i j=>nth (zv M i) j)
     hQ.mach (fun x hx => (hst x hx).1) rfl (by obtain⟨ov,e,h⟩:=HKV.out;injection e with e;have e2:ov=.slice ka ops.length kc:=by simpa using e.symm
                                                rw [e2] at h;exact h.gE hQ.bel) (xZ M).symm (fun i hi=>⟨(HROWS.out i hi).2.2,(HROWS.out i hi).2.1⟩) HR1.out HMAYK.out rfl hPC rfl hST hN (by show 1<=gD;omega) ht2 hNP)
    have hAz:=hQ.A_lt
    clear hQ ht hlg hst hlast hPC hST hN hp1 hp2 hs1 hs2
    go_wp2_with fail
    refine HRUN.out.mono ?_
    rintro e x9 ⟨rfl,y,V,hby,hI9⟩
    obtain⟨-,⟨-,-,-,-,e11,e12,-⟩,-⟩:=hI9.cells
    have e11':x9.cell? (ad A 11)=some (.slice (pA gr) R.length cr):=e11
    have e12':x9.cell? (ad A 12)=some (.slice am M.length cm):=e12
    have HI9:=z9 hI9
    have HBY:=z9 hby
    clear e11 e12 hI9 hby
    go_wp2_with fail
    go_big_quiet ((fail))
    go_wp2_with fail
    exact bodyPost_ret (v:=.tuple #[.slice (pA gr) R.length cr,.slice am M.length cm,iV 0]) (by simp [results,results27,go_sem]) rfl (zk8 (K:=⟨pc,st,ops⟩) HQ.out HBY.out (HI9.out.gE (below_draws _ _ _)) HPL.out HFI.out HW.out rfl)
theorem kernelRun_ok:zt6:=fun t kv rv mv K R M gD w hK hR hM hnn h3 hw hlim=>by
 obtain⟨p0,p1,p2,q0,q1,q2,r⟩:=t
 obtain⟨pc,st,ops⟩:=K
 have hK':=hK
 have hR':=hR
 have hM':=hM
 obtain⟨ov,rfl,hO⟩:=hK'
 obtain⟨ka,kc,rfl,-⟩:=hO
 obtain⟨ra,rc,rfl,-⟩:=hR'
 obtain⟨ma,mc,rfl,-⟩:=hM'
 have hw':=hw
 unfold XD at hw'
 by_cases hc:Zx M=true/\Yv ⟨p0,p1,p2,q0,q1,q2,r⟩ ⟨pc,st,ops⟩ (zN M)=true/\(R.length:Int)=r
 ·rw [if_pos hc] at hw'
  by_cases ht:0<=gD/\gD<=200
  ·refine (zxw p0 p1 p2 q0 q1 q2 r pc st ops ka kc ra rc R ma mc M gD w hK hR hM (by rw [hc.1];simpa using h3) hc.2.1 hc.2.2 (yf ht) hnn (.inr hlim)).mono fun e w' h=>?_
   obtain⟨ra,rc,ma,mc,rl,ml,he,hb,hy,-⟩:=h
   rw [hw] at he
   exact⟨ra,rc,ma,mc,rl,ml,he,hb,hy hw⟩
  ·rw [if_neg ht] at hw';cases hw'
 ·rw [if_neg hc] at hw';cases hw'
end Go.Proofs.YtjoapiafpahihabGreat
