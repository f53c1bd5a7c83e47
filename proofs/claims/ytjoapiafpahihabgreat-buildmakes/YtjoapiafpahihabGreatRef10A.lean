import Derived.Test.YtjoapiafpahihabGreatLoopStmt
import Derived.Deep.QuietTactic
import Derived.BigQuiet
namespace Go.Proofs.YtjoapiafpahihabGreat
open Go.RowKit Go.Joins
set_option linter.unusedVariables false
set_option linter.unusedSimpArgs false
set_option maxRecDepth 8192
def OfV (w:World) (v:Value) (n:Nat) (tm rd pl:Nat->Int):Prop :=
 ∃ a cap,v=.slice a n cap/\n<=cap/\cap<=maxLen /\
   (0<n->∃blk off,a=some ⟨blk,off,none⟩/\blk<w.heap.size/\∀i,i<n->w.cell? ⟨blk,off+i*3,none⟩=some (iV (tm i))/\w.cell? ⟨blk,off+i*3+1,none⟩=some (iV (rd i))/\w.cell? ⟨blk,off+i*3+2,none⟩=some (iV (pl i)))
theorem OfV.below {w w':World} {v:Value} {n:Nat} {tm rd pl:Nat->Int} (h:OfV w v n tm rd pl) (hb:Below w.heap.size w w'):OfV w' v n tm rd pl:=by
 obtain⟨a,cap,e,h1,h2,h4⟩:=h
 refine⟨a,cap,e,h1,h2,fun hp=>?_⟩
 obtain⟨b,off,e2,h5,h6⟩:=h4 hp
 refine⟨b,off,e2,Nat.lt_of_lt_of_le h5 hb.size,fun i hi=>?_⟩
 rw [zc hb _ _ h5,zc hb _ _ h5,zc hb _ _ h5]
 exact h6 i hi
section
variable (rd pl:Nat->Int) (pc rg:Int)
def zrb (a:Nat) (bk u:Int) (m:Nat) (j:Int):Bool:=(decide (rd a<=rd m+j*pc) && decide (rd m+j*pc<=u)) || (decide (0<bk) && decide (0<j) && decide (rd m+j*pc<=u))
def Vx (a:Nat) (bk u:Int) (m:Nat) (j:Int):Bool:=!zrb rd pc a bk u m j || (decide (m=a) && decide (j=0)) || !decide ((pl m+j - pl a) % rg=0)
def YB (a:Nat) (bk u:Int) (m k:Nat):Bool:=zh (fun j=>Vx rd pl pc rg a bk u m ((j:Int) - 4100)) k
def zaj (n a:Nat) (bk u:Int):Bool:=zh (fun m=>YB rd pl pc rg a bk u m 8201) n
end
theorem zai (w:World) (a:Nat) (bk x y z:Int) (ta tb:TypeId) (d:Nat):Below w.heap.size w (((w.alloc (.cells #[iV (a:Int),iV bk] ta)).alloc (.cells #[iV x,iV y,iV z] tb)).drewN d):=(below_alloc2 w _ _).trans (below_draws _ _ _)
set_option maxHeartbeats 8000000 in
theorem zj0 (n:Nat) (tm rd pl:Nat->Int) (pc rg:Int) (a:Nat) (bk u:Int) (oa:Option Addr) (oc:Nat) (w:World) (hO:OfV w (.slice oa n oc) n tm rd pl) (ha:a<n) (hn:n<=16) (hrd:∀m,m<n->0<=rd m/\rd m<=2000) (hpl:∀m,m<n->0<=pl m/\pl m<=2000) (hpc1:1<=pc) (hpc2:pc<=200) (hrg1:1<=rg) (hrg2:rg<=128) :
  Calls Tryz.prog 49 #[.slice oa n oc,iV pc,iV rg,.agg #[iV (a:Int),iV bk],iV u] w fun e w'=>e=.returned (.bool (zaj rd pl pc rg n a bk u))/\Below w.heap.size w w':=by
 obtain⟨oa',oc',he1,he2,he3,hec⟩:=hO
 injection he1 with e1 e2 e3
 subst e1;subst e3
 unfold maxLen at he3
 obtain⟨b,off,rfl,hb,hcell⟩:=hec (by omega)
 obtain⟨ca0,ca1,ca2⟩:=hcell a ha
 have HC:=z5 hcell
 have HRD:=z5 hrd
 have HPL:=z5 hpl
 obtain⟨ra1,ra2⟩:=hrd a ha
 obtain⟨pa1,pa2⟩:=hpl a ha
 have hai:(a:Int)<(n:Int):=by omega
 clear hec hcell hrd hpl e2
 have HREST:=z5 (fun x W h0 h1=>YM x rg W h0 h1 (by omega) (by omega))
 go_enter Tryz.func49,Tryz.ntmps49
 go_wp2_with fail
 go_loopw [12] (fun i wr=>∃m:Nat,m<=n/\i=iV m/\zh (fun m=>YB rd pl pc rg a bk u m 8201) m=true/\∃d,wr=((w.alloc (.cells #[iV (a:Int),iV bk] 39)).alloc (.cells #[iV (tm a),iV (rd a),iV (pl a)] 81)).drewN d) (fun i _=>n - (intOf i).toNat)
 case atStart=>exact⟨0,Nat.zero_le _,rfl,rfl,0,rfl⟩
 case round =>
  obtain⟨m,hm,rfl,hall,d,rfl⟩:=hrel
  have HA:=z5 hall
  clear hall ca0 ca1 ca2
  by_cases hml:m<n
  ·have hmi:(m:Int)<(n:Int):=by omega
   go_wp2_with fail
   go_loopw [13] (fun i wr=>∃k:Nat,k<=8201/\i=iV ((k:Int) - 4100)/\YB rd pl pc rg a bk u m k=true/\∃d,wr=((w.alloc (.cells #[iV (a:Int),iV bk] 39)).alloc (.cells #[iV (tm a),iV (rd a),iV (pl a)] 81)).drewN d) (fun i _=>(4101 - intOf i).toNat)
   case atStart=>exact⟨0,Nat.zero_le _,rfl,rfl,d,rfl⟩
   case round =>
    obtain⟨k,hk,rfl,hall,d,rfl⟩:=hrel
    have HK:=z5 hall
    clear hall
    by_cases hkl:k<8201
    ·obtain⟨cm0,cm1,cm2⟩:=HC.out m hml
     obtain⟨rm1,rm2⟩:=HRD.out m hml
     obtain⟨pm1,pm2⟩:=HPL.out m hml
     have HSTEP:Hid (YB rd pl pc rg a bk u m (k+1)=Vx rd pl pc rg a bk u m ((k:Int) - 4100)):=by
      show (YB rd pl pc rg a bk u m k && Vx rd pl pc rg a bk u m ((k:Int) - 4100))=_
      rw [HK.out,Bool.true_and]
     have HLATE:Hid (Vx rd pl pc rg a bk u m ((k:Int) - 4100)=false->zaj rd pl pc rg n a bk u=false):=fun h=>by
      refine zw hml ?_
      exact zw hkl h
     obtain⟨j,hj⟩:∃j:Int,(k:Int) - 4100=j:=⟨_,rfl⟩
     have HJ:=z5 hj
     rw [hj] at HSTEP HLATE ⊢
     have hj1:j<=4100:=by omega
     have hj2:-4100<=j:=by omega
     clear hj
     have hp1:j*pc<=4100*200:=by
      by_cases h:0<=j
      ·exact Int.mul_le_mul hj1 hpc2 (by omega) (by omega)
      ·have:=Int.mul_nonneg (show 0<=-j by omega) (show 0<=pc by omega)
       rw [Int.neg_mul] at this
       omega
     have hp2:-(4100*200)<=j*pc:=by
      by_cases h:0<=j
      ·have:=Int.mul_nonneg h (show 0<=pc by omega)
       omega
      ·have:=Int.mul_le_mul (show -j<=4100 by omega) hpc2 (by omega) (by omega)
       rw [Int.neg_mul] at this
       omega
     have HKG:Hid (Vx rd pl pc rg a bk u m j=(!((decide (rd a<=rd m+j*pc) && decide (rd m+j*pc<=u)) || (decide (0<bk) && decide (0<j) && decide (rd m+j*pc<=u))) || (decide (m=a) && decide (j=0)) || !decide ((pl m+j - pl a) % rg=0))):=rfl
     obtain⟨jp,hjp⟩:∃jp,j*pc=jp:=⟨_,rfl⟩
     obtain⟨v,hv⟩:∃v,rd m+j*pc=v:=⟨_,rfl⟩
     rw [hv] at HKG
     rw [hjp] at hp1 hp2 hv
     obtain⟨sp,hsp⟩:∃sp,pl m+j - pl a=sp:=⟨_,rfl⟩
     have hw1:IntKind.i64.wrap (pl m+j)=pl m+j:=by rw [IntKind.wrap_i64];omega
     have hw2:IntKind.i64.wrap (pl m+j - pl a)=sp:=by rw [IntKind.wrap_i64];omega
     have HRS:=z5 (HREST.out sp · (by omega) (by omega))
     rw [hsp] at HKG
     clear cm0
     have harm:(¬v<=u/\¬rd a<=v)\/(¬v<=u/\rd a<=v)\/(v<=u/\rd a<=v)\/(v<=u/\¬rd a<=v):=by omega
     have hbk:¬0<bk\/(0<bk/\¬0<j)\/(0<bk/\0<j):=by omega
     have HFAR:Hid ((¬v<=u\/(¬rd a<=v/\(¬0<bk\/¬0<j)))->YB rd pl pc rg a bk u m (k+1)=true):=fun h=>by
      rw [HSTEP.out,HKG.out]
      rcases h with h | ⟨h,h2⟩
      ·rw [decide_eq_false h];simp
      ·rw [decide_eq_false h]
       rcases h2 with h2 | h2
       ·rw [decide_eq_false h2];simp
       ·rw [decide_eq_false h2];simp
     have HNEAR:Hid ((v<=u/\(rd a<=v\/(0<bk/\0<j)))->Vx rd pl pc rg a bk u m j=((decide (m=a) && decide (j=0)) || !decide (sp % rg=0))):=fun h=>by
      rw [HKG.out,decide_eq_true h.1]
      rcases h.2 with h2 | ⟨h2,h3⟩
      ·rw [decide_eq_true h2];simp
      ·rw [decide_eq_true h2,decide_eq_true h3];simp
     have HBE:=z5 (zai w a bk (tm a) (rd a) (pl a) 39 81)
     have near:∀(hvu:v<=u) (hnr:rd a<=v\/(0<bk/\0<j)),True:=fun _ _=>trivial
     clear near
     rcases harm with ⟨g1,g2⟩ | ⟨g1,g2⟩ | ⟨g1,g2⟩ | ⟨g1,g2⟩
     rotate_left 2
     ·have HN2:=z5 (HNEAR.out ⟨g1,.inl g2⟩)
      clear HFAR HNEAR HKG
      by_cases hma:m=a/\j=0
      ·have HT:Hid (YB rd pl pc rg a bk u m (k+1)=true):=by show _=_;rw [HSTEP.out,HN2.out,decide_eq_true hma.1,decide_eq_true hma.2];rfl
       obtain⟨hma1,hj0⟩:=hma
       have HJ0:=z5 hj0
       subst hma1
       go_wp2_with fail
       go_roundw
       case rel=>exact⟨k+1,by omega,by have:=HJ.out;have:=HJ0.out;go_num,HT.out,d,rfl⟩
       case measure=>have:=HJ0.out;simp [intOf];omega
      ·have hmj:((m:Int) == (a:Int))=false\/(((m:Int) == (a:Int))=true/\(j == (0:Int))=false):=by
        by_cases h:m=a
        ·right;refine⟨by simp [h],?_⟩;have:j≠0:=fun e=>hma ⟨h,e⟩;simpa using this
        ·left;simp;omega
       have HN3:Hid (Vx rd pl pc rg a bk u m j=!decide (sp % rg=0)):=by
        show _=_
        rw [HN2.out]
        by_cases h:m=a
        ·rw [decide_eq_false (show ¬j=0 from fun e=>hma ⟨h,e⟩)];simp
        ·rw [decide_eq_false h];simp
       clear hma
       by_cases hz:sp % rg=0
       ·have HT:Hid (zaj rd pl pc rg n a bk u=false):=HLATE.out (by rw [HN3.out,decide_eq_true hz];rfl)
        have hzb:(sp % rg == (0:Int))=true:=by simpa using hz
        rcases hmj with hmj | ⟨hmj,hmj2⟩
        all_goals go_wp2_with fail
        all_goals go_big_quiet ((go_at_call 48;exact (HRS.out _).mono fun _ _ h=>⟨h.1,_,h.2⟩))
        all_goals go_wp2_with fail
        all_goals go_ret
        all_goals exact⟨z7 HT.out.symm,(HBE.out d).trans (below_draws _ _ _)⟩
       ·have HT:Hid (YB rd pl pc rg a bk u m (k+1)=true):=by show _=_;rw [HSTEP.out,HN3.out,decide_eq_false hz];rfl
        have hzb:(sp % rg == (0:Int))=false:=by simpa using hz
        rcases hmj with hmj | ⟨hmj,hmj2⟩
        ·go_wp2_with fail
         go_big_quiet ((go_at_call 48;exact (HRS.out _).mono fun _ _ h=>⟨h.1,_,h.2⟩))
         go_wp2_with fail
         go_roundw
         case rel=>exact⟨k+1,by omega,by have:=HJ.out;go_num,HT.out,_,rfl⟩
         case measure=>simp [intOf];omega
        ·go_wp2_with fail
         go_big_quiet ((go_at_call 48;exact (HRS.out _).mono fun _ _ h=>⟨h.1,_,h.2⟩))
         go_wp2_with fail
         go_roundw
         case rel=>exact⟨k+1,by omega,by have:=HJ.out;go_num,HT.out,_,rfl⟩
         case measure=>simp [intOf];omega
     ·rcases hbk with h1 | ⟨h1,h2⟩ | ⟨h1,h2⟩
      ·have HT:=z5 (HFAR.out (.inr ⟨g2,.inl h1⟩))
       clear HFAR HNEAR HKG HLATE
       go_wp2_with fail
       go_roundw
       case rel=>exact⟨k+1,by omega,by have:=HJ.out;go_num,HT.out,d,rfl⟩
       case measure=>simp [intOf];omega
      ·have HT:=z5 (HFAR.out (.inr ⟨g2,.inr h2⟩))
       clear HFAR HNEAR HKG HLATE
       go_wp2_with fail
       go_roundw
       case rel=>exact⟨k+1,by omega,by have:=HJ.out;go_num,HT.out,d,rfl⟩
       case measure=>simp [intOf];omega
      ·have HN2:=z5 (HNEAR.out ⟨g1,.inr ⟨h1,h2⟩⟩)
       clear HFAR HNEAR HKG
       by_cases hma:m=a/\j=0
       ·exfalso;omega
       ·have hmj:((m:Int) == (a:Int))=false\/(((m:Int) == (a:Int))=true/\(j == (0:Int))=false):=by
         by_cases h:m=a
         ·right;refine⟨by simp [h],?_⟩;have:j≠0:=fun e=>hma ⟨h,e⟩;simpa using this
         ·left;simp;omega
        have HN3:Hid (Vx rd pl pc rg a bk u m j=!decide (sp % rg=0)):=by
         show _=_
         rw [HN2.out]
         by_cases h:m=a
         ·rw [decide_eq_false (show ¬j=0 from fun e=>hma ⟨h,e⟩)];simp
         ·rw [decide_eq_false h];simp
        clear hma
        by_cases hz:sp % rg=0
        ·have HT:Hid (zaj rd pl pc rg n a bk u=false):=HLATE.out (by rw [HN3.out,decide_eq_true hz];rfl)
         have hzb:(sp % rg == (0:Int))=true:=by simpa using hz
         rcases hmj with hmj | ⟨hmj,hmj2⟩
         all_goals go_wp2_with fail
         all_goals go_big_quiet ((go_at_call 48;exact (HRS.out _).mono fun _ _ h=>⟨h.1,_,h.2⟩))
         all_goals go_wp2_with fail
         all_goals go_ret
         all_goals exact⟨z7 HT.out.symm,(HBE.out d).trans (below_draws _ _ _)⟩
        ·have HT:Hid (YB rd pl pc rg a bk u m (k+1)=true):=by show _=_;rw [HSTEP.out,HN3.out,decide_eq_false hz];rfl
         have hzb:(sp % rg == (0:Int))=false:=by simpa using hz
         rcases hmj with hmj | ⟨hmj,hmj2⟩
         ·go_wp2_with fail
          go_big_quiet ((go_at_call 48;exact (HRS.out _).mono fun _ _ h=>⟨h.1,_,h.2⟩))
          go_wp2_with fail
          go_roundw
          case rel=>exact⟨k+1,by omega,by have:=HJ.out;go_num,HT.out,_,rfl⟩
          case measure=>simp [intOf];omega
         ·go_wp2_with fail
          go_big_quiet ((go_at_call 48;exact (HRS.out _).mono fun _ _ h=>⟨h.1,_,h.2⟩))
          go_wp2_with fail
          go_roundw
          case rel=>exact⟨k+1,by omega,by have:=HJ.out;go_num,HT.out,_,rfl⟩
          case measure=>simp [intOf];omega
     ·have HT:=z5 (HFAR.out (.inl g1))
      rcases hbk with h1 | ⟨h1,h2⟩ | ⟨h1,h2⟩
      ·skip
       clear HFAR HNEAR HKG HLATE
       go_wp2_with fail
       go_roundw
       case rel=>exact⟨k+1,by omega,by have:=HJ.out;go_num,HT.out,d,rfl⟩
       case measure=>simp [intOf];omega
      ·skip
       clear HFAR HNEAR HKG HLATE
       go_wp2_with fail
       go_roundw
       case rel=>exact⟨k+1,by omega,by have:=HJ.out;go_num,HT.out,d,rfl⟩
       case measure=>simp [intOf];omega
      ·skip
       clear HFAR HNEAR HKG HLATE
       go_wp2_with fail
       go_roundw
       case rel=>exact⟨k+1,by omega,by have:=HJ.out;go_num,HT.out,d,rfl⟩
       case measure=>simp [intOf];omega
     ·have HT:=z5 (HFAR.out (.inl g1))
      rcases hbk with h1 | ⟨h1,h2⟩ | ⟨h1,h2⟩
      ·skip
       clear HFAR HNEAR HKG HLATE
       go_wp2_with fail
       go_roundw
       case rel=>exact⟨k+1,by omega,by have:=HJ.out;go_num,HT.out,d,rfl⟩
       case measure=>simp [intOf];omega
      ·skip
       clear HFAR HNEAR HKG HLATE
       go_wp2_with fail
       go_roundw
       case rel=>exact⟨k+1,by omega,by have:=HJ.out;go_num,HT.out,d,rfl⟩
       case measure=>simp [intOf];omega
      ·skip
       clear HFAR HNEAR HKG HLATE
       go_wp2_with fail
       go_roundw
       case rel=>exact⟨k+1,by omega,by have:=HJ.out;go_num,HT.out,d,rfl⟩
       case measure=>simp [intOf];omega
    ·have e:k=8201:=by omega
     subst e
     have HALL:Hid (zh (fun m=>YB rd pl pc rg a bk u m 8201) (m+1)=true):=by
      show (zh _ m && YB rd pl pc rg a bk u m 8201)=true
      rw [HA.out,HK.out];rfl
     go_wp2_with fail
     go_roundw
     case rel=>exact⟨m+1,by omega,by go_num,HALL.out,d,rfl⟩
     case measure=>simp [intOf];omega
  ·have e:m=n:=by omega
   subst e
   have hmi:¬(m:Int)<(m:Int):=by omega
   have HT:Hid (zaj rd pl pc rg m a bk u=true):=HA.out
   go_wp2_with fail
   go_ret
   exact⟨z7 HT.out.symm,zai w a bk _ _ _ _ _ d⟩
end Go.Proofs.YtjoapiafpahihabGreat
namespace Go.Proofs.YtjoapiafpahihabGreat
open Go.RowKit Go.Joins
set_option linter.unusedVariables false
set_option linter.unusedSimpArgs false
set_option maxRecDepth 8192
section
variable (rd pl:Nat->Int) (pc rg:Int)
def VF (a m j:Nat):Bool:=decide (rd m - j*pc<rd a) || (decide (m=a) && decide (j=0)) || !decide ((pl m - j - pl a) % rg=0)
def Ys (a m k:Nat):Bool:=zh (VF rd pl pc rg a m) k
def zej (n a:Nat):Bool:=zh (fun m=>Ys rd pl pc rg a m 1007) n
end
theorem zkl {rd pl:Nat->Int} {pc rg:Int} {a m k:Nat} (h:Ys rd pl pc rg a m k=true) (hpc:1<=pc) (hlt:rd m - k*pc<rd a):∀q,Ys rd pl pc rg a m q=true:=by
 intro q
 refine zN fun i hi=>?_
 by_cases e:i<k
 ·exact zl h i e
 ·have h1:(k:Int)*pc<=(i:Int)*pc:=Int.mul_le_mul_of_nonneg_right (by omega) (by omega)
  unfold VF
  rw [decide_eq_true (by omega)];rfl
theorem zb4 (w:World) (x y z:Int) (tb:TypeId) (d:Nat):Below w.heap.size w ((w.alloc (.cells #[iV x,iV y,iV z] tb)).drewN d):=(below_alloc1 w _).trans (below_draws _ _ _)
set_option maxHeartbeats 8000000 in
theorem zkm (n:Nat) (tm rd pl:Nat->Int) (pc rg:Int) (a:Nat) (oa:Option Addr) (oc:Nat) (w:World) (hO:OfV w (.slice oa n oc) n tm rd pl) (ha:a<n) (hn:n<=16) (hrd:∀m,m<n->1<=rd m/\rd m<=1006) (hpl:∀m,m<n->0<=pl m/\pl m<=2000) (hpc1:1<=pc) (hpc2:pc<=200) (hrg1:1<=rg) (hrg2:rg<=128) :
  Calls Tryz.prog 51 #[.slice oa n oc,iV pc,iV rg,iV (a:Int)] w fun e w'=>e=.returned (.bool (zej rd pl pc rg n a))/\Below w.heap.size w w':=by
 obtain⟨oa',oc',he1,he2,he3,hec⟩:=hO
 injection he1 with e1 e2 e3
 subst e1;subst e3
 unfold maxLen at he3
 obtain⟨b,off,rfl,hb,hcell⟩:=hec (by omega)
 obtain⟨ca0,ca1,ca2⟩:=hcell a ha
 have HC:=z5 hcell
 have HRD:=z5 hrd
 have HPL:=z5 hpl
 obtain⟨ra1,ra2⟩:=hrd a ha
 obtain⟨pa1,pa2⟩:=hpl a ha
 have hai:(a:Int)<(n:Int):=by omega
 clear hec hcell hrd hpl e2
 have HREST:=z5 (fun x W h0 h1=>YM x rg W h0 h1 (by omega) (by omega))
 have HREM:=z5 (fun m k h1 h2 q=>zkl (rd:=rd) (pl:=pl) (pc:=pc) (rg:=rg) (a:=a) (m:=m) (k:=k) h1 hpc1 h2 q)
 go_enter Tryz.func51,Tryz.ntmps51
 go_wp2_with fail
 go_loopw [10] (fun i wr=>∃m:Nat,m<=n/\i=iV m/\zh (fun m=>Ys rd pl pc rg a m 1007) m=true/\∃d,wr=(w.alloc (.cells #[iV (tm a),iV (rd a),iV (pl a)] 81)).drewN d) (fun i _=>n - (intOf i).toNat)
 case atStart=>exact⟨0,Nat.zero_le _,rfl,rfl,0,rfl⟩
 case round =>
  obtain⟨m,hm,rfl,hall,d,rfl⟩:=hrel
  have HA:=z5 hall
  clear hall ca0 ca1 ca2
  by_cases hml:m<n
  ·have hmi:(m:Int)<(n:Int):=by omega
   go_wp2_with fail
   go_loopw [11] (fun i wr=>∃k:Nat,k<=1007/\i=iV (-(k:Int))/\Ys rd pl pc rg a m k=true/\∃d,wr=(w.alloc (.cells #[iV (tm a),iV (rd a),iV (pl a)] 81)).drewN d) (fun i _=>(1008+intOf i).toNat)
   case atStart=>exact⟨0,Nat.zero_le _,rfl,rfl,d,rfl⟩
   case round =>
    obtain⟨k,hk,rfl,hall,d,rfl⟩:=hrel
    have HK:=z5 hall
    clear hall
    obtain⟨cm0,cm1,cm2⟩:=HC.out m hml
    obtain⟨rm1,rm2⟩:=HRD.out m hml
    obtain⟨pm1,pm2⟩:=HPL.out m hml
    obtain⟨j,hj⟩:∃j:Int,-(k:Int)=j:=⟨_,rfl⟩
    have HJ:=z5 hj
    rw [hj]
    have hkp1:(k:Int)*1<=(k:Int)*pc:=Int.mul_le_mul_of_nonneg_left hpc1 (by omega)
    have hkp2:(k:Int)*pc<=1007*200:=Int.mul_le_mul (by omega) hpc2 (by omega) (by omega)
    have hjk:j*pc=-((k:Int)*pc):=by rw [<-hj,Int.neg_mul]
    have HSTEP:Hid (Ys rd pl pc rg a m (k+1)=VF rd pl pc rg a m k):=by
     show (Ys rd pl pc rg a m k && VF rd pl pc rg a m k)=_
     rw [HK.out,Bool.true_and]
    have HTG:Hid (VF rd pl pc rg a m k=(decide (rd m - k*pc<rd a) || (decide (m=a) && decide (k=0)) || !decide ((pl m - k - pl a) % rg=0))):=rfl
    obtain⟨kp,hkp⟩:∃kp,(k:Int)*pc=kp:=⟨_,rfl⟩
    rw [hkp] at hkp1 hkp2 hjk HTG
    obtain⟨v,hv⟩:∃v,rd m - kp=v:=⟨_,rfl⟩
    have hv2:rd m+-kp=v:=by omega
    rw [hv] at HTG
    obtain⟨sp,hsp⟩:∃sp,pl m - (k:Int) - pl a=sp:=⟨_,rfl⟩
    rw [hsp] at HTG
    have hw0:IntKind.i64.wrap (j*pc)=-kp:=by rw [hjk,IntKind.wrap_i64];omega
    have hw3:IntKind.i64.wrap (rd m+-kp)=v:=by rw [hv2,IntKind.wrap_i64];omega
    have hw1:IntKind.i64.wrap (pl m+j)=pl m+j:=by rw [IntKind.wrap_i64];omega
    have hw2:IntKind.i64.wrap (pl m+j - pl a)=sp:=by rw [IntKind.wrap_i64];omega
    have HRS:=z5 (HREST.out sp · (by omega) (by omega))
    have hj1:j<=0:=by omega
    have hj2:-1007<=j:=by omega
    have HREM2:Hid (v<rd a->∀q,Ys rd pl pc rg a m q=true):=fun h=>HREM.out m k HK.out (by rw [hkp,hv];exact h)
    have HVB:Hid (rd a<=v->k<=1005):=fun h=>by omega
    clear cm0 hv hj hkp hjk hv2 hsp
    by_cases hge:rd a<=v
    ·have hgd:decide (rd a<=v)=true:=decide_eq_true hge
     have hk5:=HVB.out hge
     have hkl:k<1007:=by omega
     have HT2:Hid (VF rd pl pc rg a m k=((decide (m=a) && decide (k=0)) || !decide (sp % rg=0))):=by show _=_;rw [HTG.out,decide_eq_false (show ¬v<rd a by omega),Bool.false_or]
     have HLATE:Hid (VF rd pl pc rg a m k=false->zej rd pl pc rg n a=false):=fun h=>zw hml (zw hkl h)
     clear HTG HREM2 HVB
     by_cases hma:m=a/\k=0
     ·have HT:Hid (Ys rd pl pc rg a m (k+1)=true):=by show _=_;rw [HSTEP.out,HT2.out,decide_eq_true hma.1,decide_eq_true hma.2];rfl
      obtain⟨hma1,hk0⟩:=hma
      have HK0:=z5 hk0
      have hj0:j=0:=by have:=HJ.out;omega
      have HJ0:=z5 hj0
      clear hk0
      subst hma1
      go_wp2_with fail
      go_big_quiet ((fail))
      go_wp2_with fail
      go_big_quiet ((fail))
      go_wp2_with fail
      go_roundw
      case rel=>exact⟨k+1,by omega,by have:=HJ.out;have:=HJ0.out;go_num,HT.out,_,rfl⟩
      case measure=>have:=HJ0.out;simp [intOf];omega
     ·have hmj:((m:Int) != (a:Int))=true\/(((m:Int) != (a:Int))=false/\(j != (0:Int))=true):=by
       by_cases h:m=a
       ·right;refine⟨by simp [h],?_⟩;have:j≠0:=fun e=>hma ⟨h,by have:=HJ.out;omega⟩;simpa using this
       ·left;simp;omega
      have HN3:Hid (VF rd pl pc rg a m k=!decide (sp % rg=0)):=by
       show _=_
       rw [HT2.out]
       by_cases h:m=a
       ·rw [decide_eq_false (show ¬k=0 from fun e=>hma ⟨h,e⟩)];simp
       ·rw [decide_eq_false h];simp
      clear hma HT2
      by_cases hz:sp % rg=0
      ·have HT:Hid (zej rd pl pc rg n a=false):=HLATE.out (by rw [HN3.out,decide_eq_true hz];rfl)
       have hzb:(sp % rg == (0:Int))=true:=by simpa using hz
       rcases hmj with hmj | ⟨hmj,hmj2⟩
       all_goals go_wp2_with fail
       all_goals go_big_quiet ((fail))
       all_goals go_wp2_with fail
       all_goals go_big_quiet ((go_at_call 48;exact (HRS.out _).mono fun _ _ h=>⟨h.1,_,h.2⟩))
       all_goals go_wp2_with fail
       all_goals go_ret
       all_goals exact⟨z7 HT.out.symm,((zb4 w _ _ _ _ d).trans (below_draws _ _ _)).trans (below_draws _ _ _)⟩
      ·have HT:Hid (Ys rd pl pc rg a m (k+1)=true):=by show _=_;rw [HSTEP.out,HN3.out,decide_eq_false hz];rfl
       have hzb:(sp % rg == (0:Int))=false:=by simpa using hz
       rcases hmj with hmj | ⟨hmj,hmj2⟩
       ·go_wp2_with fail
        go_big_quiet ((fail))
        go_wp2_with fail
        go_big_quiet ((go_at_call 48;exact (HRS.out _).mono fun _ _ h=>⟨h.1,_,h.2⟩))
        go_wp2_with fail
        go_roundw
        case rel=>exact⟨k+1,by omega,by have:=HJ.out;go_num,HT.out,_,rfl⟩
        case measure=>simp [intOf];omega
       ·go_wp2_with fail
        go_big_quiet ((fail))
        go_wp2_with fail
        go_big_quiet ((go_at_call 48;exact (HRS.out _).mono fun _ _ h=>⟨h.1,_,h.2⟩))
        go_wp2_with fail
        go_roundw
        case rel=>exact⟨k+1,by omega,by have:=HJ.out;go_num,HT.out,_,rfl⟩
        case measure=>simp [intOf];omega
    ·have hgd:decide (rd a<=v)=false:=decide_eq_false hge
     have HALL:Hid (zh (fun m=>Ys rd pl pc rg a m 1007) (m+1)=true):=by
      show (zh _ m && Ys rd pl pc rg a m 1007)=true
      rw [HA.out,HREM2.out (by omega)];rfl
     clear HREM2 HVB HTG
     go_wp2_with fail
     go_big_quiet ((fail))
     go_wp2_with fail
     go_roundw
     case rel=>exact⟨m+1,by omega,by go_num,HALL.out,_,rfl⟩
     case measure=>simp [intOf];omega
  ·have e:m=n:=by omega
   subst e
   have hmi:¬(m:Int)<(m:Int):=by omega
   have HT:Hid (zej rd pl pc rg m a=true):=HA.out
   go_wp2_with fail
   go_ret
   exact⟨z7 HT.out.symm,zb4 _ _ _ _ _ _⟩
end Go.Proofs.YtjoapiafpahihabGreat
