import Derived.Test.YtjoapiafpahihabGreatRef3A
import Derived.Lib.SliceRun
set_option maxHeartbeats 20000000
namespace Go.Proofs.YtjoapiafpahihabGreat
open Go.Proofs.Tryz
open Go.RowKit Go.Joins
set_option linter.unusedVariables false
theorem zf0 (v:Value) (zs:List Int) (w:World) (h:zK w v zs) (h0:0<zs.length) (h32:zs.length<=32) :
  Calls prog 67 #[v] w fun e w'=>∃g cap,e=.returned (.slice (pA g) zs.length cap)/\w.heap.size<=g/\cap<=maxLen /\
   xX w' g 2 cap zs.length (fun j=>iV (nth zs j))/\Bw w w':=by
 obtain⟨a,rc,rfl,hl,hm,hr,hc⟩:=h
 unfold maxLen at hm
 obtain⟨b2,o2,rfl,hb2,hcell2⟩:=hc h0
 obtain⟨i0,hi,hz0,hz1,hz2⟩:=info_parts Tryz.i2
 have hq:∀(w:World) (a:Option Addr) (n c n' c':Nat),(binOp .eql 63 (.slice a n c) (.slice none n' c')).run prog w=.ok (.bool a.isNone) w:=fun w a n c n' c'=>Lib.run_eql_slice_nil w _ _ a n c n' c' underlying63
 have hbe:Bw w (w.alloc (.cells #[] 2)):=below_alloc1 _ _
 have N1:Hid ((zs.map (Value.int .i64)).length=zs.length*1):=by show _=_;simp
 have N2:Hid (∀j u,(zs.map (Value.int .i64))[j]?=some u->(w.alloc (.cells #[] 2)).cell? (((ad b2 o2):Addr).add j)=some u):=zg4 (fun i hi=>by
  rw [zf hbe _ _ hb2];exact hcell2 i hi)
 have N3:=z9 (zj6 zs)
 clear hc hcell2 hr
 go_enter func67,ntmps67
 go_wp2_with (at_builtin;refine wpList_append_own _ rfl (.tmp 5) (.tmp 6) 63 rfl w.heap.size 2 i0 (iV 0) 1 8 underlying63 hi hz0 hz1 hz2 rfl (by decide) _ _ _ rfl (U8 w 2) (ad b2 o2) _ rc _ rfl N1.out N2.out N3.out (by unfold maxLen;omega) (by omega) (by simp) ?_;intro v1 w1 gM gL hnil1;obtain⟨g1,gB,rfl,-,-,-,-⟩:=yx gM (.inr (by omega));go_must (have HB1:=zbh gL);have HO1:=z9 gM;clear gM)
 go_ret
 simp only [Nat.zero_add] at HO1 ⊢
 obtain⟨h1,h2,h3⟩:=zvq HO1.out
 refine⟨g1,gB,rfl,h1,h2,h3.congr fun j hj=>?_,HB1⟩
 rw [List.nil_append]
 exact XI zs j hj
def zp3 (f:Nat->Int):Nat->Int:=fun j=>if j=0 then f 2 else if j=2 then f 0 else f j
theorem zk2 (g cap:Nat) (f:Nat->Int) (w:World) (h:xX w g 2 cap 3 (fun j=>iV (f j))) (hm:cap<=maxLen) :
  Calls prog 110 #[.slice (pA g) 3 cap] w fun e w'=>e=.returned (.tuple #[])/\xX w' g 2 cap 3 (fun j=>iV (zp3 f j))/\∀B,B<=g->Below B w w':=by
 unfold maxLen at hm
 have c0:=h.row.cell (i:=0) (by omega)
 have c2:=h.row.cell (i:=2) (by omega)
 have f0:=h.row.frozen 0
 have f2:=h.row.frozen 2
 have hle:=h.le
 have HX:=z9 h
 clear h
 go_enter func110,ntmps110
 go_wp2_with fail
 go_loopw [2,3] (fun i j wr=>(i=iV 0/\j=iV 2/\wr=w)\/(i=iV 1/\j=iV 1/\xX wr g 2 cap 3 (fun j=>iV (zp3 f j))/\∀B,B<=g->Below B w wr)) (fun i _ _=>2 - (intOf i).toNat)
 case atStart=>exact .inl ⟨rfl,rfl,rfl⟩
 case round =>
  rcases hrel with ⟨rfl,rfl,rfl⟩ | ⟨rfl,rfl,hx,hk⟩
  ·go_wp2_with fail
   go_region
   go_wp2_with fail
   go_roundw
   case rel =>
    refine .inr ⟨rfl,rfl,?_,fun B hB=>?_⟩
    ·have h:=((HX.out.set 0 (iV (f 2)) (by omega)).set 2 (iV (f 0)) (by omega))
     refine xX.congr h fun j hj=>?_
     unfold zp3
     by_cases e0:j=0
     ·subst e0;rfl
     ·by_cases e2:j=2
      ·subst e2;rfl
      ·simp [e0,e2]
    ·exact (((Below.refl _ _).setCell (by show B<=g;exact hB) _).setCell (by show B<=g;exact hB) _).drew
   case measure=>simp [intOf]
  ·have HX2:=z9 hx
   have HK:=z9 hk
   clear hx hk
   go_wp2_with fail
   go_end0
   exact⟨rfl,HX2.out,HK.out⟩
end Go.Proofs.YtjoapiafpahihabGreat
