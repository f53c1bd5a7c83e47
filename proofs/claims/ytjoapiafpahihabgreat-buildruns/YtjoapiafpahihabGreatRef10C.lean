import Derived.Test.YtjoapiafpahihabGreatRef10Lay
import Derived.Test.YtjoapiafpahihabGreatRef3B
import Derived.Test.YtjoapiafpahihabGreatRef10B
namespace Go.Proofs.YtjoapiafpahihabGreat
open Go.RowKit Go.Joins
set_option linter.unusedVariables false
set_option linter.unusedSimpArgs false
set_option maxRecDepth 8192
variable {w:World} {v:Value}
theorem zfh (L:Lp) (t:Tg) (K:Kn) (O:List Int) (B:List (List Int)) (R:List Int) (gD:Int):(xS L t K O B R gD).length=L.o.length:=by unfold xS;simp
theorem zfi (L:Lp) (t:Tg) (K:Kn) (O:List Int) (B:List (List Int)) (R:List Int) (gD:Int) (i:Nat) (h:i<L.o.length):nth (xS L t K O B R gD) i=if 0<gD then nth R ((zr K O (nth L.o i).toNat+gD - 1) % t.r).toNat else nth (zv B (nth L.o i).toNat) 0:=by
 unfold xS nth;simp [List.getD,h]
theorem zob {zs:List Int} (h:zK w v zs):∀i,I64 (nth zs i):=by
 obtain⟨a,cap,-,-,-,h3,-⟩:=h
 intro i
 by_cases hi:i<zs.length
 ·exact h3 i hi
 ·have:nth zs i=0:=by show (zs[i]?).getD 0=0;rw [List.getElem?_eq_none (by omega)];rfl
  rw [this];exact Uj
theorem Ud {rs:List (List Int)} (h:yo w v rs):Y1 rs:=by
 obtain⟨a,cap,-,-,-,hc⟩:=h
 intro i j
 by_cases hi:i<rs.length
 ·obtain⟨b,off,-,-,h2⟩:=hc (by omega)
  obtain⟨u,-,h3⟩:=h2 i hi
  exact zob h3 j
 ·have:zv rs i=[]:=by show (rs[i]?).getD []=[];rw [List.getElem?_eq_none (by omega)];rfl
  rw [this];exact Uj
theorem zum (L:Lp) (t:Tg) (K:Kn) (O:List Int) (B:List (List Int)) (R:List Int) (gD:Int) (hB:Y1 B) (hR:∀i,I64 (nth R i)):∀i,I64 (nth (xS L t K O B R gD) i):=by
 intro i
 by_cases h:i<L.o.length
 ·rw [zfi _ _ _ _ _ _ _ _ h]
  split
  ·exact hR _
  ·exact hB _ _
 ·have:nth (xS L t K O B R gD) i=0:=by
   show ((xS L t K O B R gD)[i]?).getD 0=0
   rw [List.getElem?_eq_none (by rw [zfh];omega)];rfl
  rw [this];exact Uj
theorem zq2 (L:Lp) (t:Tg) (K:Kn) (O:List Int) (B:List (List Int)):(xA L t K O B).length=t.r.toNat:=by unfold xA;simp
theorem zyj {F V:List Int} (hV:∀i,I64 (nth V i)):∀m c,I64 (Up F V m c):=by
 intro m
 induction m with
 | zero=>intro c;exact Uj
 | succ m ih =>
   intro c
   show I64 (YH (Up F V m) (nth F m).toNat (nth V m) c)
   unfold YH
   split
   ·exact hV m
   ·exact ih c
theorem zxn (len:Nat->Nat) (g:Nat->Nat->Int) (hg:∀s q,I64 (g s q)):∀k i,I64 (nth (Yl len g k) i):=by
 have hall:∀k x,x∈Yl len g k->I64 x:=by
  intro k
  induction k with
  | zero=>intro x hx;cases hx
  | succ k ih =>
    intro x hx
    have hx':x∈Yl len g k++(List.range (len k)).map (g k):=hx
    rcases List.mem_append.1 hx' with hx2 | hx2
    ·exact ih x hx2
    ·obtain⟨y,-,rfl⟩:=List.mem_map.1 hx2
     exact hg _ _
 intro k i
 by_cases hi:i<(Yl len g k).length
 ·refine hall k _ ?_
  unfold nth
  rw [List.getD,List.getElem?_eq_getElem hi]
  exact List.getElem_mem _
 ·have:nth (Yl len g k) i=0:=by show ((Yl len g k)[i]?).getD 0=0;rw [List.getElem?_eq_none (by omega)];rfl
  rw [this];exact Uj
theorem zj5 {g n:Nat} {e:TypeId} {f:Nat->Int} (h:zu w g e n (fun c=>iV (f c))) (hn:n<=maxLen) (hf:∀c,I64 (f c)):zK w (.slice (pA g) n n) ((List.range n).map f):=by
 have hl:((List.range n).map f).length=n:=by simp
 refine⟨_,n,by rw [hl],by rw [hl];exact Nat.le_refl _,hn,fun i hi=>?_,fun _=>⟨g,0,rfl,h.lt,fun i hi=>?_⟩⟩
 ·rw [hl] at hi;rw [xI hi];exact hf i
 ·rw [hl] at hi;rw [Nat.zero_add,xI hi];exact h.cell hi
end Go.Proofs.YtjoapiafpahihabGreat
