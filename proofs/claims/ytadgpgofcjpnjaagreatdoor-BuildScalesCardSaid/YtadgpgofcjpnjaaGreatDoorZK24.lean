/- Part. -/
import Derived.Test.YtadgpgofcjpnjaaGreatDoorZK16
set_option linter.unusedVariables false
set_option linter.defProp false
set_option linter.unusedSimpArgs false
set_option maxRecDepth 100000
set_option maxHeartbeats 16000000
namespace Go.Proofs.YtadgpgofcjpnjaaGreatDoor
open Go.Proofs.Tryz
open Go.RowKit
structure zbV (w0:World)(k:Int)(m:zah)(u xv yv:Value)(b:Nat)(ok:Bool)(w:World):Prop where
 at':w.heap[b]?=some (.cells #[.int .i64 k,xv,yv,.int .i64 m.kind,.int .i64 m.start,.string m.lead,u,.bool ok] 48 (0,0))
 old:w0.heap.size<=b
 gr:w0.grownBy w none
def zbV.lt {w0:World}{k:Int}{m:zah}{u xv yv:Value}{b:Nat}{ok:Bool}{w:World}(h:zbV w0 k m u xv yv b ok w):b<w.heap.size:=(zqad.1 h.at').1
def zbV.grown {w0:World}{k:Int}{m:zah}{u xv yv:Value}{b:Nat}{ok:Bool}{w w':World}(h:zbV w0 k m u xv yv b ok w)(hg:w.grownBy w' none):zbV w0 k m u xv yv b ok w' :=
 ⟨(hg.block b h.lt (by simp)).trans h.at',h.old,zaa h.gr hg⟩
def zbV.other {w0:World}{k:Int}{m:zah}{u xv yv:Value}{b c:Nat}{ok:Bool}{w w':World}(h:zbV w0 k m u xv yv b ok w)(hg:w.grownBy w' (some c))(hc:w0.heap.size<=c)(hne:b≠c):zbV w0 k m u xv yv b ok w' :=
 ⟨(hg.block b h.lt (by simpa using fun e=>hne e)).trans h.at',h.old,zae h.gr hg hc⟩
def zbV.set {w0:World}{k:Int}{m:zah}{u xv yv:Value}{b:Nat}{ok:Bool}{w:World}(h:zbV w0 k m u xv yv b ok w)(ok':Bool):zbV w0 k m u xv yv b ok' (w.setCell ⟨b,7,none⟩ (.bool ok')) :=
 ⟨by rw[heap_setCell_same w b 7 _ _ (.bool ok') h.at'];rfl,h.old,zae h.gr (zad w ⟨b,7,none⟩ (.bool ok')) h.old⟩
def zni {k:Int}(w0:World)(m:zah)(u xv yv:Value)(b:Nat)(ok:Bool)(r:El k)(w:World)(e:Ending)(w':World):Prop :=
 ∃ (t:El k) (ok':Bool),e=.returned (.string (tx t))/\w.grownBy w' (some b)/\zbV w0 k m u xv yv b ok' w'/\zav t/\(ok'=true->ok=true/\t=r)
def ziE {k:Int}(hk:zam k)(w0:World)(m:zah)(u xv yv:Value)(b:Nat)(ok:Bool)(x y:El k)(fx:zav x)(fy:zav y)(w:World)(hb:zbV w0 k m u xv yv b ok w) :
  Calls prog 30 #[.pointer (some ⟨b,0,none⟩),.string (tx x),.string (tx y)] w (zni w0 m u xv yv b ok ((srE k hk).add x y) w):=by
 have hop:SOp 59 k (tx x) (tx y) (zdm ((srE k hk).add x y).1):=zix (zcW fx) (zcW fy);have HB:=zHd hb;have HX:=zHd fx;have d0:=zqbw w b 0 _ _ (0,0) hb.at';have d7:=zqbw w b 7 _ _ (0,0) hb.at';generalize hr:(srE k hk).add x y=r at *;rcases zgi r with⟨hf,hE⟩|⟨hf,hE⟩
 ·rw[hE] at hop
  have HOP:=zHd hop;have HF:=zHd hf;generalize htx:tx x=X at *;generalize tx y=Y at *;clear hop hE hb hr hf fx fy;have HT:=zHd htx;clear htx;go_enter func30,ntmps30;go_wp2_with fail;refine(HOP.out w).mono ?_;rintro e w1 ⟨rfl,hg1⟩;have hb1:=HB.out.grown hg1;have e0:=hg1.cell d0 (by simp);have e7:=hg1.cell d7 (by simp);have z7:=zqbx w1 b 7 _ _ hb1.at';have HB1:=zHd hb1;have HG:=zHd hg1;clear hb1 hg1 d0 d7;cases ok
  ·go_wp2
   exact zQbG
  exact zQbE
 rw[hE] at hop;have HOP:=zHd hop;have HF:=zHd hf;generalize htx:tx x=X at *;generalize tx y=Y at *;clear hop hE hb hr hf fx fy;have HT:=zHd htx;clear htx;go_enter func30,ntmps30;go_wp2_with fail;refine(HOP.out w).mono ?_;rintro e w1 ⟨rfl,hg1⟩;have hb1:=HB.out.grown hg1;have e0:=hg1.cell d0 (by simp);have e7:=hg1.cell d7 (by simp);have z7:=zqbx w1 b 7 _ _ hb1.at';have HB1:=zHd hb1;have HG:=zHd hg1;clear hb1 hg1 d0 d7;cases ok
 ·go_wp2
  exact zQaN
 go_wp2;exact zQaN
def zfD {k:Int}(hk:zam k)(w0:World)(m:zah)(u xv yv:Value)(b:Nat)(ok:Bool)(x y:El k)(fx:zav x)(fy:zav y)(w:World)(hb:zbV w0 k m u xv yv b ok w) :
  Calls prog 33 #[.pointer (some ⟨b,0,none⟩),.string (tx x),.string (tx y)] w (zni w0 m u xv yv b ok ((srE k hk).mul x y) w):=by
 have hop:SOp 61 k (tx x) (tx y) (zdm ((srE k hk).mul x y).1):=zlq (zcW fx) (zcW fy);have HB:=zHd hb;have HX:=zHd fx;have d0:=zqbw w b 0 _ _ (0,0) hb.at';have d7:=zqbw w b 7 _ _ (0,0) hb.at';generalize hr:(srE k hk).mul x y=r at *;rcases zgi r with⟨hf,hE⟩|⟨hf,hE⟩
 ·rw[hE] at hop
  have HOP:=zHd hop;have HF:=zHd hf;generalize htx:tx x=X at *;generalize tx y=Y at *;clear hop hE hb hr hf fx fy;have HT:=zHd htx;clear htx;go_enter func33,ntmps33;go_wp2_with fail;refine(HOP.out w).mono ?_;rintro e w1 ⟨rfl,hg1⟩;have hb1:=HB.out.grown hg1;have e0:=hg1.cell d0 (by simp);have e7:=hg1.cell d7 (by simp);have z7:=zqbx w1 b 7 _ _ hb1.at';have HB1:=zHd hb1;have HG:=zHd hg1;clear hb1 hg1 d0 d7;cases ok
  ·go_wp2
   exact zQbG
  exact zQbE
 rw[hE] at hop;have HOP:=zHd hop;have HF:=zHd hf;generalize htx:tx x=X at *;generalize tx y=Y at *;clear hop hE hb hr hf fx fy;have HT:=zHd htx;clear htx;go_enter func33,ntmps33;go_wp2_with fail;refine(HOP.out w).mono ?_;rintro e w1 ⟨rfl,hg1⟩;have hb1:=HB.out.grown hg1;have e0:=hg1.cell d0 (by simp);have e7:=hg1.cell d7 (by simp);have z7:=zqbx w1 b 7 _ _ hb1.at';have HB1:=zHd hb1;have HG:=zHd hg1;clear hb1 hg1 d0 d7;cases ok
 ·go_wp2
  exact zQaN
 go_wp2;exact zQaN
end Go.Proofs.YtadgpgofcjpnjaaGreatDoor
